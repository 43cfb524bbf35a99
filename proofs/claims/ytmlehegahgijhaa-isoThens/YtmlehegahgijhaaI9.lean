/- What the statements make of any numbers: a map that may be, a place near by; a number without its sign. -/
import Derived.Test.YtmlehegahgijhaaI7
namespace Go.Proofs.Ytmlehegahgijhaa
open Go.RowKit
open Fl
set_option linter.unusedVariables false
set_option linter.unusedSimpArgs false
set_option maxRecDepth 100000
abbrev I64 (x : Int) : Prop := -9223372036854775808 ≤ x ∧ x ≤ 9223372036854775807
theorem both0 : ∀ k, k < 8 → both k 0 = k := by decide
/-- A number of at most 2^30. -/
def rd (x : Int) : Int := x.tmod 1073741824
theorem rd_bd (x : Int) : -1073741824 < rd x ∧ rd x < 1073741824 := by
  unfold rd
  have h1 := Int.lt_tmod_of_pos x (show (0:Int) < 1073741824 by decide)
  have h2 := Int.tmod_lt_of_pos x (show (0:Int) < 1073741824 by decide)
  omega
/-- The number of a linear part. -/
def kp (k : Int) : Nat := ((k.tmod 8 + 8).tmod 8).toNat
theorem kp_is (k : Int) : (k.tmod 8 + 8).tmod 8 = (kp k : Int) ∧ kp k < 8 ∧ IntKind.i64.wrap (k.tmod 8 + 8) = k.tmod 8 + 8 := by
  have h1 := Int.lt_tmod_of_pos k (show (0:Int) < 8 by decide)
  have h2 := Int.tmod_lt_of_pos k (show (0:Int) < 8 by decide)
  have h3 := Int.tmod_lt_of_pos (k.tmod 8 + 8) (show (0:Int) < 8 by decide)
  have h4 : 0 ≤ (k.tmod 8 + 8).tmod 8 := Int.tmod_nonneg _ (by omega)
  refine ⟨?_, ?_, ?_⟩
  · unfold kp; omega
  · unfold kp; omega
  · rw [IntKind.wrap_i64]; omega
theorem near_lt {x : Int} (h : x.natAbs ≤ 1099511627776) : nearB x = true := decide_eq_true h
theorem part_val {K : Nat} (h : K < 8) : lx 0 0 0 + 0 = 0 := rfl
theorem l0 (x y : Int) : lx 0 x y = x ∧ ly 0 x y = y := by
  have h1 : tx 0 = 1 := rfl
  have h2 : ty 0 = 0 := rfl
  have h3 : fl4 0 = false := rfl
  unfold lx ly cj
  rw [h1, h2, h3]
  simp
theorem l_zero (k : Nat) : lx k 0 0 = 0 ∧ ly k 0 0 = 0 := by
  unfold lx ly cj
  split <;> simp
end Go.Proofs.Ytmlehegahgijhaa
