/- What the document's smallest functions of layer 6 answer. -/
import Derived.Test.YtgiiaokkmnjckabF1
import Derived.Test.YtgiiaokkmnjckabT7
namespace Go.Proofs.Ytgiiaokkmnjckab
open Go.RowKit
open Fl
set_option linter.unusedVariables false
set_option linter.unusedSimpArgs false
set_option maxRecDepth 100000

theorem mod_twice {a n : Int} (hn : 1 ≤ n) : (a.tmod n + n).tmod n = a % n := by
  have h1 := Int.mul_tdiv_add_tmod a n
  have h2 := Int.lt_tmod_of_pos a (show (0:Int) < n by omega)
  rw [Int.tmod_eq_emod_of_nonneg (by omega), Int.add_emod_right]
  have h3 : a = a.tmod n + n * a.tdiv n := by omega
  conv => rhs; rw [h3]
  rw [Int.add_mul_emod_self_left]
theorem mod_twice' {a n : Int} (hn : 1 ≤ n) : (a.tmod n + n) % n = a % n := by
  have h2 := Int.lt_tmod_of_pos a (show (0:Int) < n by omega)
  have := mod_twice (a := a) hn
  rw [Int.tmod_eq_emod_of_nonneg (by omega)] at this
  exact this
theorem over_is {a n : Int} (hn : 1 ≤ n) : (a - a % n).tdiv n = a / n := by
  have h1 := Int.mul_ediv_add_emod a n
  rw [show a - a % n = n * (a / n) by omega, Int.mul_tdiv_cancel_left _ (by omega)]

/-- Is it a kind that is glued? -/
def glB (k : Int) : Bool := decide (k = 2 ∨ k = 3 ∨ k = 4)

theorem refGluedC (k x y t z : Int) (w : World) : Calls Try.prog 13 #[.agg #[.int .u8 k, .int .i64 x, .int .i64 y, .int .u8 t, .int .i64 z]] w fun e w' => e = .returned (.bool (glB k)) ∧ w.grownBy w' none := by
  obtain ⟨W1, hW1, sz1, g1, B1⟩ := boxn w #[.int .u8 k, .int .i64 x, .int .i64 y, .int .u8 t, .int .i64 z] 23
  have b1_1_0 := B1.cell 0 (v := .int .u8 k) rfl
  have b1_1_1 := B1.cell 1 (v := .int .i64 x) rfl
  have b1_1_2 := B1.cell 2 (v := .int .i64 y) rfl
  have b1_1_3 := B1.cell 3 (v := .int .u8 t) rfl
  have b1_1_4 := B1.cell 4 (v := .int .i64 z) rfl
  cases h1 : (k == 2) <;> cases h2 : (k == 3) <;> cases h3 : (k == 4)
  all_goals
    have HX : Hid (k = 2 ↔ (k == 2) = true) := beq_iff_eq.symm
    have HY : Hid (k = 3 ↔ (k == 3) = true) := beq_iff_eq.symm
    have HZ : Hid (k = 4 ↔ (k == 4) = true) := beq_iff_eq.symm
    go_enter Try.func13, Try.ntmps13
    go_wp2
    go_ret
    refine ⟨retB ?_, g1⟩
    unfold glB
    have a1 := HX.out
    have a2 := HY.out
    have a3 := HZ.out
    rw [h1] at a1
    rw [h2] at a2
    rw [h3] at a3
    first | (symm; exact decide_eq_true (by simp only [a1, a2, a3]; simp)) | (symm; exact decide_eq_false (by simp only [a1, a2, a3]; simp))
end Go.Proofs.Ytgiiaokkmnjckab
