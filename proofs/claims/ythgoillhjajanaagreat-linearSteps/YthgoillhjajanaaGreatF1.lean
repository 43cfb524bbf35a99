/- What the smallest functions of package fold answer: tiles, remainders, odd numbers; and whole.Near. -/
import Derived.Test.YthgoillhjajanaaGreatParts
import Derived.Test.YthgoillhjajanaaGreatFo
import Derived.Test.YthgoillhjajanaaGreatIx
import Derived.Laws.BitsLemmas
namespace Go.Proofs.YthgoillhjajanaaGreat.Fd
open Go.RowKit
set_option linter.unusedVariables false
set_option linter.unusedSimpArgs false
set_option maxRecDepth 100000

theorem retI {a b : Int} (h : a = b) : Ending.returned (.int .i64 a) = .returned (.int .i64 b) := by rw [h]
theorem retB {a b : Bool} (h : a = b) : Ending.returned (.bool a) = .returned (.bool b) := by rw [h]
theorem and1 (n : Int) : bits .and .i64 n 1 = n % 2 := by
  have h1 : (BitVec.ofInt 64 1).toNat = 2 ^ 1 - 1 := by decide
  have key : (BitVec.ofInt 64 n &&& BitVec.ofInt 64 1).toNat = (n % ((2 ^ 64 : Nat) : Int)).toNat % 2 ^ 1 := by
    rw [BitVec.toNat_and, BitVec.toNat_ofInt, h1, Nat.and_two_pow_sub_one_eq_mod]
  show IntKind.i64.wrap ((BitVec.ofInt 64 n &&& BitVec.ofInt 64 1).toNat : Nat) = n % 2
  rw [key, IntKind.wrap_i64]
  omega
/-- Is a number odd? -/
def odB (n : Int) : Bool := decide (n % 2 = 1)
theorem isOddC (n : Int) (w : World) : Calls Tryz.prog 112 #[.int .i64 n] w fun e w' => e = .returned (.bool (odB n)) ∧ w' = w := by
  have h := and1 n
  by_cases q : n % 2 = 1
  all_goals
    go_enter Tryz.func112, Tryz.ntmps112
    go_wp2
    go_ret
    refine ⟨retB ?_, rfl⟩
    unfold odB
    simp [h, q]
  omega
theorem tileOfC (n l : Int) (h1 : -9223372036854775808 ≤ n) (h2 : n ≤ 9223372036854775807) (h3 : -9223372036854775808 ≤ l) (h4 : l ≤ 9223372036854775807) (w : World) : Calls Tryz.prog 99 #[.int .i64 n, .int .i64 l] w fun e w' => e = .returned (.int .i64 (Nm.divZ n l)) ∧ w' = w := by
  have hd := fun w => divI n l w h1 h2 h3 h4
  go_enter Tryz.func99, Tryz.ntmps99
  go_wp2_with (first | (go_at_call 68; refine (hd _).mono ?_; rintro e w' ⟨rfl, hw'⟩; subst w'))
  go_ret
  exact ⟨rfl, rfl⟩
theorem withinC (n l : Int) (h1 : -9223372036854775808 ≤ n) (h2 : n ≤ 9223372036854775807) (h3 : -9223372036854775808 ≤ l) (h4 : l ≤ 9223372036854775807) (w : World) : Calls Tryz.prog 114 #[.int .i64 n, .int .i64 l] w fun e w' => e = .returned (.int .i64 (Fo.wi n l)) ∧ w' = w := by
  have hd := fun w => modI n l w h1 h2 h3 h4
  by_cases q : l < 1
  · rw [Nm.posB_no q] at hd
    have HX : Hid (Fo.wi n l = n) := by unfold Hid Fo.wi; rw [if_pos q]
    go_enter Tryz.func114, Tryz.ntmps114
    go_wp2_with (first | (go_at_call 65; refine (hd _).mono ?_; rintro e w' ⟨rfl, hw'⟩; subst w'))
    go_ret
    exact ⟨retI HX.out.symm, rfl⟩
  · rw [Nm.posB_yes (by omega)] at hd
    have HX : Hid (Fo.wi n l = Nm.modZ n l) := by unfold Hid Fo.wi Nm.modZ; rw [if_neg q, if_neg q]
    go_enter Tryz.func114, Tryz.ntmps114
    go_wp2_with (first | (go_at_call 65; refine (hd _).mono ?_; rintro e w' ⟨rfl, hw'⟩; subst w'))
    go_ret
    exact ⟨retI HX.out.symm, rfl⟩
/-- Does a home number lie on the side or beside it? -/
def toB (n l : Int) : Bool := decide (l = 0) || (decide (-1 ≤ n) && decide (n ≤ l))
/-- What a fault of the topology is told as, or of the place. -/
theorem nearC (v lo hi : Int) (w : World) : Calls Tryz.prog 113 #[.int .i64 v, .int .i64 lo, .int .i64 hi] w fun e w' => e = .returned (.int .i64 (Nm.nearZ v lo hi)) ∧ w' = w := by
  go_enter Tryz.func113, Tryz.ntmps113
  go_wp2
  all_goals go_ret
  all_goals refine ⟨retI ?_, rfl⟩
  all_goals simp only [Nm.nearZ]
  all_goals repeat' split
  all_goals omega
end Go.Proofs.YthgoillhjajanaaGreat.Fd
