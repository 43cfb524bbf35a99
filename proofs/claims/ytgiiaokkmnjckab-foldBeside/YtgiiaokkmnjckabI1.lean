/- What the smallest functions of package iso answer: numbers as floats, noughts without a sign. -/
import Derived.Test.YtgiiaokkmnjckabProg
import Derived.Test.YtgiiaokkmnjckabBo
import Derived.Test.YtgiiaokkmnjckabFl
import Derived.WalkLawsBesides
import Derived.Deep.QuietTactic
namespace Go.Proofs.Ytgiiaokkmnjckab
open Go.RowKit
open Fl
set_option linter.unusedVariables false
set_option linter.unusedSimpArgs false
set_option maxRecDepth 100000

theorem numberC (x y : Int) (w : World) : Calls Try.prog 43 #[.int .i64 x, .int .i64 y] w fun e w' => e = .returned (.complex .f64 (floatOfInt .f64 x) (floatOfInt .f64 y)) ∧ w' = w := by
  go_enter Try.func43, Try.ntmps43
  go_wp2
  go_ret
  exact ⟨rfl, rfl⟩

theorem negF (b : Nat) : Op.unary .neg (.float .f64 b) = pure (.float .f64 (Op.negFloat .f64 b)) := rfl
theorem negC (a b : Nat) : Op.unary .neg (.complex .f64 a b) = pure (.complex .f64 (Op.negFloat .f64 a) (Op.negFloat .f64 b)) := rfl
theorem conjC (a b : Nat) (w : World) : Calls Try.prog 38 #[.complex .f64 a b] w fun e w' => e = .returned (.complex .f64 a (Op.negFloat .f64 b)) ∧ w' = w := by
  have hn := negF
  go_enter Try.func38, Try.ntmps38
  go_wp2
  go_ret
  exact ⟨rfl, rfl⟩

def farB (n : Int) : Bool := decide (n < -1099511627776 ∨ 1099511627776 < n)
theorem isFarC (n : Int) (w : World) : Calls Try.prog 41 #[.int .i64 n] w fun e w' => e = .returned (.bool (farB n)) ∧ w' = w := by
  unfold farB
  by_cases h1 : n < -1099511627776
  · go_enter Try.func41, Try.ntmps41
    go_wp2
    go_ret
    simp [h1]
  · go_enter Try.func41, Try.ntmps41
    go_wp2
    go_ret
    simp; omega

theorem is0 : Is 0 0 := ⟨false, 0, -1074, by decide, by rw [show sg false 0 = 0 from rfl, Int.zero_mul, Int.zero_mul]⟩
/-- A nought without a sign. -/
def pl (b : Nat) : Nat := if (FloatKind.f64.format.order b 0 == some .eq) = true then 0 else b
theorem plainC (b : Nat) (w : World) : Calls Try.prog 61 #[.float .f64 b] w fun e w' => e = .returned (.float .f64 (pl b)) ∧ w' = w := by
  unfold pl
  by_cases h : (FloatKind.f64.format.order b 0 == some .eq) = true
  · rw [if_pos h]
    go_enter Try.func61, Try.ntmps61
    go_wp2
    go_ret
    exact ⟨rfl, rfl⟩
  · rw [if_neg h]
    have h' : (FloatKind.f64.format.order b 0 == some .eq) = false := by simpa using h
    clear h
    go_enter Try.func61, Try.ntmps61
    go_wp2
    go_ret
    exact ⟨rfl, rfl⟩
theorem unsignedC (a b : Nat) (w : World) : Calls Try.prog 39 #[.complex .f64 a b] w fun e w' => e = .returned (.complex .f64 (pl a) (pl b)) ∧ w' = w := by
  go_enter Try.func39, Try.ntmps39
  go_wp2_with (first | (go_at_call 61; refine (plainC _ _).mono ?_; rintro e w' ⟨rfl, hw'⟩; subst w'))
  go_ret
  exact ⟨rfl, rfl⟩
end Go.Proofs.Ytgiiaokkmnjckab
