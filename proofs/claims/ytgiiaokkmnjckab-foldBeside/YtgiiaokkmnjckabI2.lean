/- Which floats are whole numbers that are not too far: what the program tells. -/
import Derived.Test.YtgiiaokkmnjckabI1
import Derived.Laws.Externs
namespace Go.Proofs.Ytgiiaokkmnjckab
open Go.RowKit
open Fl
set_option linter.unusedVariables false
set_option linter.unusedSimpArgs false
set_option maxRecDepth 100000

theorem archTrunc_run {b r : Nat} (h : ∀ P w, (Extern.MathFloor.toIntegral "math.archTrunc" .zero #[.float .f64 b]).run P w = .ok (.float .f64 r) w) (w : World) : (callFunc 79 #[.float .f64 b]).run Try.prog w = .ok (.value (.float .f64 r)) w := by
  rw [run_callFunc_extern (fn := Try.f79) (e := Extern.MathFloor.toIntegral "math.archTrunc" .zero) (by kernel_rfl) (by kernel_rfl) (by kernel_rfl) (by kernel_rfl) (by kernel_rfl), h]
  rfl
theorem truncC {b r : Nat} (h : ∀ P w, (Extern.MathFloor.toIntegral "math.archTrunc" .zero #[.float .f64 b]).run P w = .ok (.float .f64 r) w) (w : World) : Calls Try.prog 76 #[.float .f64 b] w fun e w' => e = .returned (.float .f64 r) ∧ w' = w := by
  have h' := archTrunc_run h
  go_enter Try.func76, Try.ntmps76
  go_wp2
  go_ret
  exact ⟨rfl, rfl⟩

/-- MaxFar and its opposite, as floats. -/
def hiW : Nat := 4787326403894837248
def loW : Nat := 14010698440749613056
theorem is_hi : Is 4787326403894837248 (2 ^ 40) := ⟨false, 2 ^ 52, -12, by decide, by decide⟩
theorem is_lo : Is 14010698440749613056 (-2 ^ 40) := ⟨true, 2 ^ 52, -12, by decide, by decide⟩

/-- Is it a whole number that is not too far? -/
noncomputable def whB (b : Nat) : Bool := @decide (Wh b) (Classical.propDecidable _)
theorem whB_yes {b : Nat} (h : Wh b) : whB b = true := @decide_eq_true _ (Classical.propDecidable _) h
theorem whB_no {b : Nat} (h : ¬ Wh b) : whB b = false := @decide_eq_false _ (Classical.propDecidable _) h
theorem wh_of {b : Nat} (h : whB b = true) : Wh b := @of_decide_eq_true _ (Classical.propDecidable _) h
abbrev ord (x y : Nat) : Option Ordering := FloatKind.f64.format.order x y
theorem isWholeC (b : Nat) (w : World) : Calls Try.prog 62 #[.float .f64 b] w fun e w' => e = .returned (.bool (whB b)) ∧ w' = w := by
  rcases whole_cases b 14010698440749613056 4787326403894837248 is_lo is_hi with ⟨h1, h⟩ | ⟨h1, h2, h⟩ | ⟨h1, h2, t, r, ht, hi, hr, hrun, hw⟩
  · rw [whB_no h]
    replace h1 : (FloatKind.f64.format.order b 14010698440749613056 == some .gt || FloatKind.f64.format.order b 14010698440749613056 == some .eq) = false := h1
    clear h
    go_enter Try.func62, Try.ntmps62
    go_wp2
    go_ret
    exact ⟨rfl, rfl⟩
  · rw [whB_no h]
    replace h1 : (FloatKind.f64.format.order b 14010698440749613056 == some .gt || FloatKind.f64.format.order b 14010698440749613056 == some .eq) = true := h1
    replace h2 : (FloatKind.f64.format.order b 4787326403894837248 == some .lt || FloatKind.f64.format.order b 4787326403894837248 == some .eq) = false := h2
    clear h
    go_enter Try.func62, Try.ntmps62
    go_wp2
    go_ret
    exact ⟨rfl, rfl⟩
  · have e : (FloatKind.f64.format.order b r == some .eq) = whB b := by
      by_cases q : Is b t
      · rw [whB_yes (hw.2 q)]; exact (order_is' hr).2 q
      · rw [whB_no (fun k => q (hw.1 k))]
        exact Bool.eq_false_iff.2 fun k => q ((order_is' hr).1 k)
    have hh := truncC hrun
    generalize whB b = c at e ⊢
    replace h1 : (FloatKind.f64.format.order b 14010698440749613056 == some .gt || FloatKind.f64.format.order b 14010698440749613056 == some .eq) = true := h1
    replace h2 : (FloatKind.f64.format.order b 4787326403894837248 == some .lt || FloatKind.f64.format.order b 4787326403894837248 == some .eq) = true := h2
    clear hw hrun hr hi ht
    go_enter Try.func62, Try.ntmps62
    go_wp2_with (first | (go_at_call 76; refine (hh _).mono ?_; rintro e w' ⟨rfl, hw'⟩; subst w'))
    go_ret
    exact ⟨rfl, rfl⟩
theorem isPlaceC (a b : Nat) (w : World) : Calls Try.prog 44 #[.complex .f64 a b] w fun e w' => e = .returned (.bool (whB a && whB b)) ∧ w' = w := by
  have hh := isWholeC
  rcases ha : whB a with _ | _
  all_goals
    go_enter Try.func44, Try.ntmps44
    go_wp2_with (first | (go_at_call 62; refine (hh _ _).mono ?_; rintro e w' ⟨rfl, hw'⟩; subst w'))
    go_ret
    exact ⟨rfl, rfl⟩
end Go.Proofs.Ytgiiaokkmnjckab
