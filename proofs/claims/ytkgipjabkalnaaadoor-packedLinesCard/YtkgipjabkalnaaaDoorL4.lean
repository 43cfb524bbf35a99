/- What the small functions of package life answer: bit, has, upTo, takes, nextDigit, takeHood. -/
import Derived.Test.YtkgipjabkalnaaaDoorLb
import Derived.Test.YtkgipjabkalnaaaDoorH1
namespace Go.Proofs.YtkgipjabkalnaaaDoor
open Go.RowKit
set_option linter.unusedVariables false
set_option linter.unusedSimpArgs false
set_option maxRecDepth 100000

theorem bitC (n : Nat) (hn : n < 16) (w : World) : Calls Tryd.prog 36 #[.int .i64 n] w fun e w' => e = .returned (.int .u16 ((2 ^ n : Nat) : Int)) ∧ w' = w := by
  have hp : Hid (IntKind.u16.wrap (2 ^ n) = ((2 ^ n : Nat) : Int)) := by
    have h := Lf.p16 hn
    unfold Hid
    rw [IntKind.wrap_u16]
    have e : (2 : Int) ^ n = ((2 ^ n : Nat) : Int) := by simp
    rw [e]
    generalize 2 ^ n = q at h
    omega
  go_enter Tryd.func36, Tryd.ntmps36
  go_wp2
  go_ret
  exact ⟨congrArg (fun x => Ending.returned (Value.int .u16 x)) hp.out, rfl⟩
theorem upToC (n : Nat) (hn : n < 15) (w : World) : Calls Tryd.prog 29 #[.int .i64 n] w fun e w' => e = .returned (.int .u16 ((2 ^ (n + 1) - 1 : Nat) : Int)) ∧ w' = w := by
  have hb : ∀ w, Calls Tryd.prog 36 #[.int .i64 ((n : Int) + 1)] w fun e w' => e = .returned (.int .u16 ((2 ^ (n + 1) : Nat) : Int)) ∧ w' = w := bitC (n + 1) (by omega)
  have h2 := Lf.p16 (k := n + 1) (by omega)
  have h3 : 0 < 2 ^ (n + 1) := Nat.two_pow_pos _
  have hw : IntKind.u16.wrap (((2 ^ (n + 1) : Nat) : Int) - 1) = ((2 ^ (n + 1) - 1 : Nat) : Int) := by rw [IntKind.wrap_u16]; omega
  generalize 2 ^ (n + 1) = q at hb h2 h3 hw ⊢
  go_enter Tryd.func29, Tryd.ntmps29
  go_wp2_with (first | (go_at_call 36; refine (hb _).mono ?_; rintro e w' ⟨rfl, rfl⟩))
  go_ret
  exact ⟨rfl, rfl⟩
end Go.Proofs.YtkgipjabkalnaaaDoor
