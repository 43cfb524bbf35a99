/- What package scan's kinds of bytes and over answer; and the document's kinds. -/
import Derived.Test.YtlkdenanbofliaaGreatDoorProg
import Derived.Test.YtlkdenanbofliaaGreatDoorSc
import Derived.WalkKit
import Derived.RowKit
import Derived.Lib.SmallJoins
namespace Go.Proofs.YtlkdenanbofliaaGreatDoor
open Go.RowKit
set_option linter.unusedVariables false
set_option linter.unusedSimpArgs false

theorem retB {a b : Bool} (h : a = b) : Ending.returned (.bool a) = .returned (.bool b) := by rw [h]
theorem withinC (b l h : Int) (w : World) : Calls Tryz.prog 91 #[.int .u8 b, .int .u8 l, .int .u8 h] w fun e w' => e = .returned (.bool (Sc.wi l h b)) ∧ w' = w := by
  by_cases h1 : l ≤ b
  · by_cases h2 : b ≤ h
    · have HE : Hid (true = Sc.wi l h b) := (Sc.wi_yes h1 h2).symm
      go_enter Tryz.func91, Tryz.ntmps91
      go_wp2
      go_ret
      exact ⟨retB HE.out, rfl⟩
    · have HE : Hid (false = Sc.wi l h b) := (Sc.wi_no2 h2).symm
      go_enter Tryz.func91, Tryz.ntmps91
      go_wp2
      go_ret
      exact ⟨retB HE.out, rfl⟩
  · have HE : Hid (false = Sc.wi l h b) := (Sc.wi_no1 h1).symm
    go_enter Tryz.func91, Tryz.ntmps91
    go_wp2
    go_ret
    exact ⟨retB HE.out, rfl⟩

theorem isDigitC (c : Nat) (w : World) : Calls Tryz.prog 74 #[.int .u8 c] w fun e w' => e = .returned (.bool (Sc.digitB c)) ∧ w' = w := by
  go_enter Tryz.func74, Tryz.ntmps74
  go_wp2_with (go_at_call 91; refine (withinC _ _ _ _).mono ?_; rintro e w' ⟨rfl, rfl⟩)
  go_ret
  exact ⟨rfl, rfl⟩

set_option maxHeartbeats 1000000 in
theorem over_isDigit (s : ByteArray) (i : Nat) (hs : s.size ≤ maxLen) (hi : i ≤ s.size) (w : World) : Calls Tryz.prog 90 #[.string s, .int .i64 i, .func (.func 74) #[] #[]] w fun e w' => e = .returned (.int .i64 (Sc.ov Sc.digitB s i : Nat)) ∧ w' = w := by
  unfold maxLen at hs
  go_enter Tryz.func90, Tryz.ntmps90
  go_wp2
  go_loop [1] (fun v => ∃ k : Nat, i ≤ k ∧ k ≤ s.size ∧ v = .int .i64 k ∧ Hid (∀ j, i ≤ j → j < k → Sc.digitB (Sc.bt s j) = true)) (fun v => s.size - (intOf v).toNat)
  case atStart => exact ⟨i, Nat.le_refl _, hi, rfl, fun j h1 h2 => by omega⟩
  case round =>
    obtain ⟨k, hk0, hk, rfl, hd⟩ := hrel
    by_cases hlt : k < s.size
    · have hb := Sc.bt_at hlt
      have hlt' : (k : Int) < (s.size : Int) := by omega
      cases ht : Sc.digitB (Sc.bt s k) with
      | true =>
        have HS : Hid (∀ j, i ≤ j → j < k + 1 → Sc.digitB (Sc.bt s j) = true) := fun j h1 h2 => by
          by_cases hj : j = k
          · rw [hj]; exact ht
          · exact hd j h1 (by omega)
        go_wp2_with (go_at_call 74; refine (isDigitC _ _).mono ?_; rintro e w' ⟨rfl, rfl⟩)
        go_round
        case rel => exact ⟨k + 1, by omega, by omega, by go_num, HS⟩
        case measure => simp [intOf]; omega
      | false =>
        have HE : Hid (Sc.ov Sc.digitB s i = k) := Sc.ov_of ⟨hk0, hk, hd, fun _ => ht⟩
        go_wp2_with (go_at_call 74; refine (isDigitC _ _).mono ?_; rintro e w' ⟨rfl, rfl⟩)
        go_ret
        exact ⟨by rw [HE.out]; rfl, rfl⟩
    · have HE : Hid (Sc.ov Sc.digitB s i = k) := Sc.ov_of ⟨hk0, hk, hd, fun h => absurd h hlt⟩
      go_wp2
      go_ret
      exact ⟨by rw [HE.out]; rfl, rfl⟩
end Go.Proofs.YtlkdenanbofliaaGreatDoor
