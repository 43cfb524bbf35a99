/- What package scan's kinds of bytes and over answer; and the document's kinds. -/
import Derived.Test.YtimknahfgpafaaaDoorProg
import Derived.Test.YtimknahfgpafaaaDoorSc
import Derived.WalkKit
import Derived.RowKit
import Derived.Lib.SmallJoins
namespace Go.Proofs.YtimknahfgpafaaaDoor
open Go.RowKit
set_option linter.unusedVariables false
set_option linter.unusedSimpArgs false

theorem retB {a b : Bool} (h : a = b) : Ending.returned (.bool a) = .returned (.bool b) := by rw [h]
theorem withinC (b l h : Int) (w : World) : Calls Tryd.prog 71 #[.int .u8 b, .int .u8 l, .int .u8 h] w fun e w' => e = .returned (.bool (Sc.wi l h b)) ∧ w' = w := by
  by_cases h1 : l ≤ b
  · by_cases h2 : b ≤ h
    · have HE : Hid (true = Sc.wi l h b) := (Sc.wi_yes h1 h2).symm
      go_enter Tryd.func71, Tryd.ntmps71
      go_wp2
      go_ret
      exact ⟨retB HE.out, rfl⟩
    · have HE : Hid (false = Sc.wi l h b) := (Sc.wi_no2 h2).symm
      go_enter Tryd.func71, Tryd.ntmps71
      go_wp2
      go_ret
      exact ⟨retB HE.out, rfl⟩
  · have HE : Hid (false = Sc.wi l h b) := (Sc.wi_no1 h1).symm
    go_enter Tryd.func71, Tryd.ntmps71
    go_wp2
    go_ret
    exact ⟨retB HE.out, rfl⟩

theorem isDigitC (c : Nat) (w : World) : Calls Tryd.prog 54 #[.int .u8 c] w fun e w' => e = .returned (.bool (Sc.digitB c)) ∧ w' = w := by
  go_enter Tryd.func54, Tryd.ntmps54
  go_wp2_with (go_at_call 71; refine (withinC _ _ _ _).mono ?_; rintro e w' ⟨rfl, rfl⟩)
  go_ret
  exact ⟨rfl, rfl⟩

theorem isStateLetterC (c : Nat) (w : World) : Calls Tryd.prog 67 #[.int .u8 c] w fun e w' => e = .returned (.bool (Sc.stateB c)) ∧ w' = w := by
  go_enter Tryd.func67, Tryd.ntmps67
  go_wp2_with (go_at_call 71; refine (withinC _ _ _ _).mono ?_; rintro e w' ⟨rfl, rfl⟩)
  go_ret
  exact ⟨rfl, rfl⟩

theorem beginsTwoC (c : Nat) (w : World) : Calls Tryd.prog 68 #[.int .u8 c] w fun e w' => e = .returned (.bool (Sc.twoB c)) ∧ w' = w := by
  go_enter Tryd.func68, Tryd.ntmps68
  go_wp2_with (go_at_call 71; refine (withinC _ _ _ _).mono ?_; rintro e w' ⟨rfl, rfl⟩)
  go_ret
  exact ⟨rfl, rfl⟩

theorem isBlankC (c : Nat) (w : World) : Calls Tryd.prog 59 #[.int .u8 c] w fun e w' => e = .returned (.bool (Sc.blankB c)) ∧ w' = w := by
  by_cases t0 : (c : Int) = 32 <;> by_cases t1 : (c : Int) = 9
  all_goals
    go_enter Tryd.func59, Tryd.ntmps59
    go_wp2_with (fail)
    all_goals go_ret
    all_goals refine ⟨retB ?_, rfl⟩
    all_goals first | (simp [Sc.blankB, Sc.eqB, *]; done) | (simp [Sc.blankB, Sc.eqB]; done) | (simp [Sc.blankB, Sc.eqB]; omega)

theorem rblankC (c : Nat) (w : World) : Calls Tryd.prog 31 #[.int .u8 c] w fun e w' => e = .returned (.bool (Sc.blankB c)) ∧ w' = w := by
  by_cases t0 : (c : Int) = 32 <;> by_cases t1 : (c : Int) = 9
  all_goals
    go_enter Tryd.func31, Tryd.ntmps31
    go_wp2_with (fail)
    all_goals go_ret
    all_goals refine ⟨retB ?_, rfl⟩
    all_goals first | (simp [Sc.blankB, Sc.eqB, *]; done) | (simp [Sc.blankB, Sc.eqB]; done) | (simp [Sc.blankB, Sc.eqB]; omega)

theorem rwhiteC (c : Nat) (w : World) : Calls Tryd.prog 43 #[.int .u8 c] w fun e w' => e = .returned (.bool (Sc.whiteB c)) ∧ w' = w := by
  by_cases t0 : (c : Int) = 32 <;> by_cases t1 : (c : Int) = 9 <;> by_cases t2 : (c : Int) = 10 <;> by_cases t3 : (c : Int) = 13
  all_goals
    go_enter Tryd.func43, Tryd.ntmps43
    go_wp2_with (fail)
    all_goals go_ret
    all_goals refine ⟨retB ?_, rfl⟩
    all_goals first | (simp [Sc.whiteB, Sc.eqB, *]; done) | (simp [Sc.whiteB, Sc.eqB]; done) | (simp [Sc.whiteB, Sc.eqB]; omega)

theorem isLetterC (c : Nat) (w : World) : Calls Tryd.prog 56 #[.int .u8 c] w fun e w' => e = .returned (.bool (Sc.letterB c)) ∧ w' = w := by
  cases t0 : Sc.wi 65 90 c <;> cases t1 : Sc.wi 97 122 c
  all_goals
    go_enter Tryd.func56, Tryd.ntmps56
    go_wp2_with (go_at_call 71; refine (withinC _ _ _ _).mono ?_; rintro e w' ⟨rfl, rfl⟩)
    all_goals go_ret
    all_goals refine ⟨retB ?_, rfl⟩
    all_goals first | (simp [Sc.letterB, *]; done) | (simp [Sc.letterB]; done) | (simp [Sc.letterB]; omega)

theorem isNamedC (c : Nat) (w : World) : Calls Tryd.prog 57 #[.int .u8 c] w fun e w' => e = .returned (.bool (Sc.namedB c)) ∧ w' = w := by
  cases t0 : Sc.letterB c <;> cases t1 : Sc.digitB c <;> by_cases t2 : (c : Int) = 45 <;> by_cases t3 : (c : Int) = 95
  all_goals
    go_enter Tryd.func57, Tryd.ntmps57
    go_wp2_with (first | (go_at_call 56; refine (isLetterC _ _).mono ?_; rintro e w' ⟨rfl, rfl⟩) | (go_at_call 54; refine (isDigitC _ _).mono ?_; rintro e w' ⟨rfl, rfl⟩))
    all_goals go_ret
    all_goals refine ⟨retB ?_, rfl⟩
    all_goals first | (simp [Sc.namedB, Sc.eqB, *]; done) | (simp [Sc.namedB, Sc.eqB]; done) | (simp [Sc.namedB, Sc.eqB]; omega)

theorem rdigitC (c : Nat) (w : World) : Calls Tryd.prog 44 #[.int .u8 c] w fun e w' => e = .returned (.bool (Sc.digitB c)) ∧ w' = w := by
  by_cases t0 : 48 ≤ (c : Int) <;> by_cases t1 : (c : Int) ≤ 57
  all_goals
    go_enter Tryd.func44, Tryd.ntmps44
    go_wp2_with (fail)
    all_goals go_ret
    all_goals refine ⟨retB ?_, rfl⟩
    all_goals first | (simp [Sc.digitB, Sc.wi, *]; done) | (simp [Sc.digitB, Sc.wi]; done) | (simp [Sc.digitB, Sc.wi]; omega)

theorem rletterC (c : Nat) (w : World) : Calls Tryd.prog 63 #[.int .u8 c] w fun e w' => e = .returned (.bool (Sc.letterB c)) ∧ w' = w := by
  by_cases t0 : 97 ≤ (c : Int) <;> by_cases t1 : (c : Int) ≤ 122 <;> by_cases t2 : 65 ≤ (c : Int) <;> by_cases t3 : (c : Int) ≤ 90
  all_goals
    go_enter Tryd.func63, Tryd.ntmps63
    go_wp2_with (fail)
    all_goals go_ret
    all_goals refine ⟨retB ?_, rfl⟩
    all_goals first | (simp [Sc.letterB, Sc.wi, *]; done) | (simp [Sc.letterB, Sc.wi]; done) | (simp [Sc.letterB, Sc.wi]; omega)

theorem rgoesC (c : Nat) (w : World) : Calls Tryd.prog 64 #[.int .u8 c] w fun e w' => e = .returned (.bool (Sc.namedB c)) ∧ w' = w := by
  cases t0 : Sc.letterB c <;> cases t1 : Sc.digitB c <;> by_cases t2 : (c : Int) = 45 <;> by_cases t3 : (c : Int) = 95
  all_goals
    go_enter Tryd.func64, Tryd.ntmps64
    go_wp2_with (first | (go_at_call 63; refine (rletterC _ _).mono ?_; rintro e w' ⟨rfl, rfl⟩) | (go_at_call 44; refine (rdigitC _ _).mono ?_; rintro e w' ⟨rfl, rfl⟩))
    all_goals go_ret
    all_goals refine ⟨retB ?_, rfl⟩
    all_goals first | (simp [Sc.namedB, Sc.eqB, *]; done) | (simp [Sc.namedB, Sc.eqB]; done) | (simp [Sc.namedB, Sc.eqB]; omega)

theorem isInkC (c : Nat) (w : World) : Calls Tryd.prog 62 #[.int .u8 c] w fun e w' => e = .returned (.bool (Sc.inkB c)) ∧ w' = w := by
  go_enter Tryd.func62, Tryd.ntmps62
  go_wp2_with (go_at_call 59; refine (isBlankC _ _).mono ?_; rintro e w' ⟨rfl, rfl⟩)
  go_ret
  exact ⟨rfl, rfl⟩

set_option maxHeartbeats 1000000 in
theorem over_isBlank (s : ByteArray) (i : Nat) (hs : s.size ≤ maxLen) (hi : i ≤ s.size) (w : World) : Calls Tryd.prog 61 #[.string s, .int .i64 i, .func (.func 59) #[] #[]] w fun e w' => e = .returned (.int .i64 (Sc.ov Sc.blankB s i : Nat)) ∧ w' = w := by
  unfold maxLen at hs
  go_enter Tryd.func61, Tryd.ntmps61
  go_wp2
  go_loop [1] (fun v => ∃ k : Nat, i ≤ k ∧ k ≤ s.size ∧ v = .int .i64 k ∧ Hid (∀ j, i ≤ j → j < k → Sc.blankB (Sc.bt s j) = true)) (fun v => s.size - (intOf v).toNat)
  case atStart => exact ⟨i, Nat.le_refl _, hi, rfl, fun j h1 h2 => by omega⟩
  case round =>
    obtain ⟨k, hk0, hk, rfl, hd⟩ := hrel
    by_cases hlt : k < s.size
    · have hb := Sc.bt_at hlt
      have hlt' : (k : Int) < (s.size : Int) := by omega
      cases ht : Sc.blankB (Sc.bt s k) with
      | true =>
        have HS : Hid (∀ j, i ≤ j → j < k + 1 → Sc.blankB (Sc.bt s j) = true) := fun j h1 h2 => by
          by_cases hj : j = k
          · rw [hj]; exact ht
          · exact hd j h1 (by omega)
        go_wp2_with (go_at_call 59; refine (isBlankC _ _).mono ?_; rintro e w' ⟨rfl, rfl⟩)
        go_round
        case rel => exact ⟨k + 1, by omega, by omega, by go_num, HS⟩
        case measure => simp [intOf]; omega
      | false =>
        have HE : Hid (Sc.ov Sc.blankB s i = k) := Sc.ov_of ⟨hk0, hk, hd, fun _ => ht⟩
        go_wp2_with (go_at_call 59; refine (isBlankC _ _).mono ?_; rintro e w' ⟨rfl, rfl⟩)
        go_ret
        exact ⟨by rw [HE.out]; rfl, rfl⟩
    · have HE : Hid (Sc.ov Sc.blankB s i = k) := Sc.ov_of ⟨hk0, hk, hd, fun h => absurd h hlt⟩
      go_wp2
      go_ret
      exact ⟨by rw [HE.out]; rfl, rfl⟩

set_option maxHeartbeats 1000000 in
theorem over_isInk (s : ByteArray) (i : Nat) (hs : s.size ≤ maxLen) (hi : i ≤ s.size) (w : World) : Calls Tryd.prog 61 #[.string s, .int .i64 i, .func (.func 62) #[] #[]] w fun e w' => e = .returned (.int .i64 (Sc.ov Sc.inkB s i : Nat)) ∧ w' = w := by
  unfold maxLen at hs
  go_enter Tryd.func61, Tryd.ntmps61
  go_wp2
  go_loop [1] (fun v => ∃ k : Nat, i ≤ k ∧ k ≤ s.size ∧ v = .int .i64 k ∧ Hid (∀ j, i ≤ j → j < k → Sc.inkB (Sc.bt s j) = true)) (fun v => s.size - (intOf v).toNat)
  case atStart => exact ⟨i, Nat.le_refl _, hi, rfl, fun j h1 h2 => by omega⟩
  case round =>
    obtain ⟨k, hk0, hk, rfl, hd⟩ := hrel
    by_cases hlt : k < s.size
    · have hb := Sc.bt_at hlt
      have hlt' : (k : Int) < (s.size : Int) := by omega
      cases ht : Sc.inkB (Sc.bt s k) with
      | true =>
        have HS : Hid (∀ j, i ≤ j → j < k + 1 → Sc.inkB (Sc.bt s j) = true) := fun j h1 h2 => by
          by_cases hj : j = k
          · rw [hj]; exact ht
          · exact hd j h1 (by omega)
        go_wp2_with (go_at_call 62; refine (isInkC _ _).mono ?_; rintro e w' ⟨rfl, rfl⟩)
        go_round
        case rel => exact ⟨k + 1, by omega, by omega, by go_num, HS⟩
        case measure => simp [intOf]; omega
      | false =>
        have HE : Hid (Sc.ov Sc.inkB s i = k) := Sc.ov_of ⟨hk0, hk, hd, fun _ => ht⟩
        go_wp2_with (go_at_call 62; refine (isInkC _ _).mono ?_; rintro e w' ⟨rfl, rfl⟩)
        go_ret
        exact ⟨by rw [HE.out]; rfl, rfl⟩
    · have HE : Hid (Sc.ov Sc.inkB s i = k) := Sc.ov_of ⟨hk0, hk, hd, fun h => absurd h hlt⟩
      go_wp2
      go_ret
      exact ⟨by rw [HE.out]; rfl, rfl⟩

set_option maxHeartbeats 1000000 in
theorem over_isDigit (s : ByteArray) (i : Nat) (hs : s.size ≤ maxLen) (hi : i ≤ s.size) (w : World) : Calls Tryd.prog 61 #[.string s, .int .i64 i, .func (.func 54) #[] #[]] w fun e w' => e = .returned (.int .i64 (Sc.ov Sc.digitB s i : Nat)) ∧ w' = w := by
  unfold maxLen at hs
  go_enter Tryd.func61, Tryd.ntmps61
  go_wp2
  go_loop [1] (fun v => ∃ k : Nat, i ≤ k ∧ k ≤ s.size ∧ v = .int .i64 k ∧ Hid (∀ j, i ≤ j → j < k → Sc.digitB (Sc.bt s j) = true)) (fun v => s.size - (intOf v).toNat)
  case atStart => exact ⟨i, Nat.le_refl _, hi, rfl, fun j h1 h2 => by omega⟩
  case round =>
    obtain ⟨k, hk0, hk, rfl, hd⟩ := hrel
    by_cases hlt : k < s.size
    · have hb := Sc.bt_at hlt
      have hlt' : (k : Int) < (s.size : Int) := by omega
      cases ht : Sc.digitB (Sc.bt s k) with
      | true =>
        have HS : Hid (∀ j, i ≤ j → j < k + 1 → Sc.digitB (Sc.bt s j) = true) := fun j h1 h2 => by
          by_cases hj : j = k
          · rw [hj]; exact ht
          · exact hd j h1 (by omega)
        go_wp2_with (go_at_call 54; refine (isDigitC _ _).mono ?_; rintro e w' ⟨rfl, rfl⟩)
        go_round
        case rel => exact ⟨k + 1, by omega, by omega, by go_num, HS⟩
        case measure => simp [intOf]; omega
      | false =>
        have HE : Hid (Sc.ov Sc.digitB s i = k) := Sc.ov_of ⟨hk0, hk, hd, fun _ => ht⟩
        go_wp2_with (go_at_call 54; refine (isDigitC _ _).mono ?_; rintro e w' ⟨rfl, rfl⟩)
        go_ret
        exact ⟨by rw [HE.out]; rfl, rfl⟩
    · have HE : Hid (Sc.ov Sc.digitB s i = k) := Sc.ov_of ⟨hk0, hk, hd, fun h => absurd h hlt⟩
      go_wp2
      go_ret
      exact ⟨by rw [HE.out]; rfl, rfl⟩

set_option maxHeartbeats 1000000 in
theorem over_isNamed (s : ByteArray) (i : Nat) (hs : s.size ≤ maxLen) (hi : i ≤ s.size) (w : World) : Calls Tryd.prog 61 #[.string s, .int .i64 i, .func (.func 57) #[] #[]] w fun e w' => e = .returned (.int .i64 (Sc.ov Sc.namedB s i : Nat)) ∧ w' = w := by
  unfold maxLen at hs
  go_enter Tryd.func61, Tryd.ntmps61
  go_wp2
  go_loop [1] (fun v => ∃ k : Nat, i ≤ k ∧ k ≤ s.size ∧ v = .int .i64 k ∧ Hid (∀ j, i ≤ j → j < k → Sc.namedB (Sc.bt s j) = true)) (fun v => s.size - (intOf v).toNat)
  case atStart => exact ⟨i, Nat.le_refl _, hi, rfl, fun j h1 h2 => by omega⟩
  case round =>
    obtain ⟨k, hk0, hk, rfl, hd⟩ := hrel
    by_cases hlt : k < s.size
    · have hb := Sc.bt_at hlt
      have hlt' : (k : Int) < (s.size : Int) := by omega
      cases ht : Sc.namedB (Sc.bt s k) with
      | true =>
        have HS : Hid (∀ j, i ≤ j → j < k + 1 → Sc.namedB (Sc.bt s j) = true) := fun j h1 h2 => by
          by_cases hj : j = k
          · rw [hj]; exact ht
          · exact hd j h1 (by omega)
        go_wp2_with (go_at_call 57; refine (isNamedC _ _).mono ?_; rintro e w' ⟨rfl, rfl⟩)
        go_round
        case rel => exact ⟨k + 1, by omega, by omega, by go_num, HS⟩
        case measure => simp [intOf]; omega
      | false =>
        have HE : Hid (Sc.ov Sc.namedB s i = k) := Sc.ov_of ⟨hk0, hk, hd, fun _ => ht⟩
        go_wp2_with (go_at_call 57; refine (isNamedC _ _).mono ?_; rintro e w' ⟨rfl, rfl⟩)
        go_ret
        exact ⟨by rw [HE.out]; rfl, rfl⟩
    · have HE : Hid (Sc.ov Sc.namedB s i = k) := Sc.ov_of ⟨hk0, hk, hd, fun h => absurd h hlt⟩
      go_wp2
      go_ret
      exact ⟨by rw [HE.out]; rfl, rfl⟩
end Go.Proofs.YtimknahfgpafaaaDoor
