/- What the document's digits and worth answer. -/
import Derived.Test.YteegbhnfkcbnoaaDoorP1
namespace Go.Proofs.YteegbhnfkcbnoaaDoor
open Go.RowKit
set_option linter.unusedVariables false
set_option linter.unusedSimpArgs false
set_option maxRecDepth 100000

set_option maxHeartbeats 1000000 in
theorem rDigitsC (s : ByteArray) (i : Nat) (hs : s.size ≤ maxLen) (hi : i ≤ s.size) (w : World) : Calls Tryd.prog 55 #[.string s, .int .i64 i] w fun e w' => e = .returned (.int .i64 (Tp.dg s i : Nat)) ∧ w' = w := by
  unfold maxLen at hs
  go_enter Tryd.func55, Tryd.ntmps55
  go_wp2
  go_loop [1] (fun v => ∃ k : Nat, i ≤ k ∧ k ≤ s.size ∧ v = .int .i64 k ∧ Hid (∀ j, i ≤ j → j < k → Sc.digitB (Sc.bt s j) = true)) (fun v => s.size - (intOf v).toNat)
  case atStart => exact ⟨i, Nat.le_refl _, hi, rfl, fun j h1 h2 => by omega⟩
  case round =>
    obtain ⟨k, hk0, hk, rfl, hd⟩ := hrel
    by_cases hlt : k < s.size
    · have hb := Sc.bt_at hlt
      have hlt' : (k : Int) < (s.size : Int) := by omega
      by_cases d1 : 48 ≤ (Sc.bt s k : Int)
      · by_cases d2 : (Sc.bt s k : Int) ≤ 57
        · have HS : Hid (∀ j, i ≤ j → j < k + 1 → Sc.digitB (Sc.bt s j) = true) := fun j h1 h2 => by
            by_cases hj : j = k
            · rw [hj]; exact (digit_iff _).2 (by omega)
            · exact hd.out j h1 (by omega)
          go_wp2
          go_round
          case rel => exact ⟨k + 1, by omega, by omega, by go_num, HS⟩
          case measure => simp [intOf]; omega
        · have HE : Hid (Tp.dg s i = k) := Sc.ov_of ⟨hk0, hk, hd.out, fun _ => by
            cases hq : Sc.digitB (Sc.bt s k) with
            | false => rfl
            | true => have := (digit_iff _).1 hq; omega⟩
          go_wp2
          go_ret
          exact ⟨by rw [HE.out]; rfl, rfl⟩
      · have HE : Hid (Tp.dg s i = k) := Sc.ov_of ⟨hk0, hk, hd.out, fun _ => by
          cases hq : Sc.digitB (Sc.bt s k) with
          | false => rfl
          | true => have := (digit_iff _).1 hq; omega⟩
        go_wp2
        go_ret
        exact ⟨by rw [HE.out]; rfl, rfl⟩
    · have HE : Hid (Tp.dg s i = k) := Sc.ov_of ⟨hk0, hk, hd.out, fun h => absurd h hlt⟩
      go_wp2
      go_ret
      exact ⟨by rw [HE.out]; rfl, rfl⟩
/-- A number of digits; a great one, if it is above 2^20. -/
def wor (v : Nat) : Nat := if 1048576 < v then 1048577 else v
theorem wor_step (v d : Nat) (hd : d ≤ 9) : wor (v * 10 + d) = if 1048576 < 10 * wor v + d then 1048577 else 10 * wor v + d := by
  unfold wor
  repeat' split
  all_goals omega
theorem wor_le (v : Nat) : wor v ≤ 1048577 := by unfold wor; split <;> omega
set_option maxHeartbeats 1000000 in
theorem rWorthC (s : ByteArray) (hs : s.size ≤ maxLen) (hD : Hid (∀ j, j < s.size → 48 ≤ Sc.bt s j ∧ Sc.bt s j ≤ 57)) (w : World) : Calls Tryd.prog 22 #[.string s] w fun e w' => e = .returned (.int .i64 (wor (Tx.vl 0 s.data.toList) : Nat)) ∧ w' = w := by
  unfold maxLen at hs
  go_enter Tryd.func22, Tryd.ntmps22
  go_wp2
  go_loop [3, 4] (fun n v => ∃ k : Nat, k ≤ s.size ∧ v = .int .i64 k ∧ n = .int .i64 (wor (nm s 0 k) : Nat)) (fun _ v => s.size - (intOf v).toNat)
  case atStart => exact ⟨0, Nat.zero_le _, rfl, by rw [nm_self]; rfl⟩
  case round =>
    obtain ⟨k, hk, rfl, rfl⟩ := hrel
    by_cases hlt : k < s.size
    · have hb := Sc.bt_at hlt
      have hlt' : (k : Int) < (s.size : Int) := by omega
      have hdk := hD.out k hlt
      have hwl := wor_le (nm s 0 k)
      have HN := nm_succ s (Nat.zero_le k) hlt
      have HW := wor_step (nm s 0 k) (Sc.bt s k - 48) (by omega)
      rw [← HN] at HW
      have HW' : Hid (wor (nm s 0 (k + 1)) = if 1048576 < 10 * wor (nm s 0 k) + (Sc.bt s k - 48) then 1048577 else 10 * wor (nm s 0 k) + (Sc.bt s k - 48)) := HW
      clear HW HN
      have w1 : IntKind.u8.wrap ((Sc.bt s k : Int) - 48) = (Sc.bt s k : Int) - 48 := by rw [IntKind.wrap_u8]; omega
      have w2 : IntKind.i64.wrap ((Sc.bt s k : Int) - 48) = (Sc.bt s k : Int) - 48 := by rw [IntKind.wrap_i64]; omega
      have w3 : IntKind.i64.wrap (10 * (wor (nm s 0 k) : Int)) = 10 * (wor (nm s 0 k) : Int) := by rw [IntKind.wrap_i64]; omega
      have w4 : IntKind.i64.wrap (10 * (wor (nm s 0 k) : Int) + ((Sc.bt s k : Int) - 48)) = 10 * (wor (nm s 0 k) : Int) + ((Sc.bt s k : Int) - 48) := by rw [IntKind.wrap_i64]; omega
      by_cases hg : 1048576 < 10 * (wor (nm s 0 k) : Int) + ((Sc.bt s k : Int) - 48)
      · have HE : Hid (((wor (nm s 0 (k + 1)) : Nat) : Int) = 1048577) := by unfold Hid; rw [HW'.out, if_pos (by omega)]; rfl
        go_wp2
        go_round
        case rel => exact ⟨k + 1, by omega, by go_num, by rw [HE.out]⟩
        case measure => simp [intOf]; omega
      · have HE : Hid (((wor (nm s 0 (k + 1)) : Nat) : Int) = 10 * (wor (nm s 0 k) : Int) + ((Sc.bt s k : Int) - 48)) := by unfold Hid; rw [HW'.out, if_neg (by omega)]; omega
        go_wp2
        go_round
        case rel => exact ⟨k + 1, by omega, by go_num, by rw [HE.out]⟩
        case measure => simp [intOf]; omega
    · obtain rfl : k = s.size := by omega
      have HE : Hid (nm s 0 s.size = Tx.vl 0 s.data.toList) := by unfold Hid nm; rw [ext_all]
      go_wp2
      go_ret
      exact ⟨by rw [HE.out]; rfl, rfl⟩
end Go.Proofs.YteegbhnfkcbnoaaDoor
