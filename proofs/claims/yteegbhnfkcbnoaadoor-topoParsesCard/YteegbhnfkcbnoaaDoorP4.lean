/- What takeLetter, takeSides and takeDraft of package topo answer. -/
import Derived.Test.YteegbhnfkcbnoaaDoorP3
import Derived.Deep.RegionWith
namespace Go.Proofs.YteegbhnfkcbnoaaDoor
open Go.RowKit
set_option linter.unusedVariables false
set_option linter.unusedSimpArgs false
set_option maxRecDepth 100000

def gr (j : Nat) : Nat := if j = 0 then 80 else if j = 1 then 84 else if j = 2 then 75 else if j = 3 then 67 else 83
def sm (j : Nat) : Nat := if j = 0 then 112 else if j = 1 then 116 else if j = 2 then 107 else if j = 3 then 99 else 115
theorem kind_none {c : Nat} (h : ∀ j, j < 5 → c ≠ gr j ∧ c ≠ sm j) : Tp.kindR c = 0 := by
  have h0 := h 0 (by decide); have h1 := h 1 (by decide); have h2 := h 2 (by decide); have h3 := h 3 (by decide); have h4 := h 4 (by decide)
  simp [gr, sm] at h0 h1 h2 h3 h4
  unfold Tp.kindR
  rw [if_neg (by omega), if_neg (by omega), if_neg (by omega), if_neg (by omega), if_neg (by omega)]
def ltSays (c : Nat) (b : Nat) (s : ByteArray) (w : World) (e : Ending) (w' : World) : Prop :=
  (Tp.kindR c = 0 → e = .returned (.tuple #[.int .u8 0, .bool false]) ∧ Cu w' b s 0) ∧ (Tp.kindR c ≠ 0 → e = .returned (.tuple #[.int .u8 (Tp.kindR c : Nat), .bool true]) ∧ Cu w' b s 1) ∧ w.grownBy w' (some b)
theorem lt_yes {c k b : Nat} {s : ByteArray} {w w' : World} {e : Ending} (hk : Tp.kindR c = k) (h0 : k ≠ 0) (he : e = .returned (.tuple #[.int .u8 (k : Nat), .bool true])) (hc : Cu w' b s 1) (hg : w.grownBy w' (some b)) : ltSays c b s w e w' :=
  ⟨fun h => absurd (hk.symm.trans h) h0, fun _ => ⟨by rw [he, hk], hc⟩, hg⟩
set_option maxHeartbeats 4000000 in
theorem letterC (b : Nat) (s : ByteArray) (w : World) (h : Cu w b s 0) (hs : s.size ≤ maxLen) : Calls Tryd.prog 35 #[.pointer (some ⟨b, 0, none⟩)] w (ltSays (Sc.bt s 0) b s w) := by
  go_enter Tryd.func35, Tryd.ntmps35
  go_wp2
  go_loopw [5] (fun v wr => ∃ k : Nat, k ≤ 5 ∧ v = .int .i64 k ∧ Cu wr b s 0 ∧ w.grownBy wr (some b) ∧ Hid (∀ j, j < k → Sc.bt s 0 ≠ gr j ∧ Sc.bt s 0 ≠ sm j)) (fun v _ => 5 - (intOf v).toNat)
  case atStart => exact ⟨0, by omega, rfl, h, World.grownBy.refl _ _, fun j hj => by omega⟩
  case round =>
    obtain ⟨k, hk, rfl, hc, hg, hno⟩ := hrel
    obtain rfl | rfl | rfl | rfl | rfl | rfl : k = 0 ∨ k = 1 ∨ k = 2 ∨ k = 3 ∨ k = 4 ∨ k = 5 := by omega
    · have cg : ((ByteArray.mk #[80, 84, 75, 67, 83])[0]'(by decide)).toNat = 80 := rfl
      have cs : ((ByteArray.mk #[112, 116, 107, 99, 115])[0]'(by decide)).toNat = 112 := rfl
      by_cases hb1 : Sc.bt s 0 = 80
      · have hb1' : Hid (Sc.bt s 0 = 80) := hb1
        have HK : Hid (Tp.kindR (Sc.bt s 0) = 1) := by unfold Hid; rw [hb1]; rfl
        clear hb1
        go_wp2_with (first | (go_at_call 51; (fail_if_success (guard_hyp g1)); refine (takeIs b 80 s 0 wr hc (Nat.zero_le _) hs (by decide) hb1').mono ?_; rintro e w1 ⟨rfl, h1, g1⟩))
        go_ret2
        exact lt_yes HK.out (by decide) rfl h1 (gb_trans hg g1)
      · have hb1' : Hid (¬ Sc.bt s 0 = 80) := hb1
        by_cases hb2 : Sc.bt s 0 = 112
        · have hb2' : Hid (Sc.bt s 0 = 112) := hb2
          have HK : Hid (Tp.kindR (Sc.bt s 0) = 1) := by unfold Hid; rw [hb2]; rfl
          clear hb1 hb2
          go_wp2_with (first | (go_at_call 51; (fail_if_success (guard_hyp g1)); refine (takeIsnt b 80 s 0 wr hc (Nat.zero_le _) hs (by decide) hb1').mono ?_; rintro e w1 ⟨rfl, h1, g1⟩) | (go_at_call 51; refine (takeIs b 112 s 0 w1 h1 (Nat.zero_le _) hs (by decide) hb2').mono ?_; rintro e w2 ⟨rfl, h2, g2⟩))
          go_ret2
          exact lt_yes HK.out (by decide) rfl h2 (gb_trans (gb_trans hg g1) g2)
        · have hb2' : Hid (¬ Sc.bt s 0 = 112) := hb2
          have HS : Hid (∀ j, j < 1 → Sc.bt s 0 ≠ gr j ∧ Sc.bt s 0 ≠ sm j) := fun j hj => by
            by_cases hj' : j = 0
            · subst hj'; exact ⟨hb1, hb2⟩
            · exact hno.out j (by omega)
          clear hb1 hb2
          go_wp2_with (first | (go_at_call 51; (fail_if_success (guard_hyp g1)); refine (takeIsnt b 80 s 0 wr hc (Nat.zero_le _) hs (by decide) hb1').mono ?_; rintro e w1 ⟨rfl, h1, g1⟩) | (go_at_call 51; refine (takeIsnt b 112 s 0 w1 h1 (Nat.zero_le _) hs (by decide) hb2').mono ?_; rintro e w2 ⟨rfl, h2, g2⟩))
          go_roundw
          case rel => exact ⟨1, by omega, by go_num, h2, gb_trans (gb_trans hg g1) g2, HS⟩
          case measure => simp [intOf]
    · have cg : ((ByteArray.mk #[80, 84, 75, 67, 83])[1]'(by decide)).toNat = 84 := rfl
      have cs : ((ByteArray.mk #[112, 116, 107, 99, 115])[1]'(by decide)).toNat = 116 := rfl
      by_cases hb1 : Sc.bt s 0 = 84
      · have hb1' : Hid (Sc.bt s 0 = 84) := hb1
        have HK : Hid (Tp.kindR (Sc.bt s 0) = 2) := by unfold Hid; rw [hb1]; rfl
        clear hb1
        go_wp2_with (first | (go_at_call 51; (fail_if_success (guard_hyp g1)); refine (takeIs b 84 s 0 wr hc (Nat.zero_le _) hs (by decide) hb1').mono ?_; rintro e w1 ⟨rfl, h1, g1⟩))
        go_ret2
        exact lt_yes HK.out (by decide) rfl h1 (gb_trans hg g1)
      · have hb1' : Hid (¬ Sc.bt s 0 = 84) := hb1
        by_cases hb2 : Sc.bt s 0 = 116
        · have hb2' : Hid (Sc.bt s 0 = 116) := hb2
          have HK : Hid (Tp.kindR (Sc.bt s 0) = 2) := by unfold Hid; rw [hb2]; rfl
          clear hb1 hb2
          go_wp2_with (first | (go_at_call 51; (fail_if_success (guard_hyp g1)); refine (takeIsnt b 84 s 0 wr hc (Nat.zero_le _) hs (by decide) hb1').mono ?_; rintro e w1 ⟨rfl, h1, g1⟩) | (go_at_call 51; refine (takeIs b 116 s 0 w1 h1 (Nat.zero_le _) hs (by decide) hb2').mono ?_; rintro e w2 ⟨rfl, h2, g2⟩))
          go_ret2
          exact lt_yes HK.out (by decide) rfl h2 (gb_trans (gb_trans hg g1) g2)
        · have hb2' : Hid (¬ Sc.bt s 0 = 116) := hb2
          have HS : Hid (∀ j, j < 2 → Sc.bt s 0 ≠ gr j ∧ Sc.bt s 0 ≠ sm j) := fun j hj => by
            by_cases hj' : j = 1
            · subst hj'; exact ⟨hb1, hb2⟩
            · exact hno.out j (by omega)
          clear hb1 hb2
          go_wp2_with (first | (go_at_call 51; (fail_if_success (guard_hyp g1)); refine (takeIsnt b 84 s 0 wr hc (Nat.zero_le _) hs (by decide) hb1').mono ?_; rintro e w1 ⟨rfl, h1, g1⟩) | (go_at_call 51; refine (takeIsnt b 116 s 0 w1 h1 (Nat.zero_le _) hs (by decide) hb2').mono ?_; rintro e w2 ⟨rfl, h2, g2⟩))
          go_roundw
          case rel => exact ⟨2, by omega, by go_num, h2, gb_trans (gb_trans hg g1) g2, HS⟩
          case measure => simp [intOf]
    · have cg : ((ByteArray.mk #[80, 84, 75, 67, 83])[2]'(by decide)).toNat = 75 := rfl
      have cs : ((ByteArray.mk #[112, 116, 107, 99, 115])[2]'(by decide)).toNat = 107 := rfl
      by_cases hb1 : Sc.bt s 0 = 75
      · have hb1' : Hid (Sc.bt s 0 = 75) := hb1
        have HK : Hid (Tp.kindR (Sc.bt s 0) = 3) := by unfold Hid; rw [hb1]; rfl
        clear hb1
        go_wp2_with (first | (go_at_call 51; (fail_if_success (guard_hyp g1)); refine (takeIs b 75 s 0 wr hc (Nat.zero_le _) hs (by decide) hb1').mono ?_; rintro e w1 ⟨rfl, h1, g1⟩))
        go_ret2
        exact lt_yes HK.out (by decide) rfl h1 (gb_trans hg g1)
      · have hb1' : Hid (¬ Sc.bt s 0 = 75) := hb1
        by_cases hb2 : Sc.bt s 0 = 107
        · have hb2' : Hid (Sc.bt s 0 = 107) := hb2
          have HK : Hid (Tp.kindR (Sc.bt s 0) = 3) := by unfold Hid; rw [hb2]; rfl
          clear hb1 hb2
          go_wp2_with (first | (go_at_call 51; (fail_if_success (guard_hyp g1)); refine (takeIsnt b 75 s 0 wr hc (Nat.zero_le _) hs (by decide) hb1').mono ?_; rintro e w1 ⟨rfl, h1, g1⟩) | (go_at_call 51; refine (takeIs b 107 s 0 w1 h1 (Nat.zero_le _) hs (by decide) hb2').mono ?_; rintro e w2 ⟨rfl, h2, g2⟩))
          go_ret2
          exact lt_yes HK.out (by decide) rfl h2 (gb_trans (gb_trans hg g1) g2)
        · have hb2' : Hid (¬ Sc.bt s 0 = 107) := hb2
          have HS : Hid (∀ j, j < 3 → Sc.bt s 0 ≠ gr j ∧ Sc.bt s 0 ≠ sm j) := fun j hj => by
            by_cases hj' : j = 2
            · subst hj'; exact ⟨hb1, hb2⟩
            · exact hno.out j (by omega)
          clear hb1 hb2
          go_wp2_with (first | (go_at_call 51; (fail_if_success (guard_hyp g1)); refine (takeIsnt b 75 s 0 wr hc (Nat.zero_le _) hs (by decide) hb1').mono ?_; rintro e w1 ⟨rfl, h1, g1⟩) | (go_at_call 51; refine (takeIsnt b 107 s 0 w1 h1 (Nat.zero_le _) hs (by decide) hb2').mono ?_; rintro e w2 ⟨rfl, h2, g2⟩))
          go_roundw
          case rel => exact ⟨3, by omega, by go_num, h2, gb_trans (gb_trans hg g1) g2, HS⟩
          case measure => simp [intOf]
    · have cg : ((ByteArray.mk #[80, 84, 75, 67, 83])[3]'(by decide)).toNat = 67 := rfl
      have cs : ((ByteArray.mk #[112, 116, 107, 99, 115])[3]'(by decide)).toNat = 99 := rfl
      by_cases hb1 : Sc.bt s 0 = 67
      · have hb1' : Hid (Sc.bt s 0 = 67) := hb1
        have HK : Hid (Tp.kindR (Sc.bt s 0) = 4) := by unfold Hid; rw [hb1]; rfl
        clear hb1
        go_wp2_with (first | (go_at_call 51; (fail_if_success (guard_hyp g1)); refine (takeIs b 67 s 0 wr hc (Nat.zero_le _) hs (by decide) hb1').mono ?_; rintro e w1 ⟨rfl, h1, g1⟩))
        go_ret2
        exact lt_yes HK.out (by decide) rfl h1 (gb_trans hg g1)
      · have hb1' : Hid (¬ Sc.bt s 0 = 67) := hb1
        by_cases hb2 : Sc.bt s 0 = 99
        · have hb2' : Hid (Sc.bt s 0 = 99) := hb2
          have HK : Hid (Tp.kindR (Sc.bt s 0) = 4) := by unfold Hid; rw [hb2]; rfl
          clear hb1 hb2
          go_wp2_with (first | (go_at_call 51; (fail_if_success (guard_hyp g1)); refine (takeIsnt b 67 s 0 wr hc (Nat.zero_le _) hs (by decide) hb1').mono ?_; rintro e w1 ⟨rfl, h1, g1⟩) | (go_at_call 51; refine (takeIs b 99 s 0 w1 h1 (Nat.zero_le _) hs (by decide) hb2').mono ?_; rintro e w2 ⟨rfl, h2, g2⟩))
          go_ret2
          exact lt_yes HK.out (by decide) rfl h2 (gb_trans (gb_trans hg g1) g2)
        · have hb2' : Hid (¬ Sc.bt s 0 = 99) := hb2
          have HS : Hid (∀ j, j < 4 → Sc.bt s 0 ≠ gr j ∧ Sc.bt s 0 ≠ sm j) := fun j hj => by
            by_cases hj' : j = 3
            · subst hj'; exact ⟨hb1, hb2⟩
            · exact hno.out j (by omega)
          clear hb1 hb2
          go_wp2_with (first | (go_at_call 51; (fail_if_success (guard_hyp g1)); refine (takeIsnt b 67 s 0 wr hc (Nat.zero_le _) hs (by decide) hb1').mono ?_; rintro e w1 ⟨rfl, h1, g1⟩) | (go_at_call 51; refine (takeIsnt b 99 s 0 w1 h1 (Nat.zero_le _) hs (by decide) hb2').mono ?_; rintro e w2 ⟨rfl, h2, g2⟩))
          go_roundw
          case rel => exact ⟨4, by omega, by go_num, h2, gb_trans (gb_trans hg g1) g2, HS⟩
          case measure => simp [intOf]
    · have cg : ((ByteArray.mk #[80, 84, 75, 67, 83])[4]'(by decide)).toNat = 83 := rfl
      have cs : ((ByteArray.mk #[112, 116, 107, 99, 115])[4]'(by decide)).toNat = 115 := rfl
      by_cases hb1 : Sc.bt s 0 = 83
      · have hb1' : Hid (Sc.bt s 0 = 83) := hb1
        have HK : Hid (Tp.kindR (Sc.bt s 0) = 5) := by unfold Hid; rw [hb1]; rfl
        clear hb1
        go_wp2_with (first | (go_at_call 51; (fail_if_success (guard_hyp g1)); refine (takeIs b 83 s 0 wr hc (Nat.zero_le _) hs (by decide) hb1').mono ?_; rintro e w1 ⟨rfl, h1, g1⟩))
        go_ret2
        exact lt_yes HK.out (by decide) rfl h1 (gb_trans hg g1)
      · have hb1' : Hid (¬ Sc.bt s 0 = 83) := hb1
        by_cases hb2 : Sc.bt s 0 = 115
        · have hb2' : Hid (Sc.bt s 0 = 115) := hb2
          have HK : Hid (Tp.kindR (Sc.bt s 0) = 5) := by unfold Hid; rw [hb2]; rfl
          clear hb1 hb2
          go_wp2_with (first | (go_at_call 51; (fail_if_success (guard_hyp g1)); refine (takeIsnt b 83 s 0 wr hc (Nat.zero_le _) hs (by decide) hb1').mono ?_; rintro e w1 ⟨rfl, h1, g1⟩) | (go_at_call 51; refine (takeIs b 115 s 0 w1 h1 (Nat.zero_le _) hs (by decide) hb2').mono ?_; rintro e w2 ⟨rfl, h2, g2⟩))
          go_ret2
          exact lt_yes HK.out (by decide) rfl h2 (gb_trans (gb_trans hg g1) g2)
        · have hb2' : Hid (¬ Sc.bt s 0 = 115) := hb2
          have HS : Hid (∀ j, j < 5 → Sc.bt s 0 ≠ gr j ∧ Sc.bt s 0 ≠ sm j) := fun j hj => by
            by_cases hj' : j = 4
            · subst hj'; exact ⟨hb1, hb2⟩
            · exact hno.out j (by omega)
          clear hb1 hb2
          go_wp2_with (first | (go_at_call 51; (fail_if_success (guard_hyp g1)); refine (takeIsnt b 83 s 0 wr hc (Nat.zero_le _) hs (by decide) hb1').mono ?_; rintro e w1 ⟨rfl, h1, g1⟩) | (go_at_call 51; refine (takeIsnt b 115 s 0 w1 h1 (Nat.zero_le _) hs (by decide) hb2').mono ?_; rintro e w2 ⟨rfl, h2, g2⟩))
          go_roundw
          case rel => exact ⟨5, by omega, by go_num, h2, gb_trans (gb_trans hg g1) g2, HS⟩
          case measure => simp [intOf]
    · have HK : Hid (Tp.kindR (Sc.bt s 0) = 0) := kind_none hno.out
      go_wp2
      go_ret2
      exact ⟨fun _ => ⟨rfl, hc⟩, fun hx => absurd HK.out hx, hg⟩
end Go.Proofs.YteegbhnfkcbnoaaDoor
