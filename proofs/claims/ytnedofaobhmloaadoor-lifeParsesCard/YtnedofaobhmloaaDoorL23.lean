/- What Parse of the document answers, of every text; the walk of LifeParses. -/
import Derived.Test.YtnedofaobhmloaaDoorL21
import Derived.Test.YtnedofaobhmloaaDoorL22EndV
import Derived.Test.YtnedofaobhmloaaDoorL22EndH
import Derived.Test.YtnedofaobhmloaaDoorL22EndM
import Derived.Test.YtnedofaobhmloaaDoorL22OkV
import Derived.Test.YtnedofaobhmloaaDoorL22OkH
import Derived.Test.YtnedofaobhmloaaDoorL22OkM
namespace Go.Proofs.YtnedofaobhmloaaDoor
open Go.RowKit
set_option linter.unusedVariables false
set_option linter.unusedSimpArgs false
set_option maxRecDepth 100000

theorem isW (s : ByteArray) (i c : Nat) (b : Bool) {hb : Lf.tk (Sc.bt s i) c = b} (h : ∀ w, Calls Tryd.prog 26 #[.string s, .int .i64 i, .int .u8 c] w fun e w' => e = .returned (.bool (Lf.tk (Sc.bt s i) c)) ∧ w' = w) : ∀ w, Calls Tryd.prog 26 #[.string s, .int .i64 i, .int .u8 c] w fun e w' => e = .returned (.bool b) ∧ w' = w := by
  rw [hb] at h
  exact h
theorem pd2 (s : ByteArray) (hs : s.size ≤ 1048576) (h66 : Lf.tk (Sc.bt s 0) 66 = true) (a1 v1 : Nat) (hr1 : Lf.dg s 1 0 = ⟨false, a1, v1⟩) (h47 : Sc.bt s a1 = 47) (h83 : Lf.tk (Sc.bt s (a1 + 1)) 83 = true) (a2 v2 : Nat) (hr2 : Lf.dg s (a1 + 2) 0 = ⟨false, a2, v2⟩) (w : World) : Calls Tryd.prog 11 #[.string s] w fun e w' => e = .returned (.tuple #[.agg #[.int .u8 (Lf.parse2 s (Lf.read2 s v1 ⟨false, a2, v2⟩)).ho, .int .u16 (Lf.parse2 s (Lf.read2 s v1 ⟨false, a2, v2⟩)).bo, .int .u16 (Lf.parse2 s (Lf.read2 s v1 ⟨false, a2, v2⟩)).st], .int .i64 (Lf.parse2 s (Lf.read2 s v1 ⟨false, a2, v2⟩)).a, .int .i64 (Lf.parse2 s (Lf.read2 s v1 ⟨false, a2, v2⟩)).er]) ∧ w.grownBy w' none := by
  have l0 : 0 < s.size := Lf.tk_lt (by decide) h66
  have d1 := Lf.dg_is (s := s) (i := 1) (v := 0) l0 (by decide)
  rw [hr1] at d1
  have l1 : a1 < s.size := by
    by_cases hi : a1 < s.size
    · exact hi
    · rw [Sc.bt_off hi] at h47; cases h47
  have l2 : a1 + 2 ≤ s.size := Lf.tk_lt (by decide) h83
  have d2 := Lf.dg_is (s := s) (i := a1 + 2) (v := 0) l2 (by decide)
  rw [hr2] at d2
  have hv1 : v1 < 1024 := d1.lt
  have hv2 : v2 < 1024 := d2.lt
  have ha2 : a2 ≤ s.size := d2.le
  have hs' : ¬ (1048576 : Int) < (s.size : Int) := by omega
  have i66 := isW s 0 66 true (hb := h66) (isD66 s 0)
  have L1 := fun w => listD s 1 hs l0 ⟨false, a1, v1⟩ hr1 (-1) rfl w
  have i83 := isW s (a1 + 1) 83 true (hb := h83) (isD83 s (a1 + 1))
  have L2 := fun w => listD s (a1 + 2) hs l2 ⟨false, a2, v2⟩ hr2 (-1) rfl w
  have c47 : ((Sc.bt s a1 : Nat) : Int) = 47 := by omega
  unfold Lf.read2
  simp only [Bool.false_eq_true, if_false]
  cases hV : Lf.tk (Sc.bt s a2) 86 with
  | true =>
    have iV := isW s a2 86 true (hb := hV) (isD86 s a2)
    have e1 : Lf.hoodEnd s a2 = a2 + 1 := by unfold Lf.hoodEnd; rw [hV]; rfl
    have e2 : Lf.hoodAt s a2 = 2 := by unfold Lf.hoodAt; rw [hV]; rfl
    have l3 : a2 < s.size := Lf.tk_lt (by decide) hV
    rw [e1, e2]
    by_cases hE : a2 + 1 = s.size
    · rw [if_pos hE]
      unfold Lf.parse2
      simp only [if_true]
      exact pdOkV s hs' i66 a1 v1 L1 l1 (by omega) c47 i83 a2 v2 L2 hv1 hv2 ha2 iV (by omega) _ rfl w
    · rw [if_neg hE]
      exact pdEndV s hs' i66 a1 v1 L1 l1 (by omega) c47 i83 a2 v2 L2 hv1 hv2 ha2 iV (by omega) w
  | false =>
    have iV := isW s a2 86 false (hb := hV) (isD86 s a2)
    cases hH : Lf.tk (Sc.bt s a2) 72 with
    | true =>
      have iH := isW s a2 72 true (hb := hH) (isD72 s a2)
      have e1 : Lf.hoodEnd s a2 = a2 + 1 := by unfold Lf.hoodEnd; rw [hV, hH]; rfl
      have e2 : Lf.hoodAt s a2 = 3 := by unfold Lf.hoodAt; rw [hV, hH]; rfl
      have l3 : a2 < s.size := Lf.tk_lt (by decide) hH
      rw [e1, e2]
      by_cases hE : a2 + 1 = s.size
      · rw [if_pos hE]
        unfold Lf.parse2
        simp only [if_true]
        exact pdOkH s hs' i66 a1 v1 L1 l1 (by omega) c47 i83 a2 v2 L2 hv1 hv2 ha2 iV iH (by omega) _ rfl w
      · rw [if_neg hE]
        exact pdEndH s hs' i66 a1 v1 L1 l1 (by omega) c47 i83 a2 v2 L2 hv1 hv2 ha2 iV iH (by omega) w
    | false =>
      have iH := isW s a2 72 false (hb := hH) (isD72 s a2)
      have e1 : Lf.hoodEnd s a2 = a2 := by unfold Lf.hoodEnd; rw [hV, hH]; rfl
      have e2 : Lf.hoodAt s a2 = 1 := by unfold Lf.hoodAt; rw [hV, hH]; rfl
      rw [e1, e2]
      by_cases hE : a2 = s.size
      · rw [if_pos hE]
        unfold Lf.parse2
        simp only [if_true]
        exact pdOkM s hs' i66 a1 v1 L1 l1 (by omega) c47 i83 a2 v2 L2 hv1 hv2 ha2 iV iH (by omega) _ rfl w
      · rw [if_neg hE]
        exact pdEndM s hs' i66 a1 v1 L1 l1 (by omega) c47 i83 a2 v2 L2 hv1 hv2 ha2 iV iH (by omega) w
theorem parseD (s : ByteArray) (w : World) : Calls Tryd.prog 11 #[.string s] w fun e w' => e = .returned (.tuple #[.agg #[.int .u8 (Lf.parseR s).ho, .int .u16 (Lf.parseR s).bo, .int .u16 (Lf.parseR s).st], .int .i64 (Lf.parseR s).a, .int .i64 (Lf.parseR s).er]) ∧ w.grownBy w' none := by
  unfold Lf.parseR
  by_cases hs : 1048576 < s.size
  · rw [if_pos hs]
    exact pdLong s (by omega) w
  · rw [if_neg hs]
    have hs1 : s.size ≤ 1048576 := by omega
    have hs' : ¬ (1048576 : Int) < (s.size : Int) := by omega
    unfold Lf.readR
    cases h66 : Lf.tk (Sc.bt s 0) 66 with
    | false =>
      simp only [Bool.false_eq_true, if_false]
      exact pdB s hs' (isW s 0 66 false (hb := h66) (isD66 s 0)) w
    | true =>
      simp only [if_true]
      have i66 := isW s 0 66 true (hb := h66) (isD66 s 0)
      have l0 : 0 < s.size := Lf.tk_lt (by decide) h66
      have d1 := Lf.dg_is (s := s) (i := 1) (v := 0) l0 (by decide)
      cases hr1 : Lf.dg s 1 0 with
      | mk tw a1 v1 =>
        rw [hr1] at d1
        cases tw with
        | true =>
          exact pdT1 s hs' i66 a1 v1 (fun w => listD s 1 hs1 l0 ⟨true, a1, v1⟩ hr1 a1 rfl w) w
        | false =>
          have L1 := fun w => listD s 1 hs1 l0 ⟨false, a1, v1⟩ hr1 (-1) rfl w
          unfold Lf.read1
          simp only [Bool.false_eq_true, if_false]
          by_cases h47 : Sc.bt s a1 = 47
          · rw [if_pos h47]
            have l1 : a1 < s.size := by
              by_cases hi : a1 < s.size
              · exact hi
              · rw [Sc.bt_off hi] at h47; cases h47
            have c47 : ((Sc.bt s a1 : Nat) : Int) = 47 := by omega
            cases h83 : Lf.tk (Sc.bt s (a1 + 1)) 83 with
            | false =>
              simp only [Bool.false_eq_true, if_false]
              exact pdS3 s hs' i66 a1 v1 L1 l1 (by omega) c47 (isW s (a1 + 1) 83 false (hb := h83) (isD83 s (a1 + 1))) w
            | true =>
              simp only [if_true]
              have i83 := isW s (a1 + 1) 83 true (hb := h83) (isD83 s (a1 + 1))
              have l2 : a1 + 2 ≤ s.size := Lf.tk_lt (by decide) h83
              cases hr2 : Lf.dg s (a1 + 2) 0 with
              | mk tw2 a2 v2 =>
                cases tw2 with
                | true => exact pdT2 s hs' i66 a1 v1 L1 l1 (by omega) c47 i83 a2 v2 (fun w => listD s (a1 + 2) hs1 l2 ⟨true, a2, v2⟩ hr2 a2 rfl w) w
                | false => exact pd2 s hs1 h66 a1 v1 hr1 h47 h83 a2 v2 hr2 w
          · rw [if_neg h47]
            by_cases hi : a1 < s.size
            · exact pdS2 s hs' i66 a1 v1 L1 hi (by omega) (by omega) w
            · exact pdS1 s hs' i66 a1 v1 L1 (by omega) w

set_option maxHeartbeats 2000000 in
theorem parses_walk0 (s : ByteArray) (w : World) (hv : Hid (Hv w)) : Calls Tryd.prog 4 #[.string s] w fun e w' => e = .returned (.bool true) ∧ w.grownBy w' none := by
  have hp := fun w hv => parseC s w hv
  have hq := fun w => parseD s w
  generalize Lf.parseR s = R at hp hq
  obtain ⟨H, B, T, a, e⟩ := R
  simp only [] at hp hq
  go_enter Tryd.func4, Tryd.ntmps4
  go_wp2_with (first | (go_at_call 9; (fail_if_success (guard_hyp g1)); refine (aliveC _ hv).mono ?_; rintro e w1 ⟨rfl, g1⟩; have hv1 := hvK hv g1) | (go_at_call 10; (fail_if_success (guard_hyp g2)); refine (hp _ hv1).mono ?_; rintro e w2 ⟨rfl, g2⟩; have G2 := gb_trans g1 g2; have hv2 := hvK hv G2; obtain ⟨W3, hW3, sz3, g3, B3⟩ := boxn w2 #[.int .u8 (H : Nat), .int .u16 (B : Nat), .int .u16 (T : Nat)] 26; have G3 := gb_trans G2 g3; have hv3 := hvK hv G3; have b3_3_0 := B3.cell 0 (v := .int .u8 (H : Nat)) rfl; have b3_3_1 := B3.cell 1 (v := .int .u16 (B : Nat)) rfl; have b3_3_2 := B3.cell 2 (v := .int .u16 (T : Nat)) rfl) | (go_at_call 11; (fail_if_success (guard_hyp g4)); refine (hq _).mono ?_; rintro e w4 ⟨rfl, g4⟩; have G4 := gb_trans G3 g4; have hv4 := hvK hv G4; have B3x := B3.kept g4 (by simp); obtain ⟨W5, hW5, sz5, g5, B5⟩ := boxn w4 #[.int .u8 (H : Nat), .int .u16 (B : Nat), .int .u16 (T : Nat)] 26; have G5 := gb_trans G4 g5; have hv5 := hvK hv G5; have B3xx := B3x.kept g5 (by simp); clear b3_3_0 b3_3_1 b3_3_2; have b3_5_0 := B3xx.cell 0 (v := .int .u8 (H : Nat)) rfl; have b3_5_1 := B3xx.cell 1 (v := .int .u16 (B : Nat)) rfl; have b3_5_2 := B3xx.cell 2 (v := .int .u16 (T : Nat)) rfl; have b5_5_0 := B5.cell 0 (v := .int .u8 (H : Nat)) rfl; have b5_5_1 := B5.cell 1 (v := .int .u16 (B : Nat)) rfl; have b5_5_2 := B5.cell 2 (v := .int .u16 (T : Nat)) rfl))
  go_ret
  exact ⟨rfl, G5⟩
theorem parses_walk (s : ByteArray) (w : World) (hz : s.size ≤ maxLen) (hv : Hv w) : Calls Tryd.prog 4 #[.string s] w fun e w' => e = .returned (.bool true) ∧ Below w.heap.size w w' :=
  (parses_walk0 s w hv).mono fun e w' ⟨a, b⟩ => ⟨a, gb_below b⟩
end Go.Proofs.YtnedofaobhmloaaDoor
