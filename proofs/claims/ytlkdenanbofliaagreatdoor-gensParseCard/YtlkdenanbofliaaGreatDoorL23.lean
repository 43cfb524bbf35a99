/- What Parse of the document answers, of every text; the walk of LifeParses. -/
import Derived.Test.YtlkdenanbofliaaGreatDoorL21
import Derived.Test.YtlkdenanbofliaaGreatDoorL22EndV
import Derived.Test.YtlkdenanbofliaaGreatDoorL22EndH
import Derived.Test.YtlkdenanbofliaaGreatDoorL22EndM
import Derived.Test.YtlkdenanbofliaaGreatDoorL22OkV
import Derived.Test.YtlkdenanbofliaaGreatDoorL22OkH
import Derived.Test.YtlkdenanbofliaaGreatDoorL22OkM
namespace Go.Proofs.YtlkdenanbofliaaGreatDoor
open Go.RowKit
set_option linter.unusedVariables false
set_option linter.unusedSimpArgs false
set_option maxRecDepth 100000

theorem isW (s : ByteArray) (i c : Nat) (b : Bool) {hb : Lf.tk (Sc.bt s i) c = b} (h : ∀ w, Calls Tryz.prog 37 #[.string s, .int .i64 i, .int .u8 c] w fun e w' => e = .returned (.bool (Lf.tk (Sc.bt s i) c)) ∧ w' = w) : ∀ w, Calls Tryz.prog 37 #[.string s, .int .i64 i, .int .u8 c] w fun e w' => e = .returned (.bool b) ∧ w' = w := by
  rw [hb] at h
  exact h
theorem pd2 (s : ByteArray) (hs : s.size ≤ 1048576) (h66 : Lf.tk (Sc.bt s 0) 66 = true) (a1 v1 : Nat) (hr1 : Lf.dg s 1 0 = ⟨false, a1, v1⟩) (h47 : Sc.bt s a1 = 47) (h83 : Lf.tk (Sc.bt s (a1 + 1)) 83 = true) (a2 v2 : Nat) (hr2 : Lf.dg s (a1 + 2) 0 = ⟨false, a2, v2⟩) (w : World) : Calls Tryz.prog 20 #[.string s] w fun e w' => e = .returned (.tuple #[.agg #[.int .u8 (Lf.parse2 s (Lf.read2 s v1 ⟨false, a2, v2⟩)).ho, .int .u16 (Lf.parse2 s (Lf.read2 s v1 ⟨false, a2, v2⟩)).bo, .int .u16 (Lf.parse2 s (Lf.read2 s v1 ⟨false, a2, v2⟩)).st], .int .i64 (Lf.parse2 s (Lf.read2 s v1 ⟨false, a2, v2⟩)).a, .int .i64 (Lf.parse2 s (Lf.read2 s v1 ⟨false, a2, v2⟩)).er]) ∧ w.grownBy w' none := by
  have l0 : 0 < s.size := Lf.tk_lt (by decide) h66
  have d1 := Lf.dg_is (s := s) (i := 1) (v := 0) l0 (by decide)
  rw [hr1] at d1
  have l1 : a1 < s.size := by
    by_cases hi : a1 < s.size
    · exact hi
    · rw [Sc.bt_off hi] at h47; cases h47
  have l2 : a1 + 2 ≤ s.size := Lf.tk_lt (by decide) h83
  have d2 := Lf.dg_is (s := s) (i := a1 + 2) (v := 0) l2 (by decide)
  rw [hr2] at d2
  have hv1 : v1 < 1024 := d1.lt
  have hv2 : v2 < 1024 := d2.lt
  have ha2 : a2 ≤ s.size := d2.le
  have hs' : ¬ (1048576 : Int) < (s.size : Int) := by omega
  have i66 := isW s 0 66 true (hb := h66) (isD66 s 0)
  have L1 := fun w => listD s 1 hs l0 ⟨false, a1, v1⟩ hr1 (-1) rfl w
  have i83 := isW s (a1 + 1) 83 true (hb := h83) (isD83 s (a1 + 1))
  have L2 := fun w => listD s (a1 + 2) hs l2 ⟨false, a2, v2⟩ hr2 (-1) rfl w
  have c47 : ((Sc.bt s a1 : Nat) : Int) = 47 := by omega
  unfold Lf.read2
  simp only [Bool.false_eq_true, if_false]
  cases hV : Lf.tk (Sc.bt s a2) 86 with
  | true =>
    have iV := isW s a2 86 true (hb := hV) (isD86 s a2)
    have e1 : Lf.hoodEnd s a2 = a2 + 1 := by unfold Lf.hoodEnd; rw [hV]; rfl
    have e2 : Lf.hoodAt s a2 = 2 := by unfold Lf.hoodAt; rw [hV]; rfl
    have l3 : a2 < s.size := Lf.tk_lt (by decide) hV
    rw [e1, e2]
    by_cases hE : a2 + 1 = s.size
    · rw [if_pos hE]
      unfold Lf.parse2
      simp only [if_true]
      exact pdOkV s hs' i66 a1 v1 L1 l1 (by omega) c47 i83 a2 v2 L2 hv1 hv2 ha2 iV (by omega) _ rfl w
    · rw [if_neg hE]
      exact pdEndV s hs' i66 a1 v1 L1 l1 (by omega) c47 i83 a2 v2 L2 hv1 hv2 ha2 iV (by omega) w
  | false =>
    have iV := isW s a2 86 false (hb := hV) (isD86 s a2)
    cases hH : Lf.tk (Sc.bt s a2) 72 with
    | true =>
      have iH := isW s a2 72 true (hb := hH) (isD72 s a2)
      have e1 : Lf.hoodEnd s a2 = a2 + 1 := by unfold Lf.hoodEnd; rw [hV, hH]; rfl
      have e2 : Lf.hoodAt s a2 = 3 := by unfold Lf.hoodAt; rw [hV, hH]; rfl
      have l3 : a2 < s.size := Lf.tk_lt (by decide) hH
      rw [e1, e2]
      by_cases hE : a2 + 1 = s.size
      · rw [if_pos hE]
        unfold Lf.parse2
        simp only [if_true]
        exact pdOkH s hs' i66 a1 v1 L1 l1 (by omega) c47 i83 a2 v2 L2 hv1 hv2 ha2 iV iH (by omega) _ rfl w
      · rw [if_neg hE]
        exact pdEndH s hs' i66 a1 v1 L1 l1 (by omega) c47 i83 a2 v2 L2 hv1 hv2 ha2 iV iH (by omega) w
    | false =>
      have iH := isW s a2 72 false (hb := hH) (isD72 s a2)
      have e1 : Lf.hoodEnd s a2 = a2 := by unfold Lf.hoodEnd; rw [hV, hH]; rfl
      have e2 : Lf.hoodAt s a2 = 1 := by unfold Lf.hoodAt; rw [hV, hH]; rfl
      rw [e1, e2]
      by_cases hE : a2 = s.size
      · rw [if_pos hE]
        unfold Lf.parse2
        simp only [if_true]
        exact pdOkM s hs' i66 a1 v1 L1 l1 (by omega) c47 i83 a2 v2 L2 hv1 hv2 ha2 iV iH (by omega) _ rfl w
      · rw [if_neg hE]
        exact pdEndM s hs' i66 a1 v1 L1 l1 (by omega) c47 i83 a2 v2 L2 hv1 hv2 ha2 iV iH (by omega) w
theorem parseD (s : ByteArray) (w : World) : Calls Tryz.prog 20 #[.string s] w fun e w' => e = .returned (.tuple #[.agg #[.int .u8 (Lf.parseR s).ho, .int .u16 (Lf.parseR s).bo, .int .u16 (Lf.parseR s).st], .int .i64 (Lf.parseR s).a, .int .i64 (Lf.parseR s).er]) ∧ w.grownBy w' none := by
  unfold Lf.parseR
  by_cases hs : 1048576 < s.size
  · rw [if_pos hs]
    exact pdLong s (by omega) w
  · rw [if_neg hs]
    have hs1 : s.size ≤ 1048576 := by omega
    have hs' : ¬ (1048576 : Int) < (s.size : Int) := by omega
    unfold Lf.readR
    cases h66 : Lf.tk (Sc.bt s 0) 66 with
    | false =>
      simp only [Bool.false_eq_true, if_false]
      exact pdB s hs' (isW s 0 66 false (hb := h66) (isD66 s 0)) w
    | true =>
      simp only [if_true]
      have i66 := isW s 0 66 true (hb := h66) (isD66 s 0)
      have l0 : 0 < s.size := Lf.tk_lt (by decide) h66
      have d1 := Lf.dg_is (s := s) (i := 1) (v := 0) l0 (by decide)
      cases hr1 : Lf.dg s 1 0 with
      | mk tw a1 v1 =>
        rw [hr1] at d1
        cases tw with
        | true =>
          exact pdT1 s hs' i66 a1 v1 (fun w => listD s 1 hs1 l0 ⟨true, a1, v1⟩ hr1 a1 rfl w) w
        | false =>
          have L1 := fun w => listD s 1 hs1 l0 ⟨false, a1, v1⟩ hr1 (-1) rfl w
          unfold Lf.read1
          simp only [Bool.false_eq_true, if_false]
          by_cases h47 : Sc.bt s a1 = 47
          · rw [if_pos h47]
            have l1 : a1 < s.size := by
              by_cases hi : a1 < s.size
              · exact hi
              · rw [Sc.bt_off hi] at h47; cases h47
            have c47 : ((Sc.bt s a1 : Nat) : Int) = 47 := by omega
            cases h83 : Lf.tk (Sc.bt s (a1 + 1)) 83 with
            | false =>
              simp only [Bool.false_eq_true, if_false]
              exact pdS3 s hs' i66 a1 v1 L1 l1 (by omega) c47 (isW s (a1 + 1) 83 false (hb := h83) (isD83 s (a1 + 1))) w
            | true =>
              simp only [if_true]
              have i83 := isW s (a1 + 1) 83 true (hb := h83) (isD83 s (a1 + 1))
              have l2 : a1 + 2 ≤ s.size := Lf.tk_lt (by decide) h83
              cases hr2 : Lf.dg s (a1 + 2) 0 with
              | mk tw2 a2 v2 =>
                cases tw2 with
                | true => exact pdT2 s hs' i66 a1 v1 L1 l1 (by omega) c47 i83 a2 v2 (fun w => listD s (a1 + 2) hs1 l2 ⟨true, a2, v2⟩ hr2 a2 rfl w) w
                | false => exact pd2 s hs1 h66 a1 v1 hr1 h47 h83 a2 v2 hr2 w
          · rw [if_neg h47]
            by_cases hi : a1 < s.size
            · exact pdS2 s hs' i66 a1 v1 L1 hi (by omega) (by omega) w
            · exact pdS1 s hs' i66 a1 v1 L1 (by omega) w
end Go.Proofs.YtlkdenanbofliaaGreatDoor
