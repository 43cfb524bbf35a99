/- What the document's takes answers, of every text. -/
import Derived.Test.YteegbhnfkcbnoaaDoorR4
import Derived.Test.YteegbhnfkcbnoaaDoorTd
namespace Go.Proofs.YteegbhnfkcbnoaaDoor
open Go.RowKit
set_option linter.unusedVariables false
set_option linter.unusedSimpArgs false
set_option maxRecDepth 100000

/-- The value of a part. -/
abbrev dpv (d : Tp.Dp) : Array Value := #[.int .i64 d.at_, .int .i64 d.en, .int .i64 d.st, .int .i64 d.sg, .int .i64 d.fr, .int .i64 d.to]
theorem tkR_no {s : ByteArray} {i : Nat} {b : Bool} (h : Tp.dg s i = i) : Tp.tkR s i b = ⟨⟨i, Tp.dg s i, -1, -1, 0, 0⟩, i, 41⟩ := by unfold Tp.tkR; rw [if_pos h]
theorem beq_nat {a b : Nat} (h : a = b) : ((a : Int) == (b : Int)) = true := by simp [h]
theorem bne_nat {a b : Nat} (h : ¬ a = b) : ((a : Int) == (b : Int)) = false := by simp; omega
theorem bt_lt {s : ByteArray} {i : Nat} (h : ¬ Sc.bt s i = 0) : i < s.size := by
  rcases Nat.lt_or_ge i s.size with q | q
  · exact q
  · exact absurd (Sc.bt_off (by omega)) h
theorem takesC (s : ByteArray) (i : Nat) (star : Bool) (hs : s.size ≤ maxLen) (hi : i ≤ s.size) (w : World) :
    Calls Tryd.prog 46 #[.string s, .int .i64 i, .bool star] w fun e w' => e = .returned (.tuple #[.agg (dpv (Tp.tkR s i star).p), .int .i64 (Tp.tkR s i star).j, .int .i64 (Tp.tkR s i star).e]) ∧ w.grownBy w' none := by
  by_cases hd : Tp.dg s i = i
  · rw [tkR_no hd]
    exact rtakes_no s i hs hi w star (beq_nat hd)
  · cases star
    · have e : Tp.tkR s i false = ⟨⟨i, Tp.dg s i, -1, -1, 0, 0⟩, Tp.dg s i, 0⟩ := by unfold Tp.tkR; rw [if_neg hd]; rfl
      rw [e]
      exact rtakes_len s i hs hi w (bne_nat hd)
    · have e : Tp.tkR s i true = Tp.tkB s i (Tp.dg s i) := by unfold Tp.tkR; rw [if_neg hd]; rfl
      rw [e]
      have ha : Tp.dg s i ≤ s.size := Sc.ov_le _ hi
      obtain ⟨a, hae⟩ : ∃ a, Tp.dg s i = a := ⟨_, rfl⟩
      rw [hae] at ha hd ⊢
      have hn := bne_nat hd
      unfold Tp.tkB
      by_cases hst : Sc.bt s a = 42
      · rw [if_pos hst]
        have hla := bt_lt (s := s) (i := a) (by omega)
        have hst' : (Sc.bt s a : Int) = 42 := by omega
        unfold Tp.tkS
        by_cases hend : a + 1 < s.size
        · by_cases h43 : Sc.bt s (a + 1) = 43
          · rw [if_pos (.inl h43)]
            by_cases hc : Tp.dg s (a + 1 + 1) = a + 1 + 1
            · rw [if_pos hc]
              exact (rtakes_s43n s i hs hi w a hae hn ha hst' hla (a + 1) rfl (by omega) hend (by simp; omega) (a + 1 + 1) rfl _ hc (beq_nat rfl)) |> fun h => by simpa using h
            · rw [if_neg hc]
              exact rtakes_s43y s i hs hi w a hae hn ha hst' hla (a + 1) rfl (by omega) hend (by simp; omega) (a + 1 + 1) rfl _ rfl (bne_nat hc)
          · by_cases h45 : Sc.bt s (a + 1) = 45
            · rw [if_pos (.inr h45)]
              by_cases hc : Tp.dg s (a + 1 + 1) = a + 1 + 1
              · rw [if_pos hc]
                exact rtakes_s45n s i hs hi w a hae hn ha hst' hla (a + 1) rfl (by omega) hend (by simp; omega) (by simp; omega) (a + 1 + 1) rfl _ hc (beq_nat rfl)
              · rw [if_neg hc]
                exact rtakes_s45y s i hs hi w a hae hn ha hst' hla (a + 1) rfl (by omega) hend (by simp; omega) (by simp; omega) (a + 1 + 1) rfl _ rfl (bne_nat hc)
            · rw [if_neg (by omega)]
              exact rtakes_sn s i hs hi w a hae hn ha hst' hla (a + 1) rfl (by omega) hend (by simp; omega) (by simp; omega)
        · have h0 := Sc.bt_off (s := s) (i := a + 1) (by omega)
          rw [if_neg (by omega)]
          exact rtakes_se s i hs hi w a hae hn ha hst' hla (a + 1) rfl (by omega) (by omega)
      · rw [if_neg hst]
        unfold Tp.tkS
        by_cases hend : a < s.size
        · by_cases h43 : Sc.bt s a = 43
          · rw [if_pos (.inl h43)]
            by_cases hc : Tp.dg s (a + 1) = a + 1
            · rw [if_pos hc]
              exact rtakes_u43n s i hs hi w a hae hn ha hend (by simp; omega) (by simp; omega) (a + 1) rfl _ hc (beq_nat rfl)
            · rw [if_neg hc]
              exact rtakes_u43y s i hs hi w a hae hn ha hend (by simp; omega) (by simp; omega) (a + 1) rfl _ rfl (bne_nat hc)
          · by_cases h45 : Sc.bt s a = 45
            · rw [if_pos (.inr h45)]
              by_cases hc : Tp.dg s (a + 1) = a + 1
              · rw [if_pos hc]
                exact rtakes_u45n s i hs hi w a hae hn ha hend (by simp; omega) (by simp; omega) (by simp; omega) (a + 1) rfl _ hc (beq_nat rfl)
              · rw [if_neg hc]
                exact rtakes_u45y s i hs hi w a hae hn ha hend (by simp; omega) (by simp; omega) (by simp; omega) (a + 1) rfl _ rfl (bne_nat hc)
            · rw [if_neg (by omega)]
              exact rtakes_un s i hs hi w a hae hn ha hend (by simp; omega) (by simp; omega) (by simp; omega)
        · have h0 := Sc.bt_off (s := s) (i := a) (by omega)
          rw [if_neg (by omega)]
          exact rtakes_ue s i hs hi w a hae hn ha (by omega)
end Go.Proofs.YteegbhnfkcbnoaaDoor
