/- Plain facts on the texts of topologies: what is read of any text may be, and a fault lies within the text. -/
import Derived.Test.YteegbhnfkcbnoabDoorP14
namespace Go.Proofs.YteegbhnfkcbnoabDoor
open Go.RowKit
set_option linter.unusedVariables false
set_option linter.unusedSimpArgs false

/-- A part without a sign has no shift. -/
def prSh (r : Tp.PR) : Prop := match r with | .bad _ _ => True | .ok q _ => q.sign = 0 → q.sh = 0
theorem part_sh (s : ByteArray) (i : Nat) (hi : 1 ≤ i) : prSh (Tp.partR s i) := by
  have key : ∀ st b, 1 ≤ b → prSh (Tp.partC s i st b) := by
    intro st b hb
    unfold Tp.partC
    by_cases h1 : Sc.bt s b = 45 ∨ Sc.bt s b = 43
    · rw [if_pos h1]
      by_cases h2 : b + 1 < Tp.dg s (b + 1)
      · rw [if_pos h2]
        intro h; exfalso; change b = 0 at h; omega
      · rw [if_neg h2]; exact True.intro
    · rw [if_neg h1]; intro _; rfl
  unfold Tp.partR
  by_cases hn : i < Tp.dg s i
  · rw [if_pos hn]
    unfold Tp.partB
    by_cases hst : Sc.bt s (Tp.dg s i) = 42
    · rw [if_pos hst]; exact key _ _ (by omega)
    · rw [if_neg hst]; exact key _ _ (by omega)
  · rw [if_neg hn]; exact True.intro
/-- What the form gives. -/
structure FK (s : ByteArray) (k : Nat) (P Q : Tp.Pt) (l : Nat) : Prop where
  k1 : 1 ≤ k
  k5 : k ≤ 5
  l1 : 1 ≤ l
  le : l = s.size
  alike : k = 5 → P.len = Q.len
  ps : P.sign = 0 → P.sh = 0
  qs : Q.sign = 0 → Q.sh = 0
theorem form_kept {s : ByteArray} {k : Nat} {P Q : Tp.Pt} {n l : Nat} (h : Tp.formR s = .ok k P Q n l) : FK s k P Q l := by
  have hle := Tp.kind_le (Sc.bt s 0)
  unfold Tp.formR at h
  by_cases hk : Tp.kindR (Sc.bt s 0) = 0
  · rw [if_pos hk] at h; cases h
  · rw [if_neg hk] at h
    have hsz : 1 ≤ s.size := by
      by_cases h0 : 0 < s.size
      · exact h0
      · exfalso; apply hk; rw [Sc.bt_off h0]; rfl
    have fin : ∀ P' Q' n' l', (P'.sign = 0 → P'.sh = 0) → (Q'.sign = 0 → Q'.sh = 0) → (Tp.kindR (Sc.bt s 0) = 5 → P'.len = Q'.len) → Tp.endR s (Tp.kindR (Sc.bt s 0)) P' Q' n' l' = .ok k P Q n l → FK s k P Q l := by
      intro P' Q' n' l' h1 h2 h3 he
      unfold Tp.endR at he
      by_cases hl : l' = s.size
      · rw [if_pos hl] at he
        injection he with e1 e2 e3 e4 e5
        subst e1; subst e2; subst e3; subst e5
        exact ⟨by omega, hle, by omega, hl, h3, h1, h2⟩
      · rw [if_neg hl] at he; cases he
    unfold Tp.bodyR at h
    by_cases k5 : Tp.kindR (Sc.bt s 0) = 5
    · rw [if_pos k5] at h
      by_cases hd : 1 < Tp.dg s 1
      · rw [if_pos hd, ← k5] at h
        exact fin _ _ _ _ (fun _ => rfl) (fun _ => rfl) (fun _ => rfl) h
      · rw [if_neg hd] at h; cases h
    · rw [if_neg k5] at h
      by_cases hd : Tp.kindR (Sc.bt s 0) ≤ 2 ∧ s.size = 1
      · rw [if_pos hd] at h
        injection h with e1 e2 e3 e4 e5
        subst e1; subst e2; subst e3; subst e5
        exact ⟨by omega, hle, by omega, hd.2.symm, fun _ => rfl, fun _ => rfl, fun _ => rfl⟩
      · rw [if_neg hd] at h
        have p1 := part_sh s 1 (by omega)
        cases hp : Tp.partR s 1 with
        | bad er a => rw [hp] at h; cases h
        | ok q j =>
          rw [hp] at h p1
          unfold Tp.firR at h
          simp only [] at h
          by_cases hc : Sc.bt s j = 44
          · rw [if_pos hc] at h
            have p2 := part_sh s (j + 1) (by omega)
            cases hp2 : Tp.partR s (j + 1) with
            | bad er a => rw [hp2] at h; cases h
            | ok u m =>
              rw [hp2] at h p2
              exact fin _ _ _ _ p1 p2 (fun h5 => absurd h5 k5) h
          · rw [if_neg hc] at h
            exact fin _ _ _ _ p1 (fun _ => rfl) (fun h5 => absurd h5 k5) h
/-- What has sense may be. -/
theorem sense_ok {s : ByteArray} {k : Nat} {P Q : Tp.Pt} {l : Nat} (f : FK s k P Q l) (h : (Tp.senseR k P Q l).e = 0) : Tp.chk k P.len Q.len (Tp.topoR k P Q).t (Tp.topoR k P Q).s = 0 := by
  have f1 := f.k1; have f2 := f.k5; have f3 := f.l1
  unfold Tp.senseR at h
  by_cases c1 : 65536 < P.len
  · rw [if_pos c1] at h; cases h
  rw [if_neg c1] at h
  by_cases c2 : 65536 < Q.len
  · rw [if_pos c2] at h; cases h
  rw [if_neg c2] at h
  by_cases c3 : 3 ≤ k ∧ P.len = 0
  · rw [if_pos c3] at h; cases h
  rw [if_neg c3] at h
  by_cases c4 : 3 ≤ k ∧ Q.len = 0
  · rw [if_pos c4] at h; cases h
  rw [if_neg c4] at h
  by_cases c5 : Tp.wst k P Q l ≠ 0
  · rw [if_pos c5] at h; cases h
  rw [if_neg c5] at h
  by_cases c6 : Tp.wsg k P Q ≠ 0
  · rw [if_pos c6] at h; cases h
  have d5 : Tp.wst k P Q l = 0 := Classical.not_not.1 c5
  have d6 : Tp.wsg k P Q = 0 := Classical.not_not.1 c6
  clear h c5 c6
  have hal : k = 5 → P.len = Q.len := f.alike
  -- without a sign: a turned side of a Klein without a shift
  have star : ∀ t : Int, (t = 1 ∨ t = 2) → k = 3 → Tp.chk k P.len Q.len t 0 = 0 := by
    intro t ht hk
    refine Tp.of_ok ⟨by omega, by omega, by omega, by omega, by omega, by omega, by omega, by omega, by omega, fun _ => ?_, by omega⟩ (by omega)
    unfold Tp.sd
    split <;> omega
  unfold Tp.wsg at d6
  unfold Tp.topoR
  by_cases hp : P.star ≠ 0 ∨ P.sign ≠ 0
  · rw [if_pos hp]
    by_cases hs : P.sign = 0
    · have hst : P.star ≠ 0 := by omega
      have hk3 : k = 3 := by
        by_cases hk : k = 3
        · exact hk
        · unfold Tp.wst at d5
          rw [if_neg hk, if_neg hst] at d5
          exact absurd d5 hst
      change Tp.chk k P.len Q.len 1 P.sh = 0
      rw [f.ps hs]
      exact star 1 (Or.inl rfl) hk3
    · change Tp.chk k P.len Q.len 1 P.sh = 0
      by_cases hw : Tp.wsp k P Q = true
      · rw [if_pos ⟨hs, hw⟩] at d6; exact absurd d6 hs
      · unfold Tp.wsp at hw
        simp at hw
        exact hw.2
  · rw [if_neg hp]
    have hp1 : P.star = 0 := by omega
    have hp2 : P.sign = 0 := by omega
    rw [if_neg (fun h => h.1 hp2)] at d6
    by_cases hq : Q.star ≠ 0 ∨ Q.sign ≠ 0
    · rw [if_pos hq]
      by_cases hs : Q.sign = 0
      · have hst : Q.star ≠ 0 := by omega
        have hk3 : k = 3 := by
          by_cases hk : k = 3
          · exact hk
          · unfold Tp.wst at d5
            rw [if_neg hk, if_pos hp1] at d5
            exact absurd d5 hst
        change Tp.chk k P.len Q.len 2 Q.sh = 0
        rw [f.qs hs]
        exact star 2 (Or.inr rfl) hk3
      · change Tp.chk k P.len Q.len 2 Q.sh = 0
        by_cases hw : Tp.wsq k P Q = true
        · rw [if_pos ⟨hs, hw⟩] at d6; exact absurd d6 hs
        · unfold Tp.wsq at hw
          simp at hw
          exact hw.2
    · rw [if_neg hq]
      change Tp.chk k P.len Q.len 0 0 = 0
      have hk3 : k ≠ 3 := by
        intro hk
        unfold Tp.wst at d5
        rw [if_pos hk, if_pos hp1, if_pos (by omega)] at d5
        omega
      exact Tp.of_ok ⟨by omega, by omega, by omega, by omega, by omega, by decide, fun h => absurd rfl h, fun _ => by omega, fun _ => rfl, fun h => absurd rfl h, fun h => absurd rfl h⟩ (by decide)
/-- WHAT IS READ MAY BE. -/
theorem parse_ok' {s : ByteArray} (h : (Tp.parseR s).e = 0) : Tp.chk (Tp.parseR s).k (Tp.parseR s).w (Tp.parseR s).h (Tp.parseR s).t (Tp.parseR s).s = 0 ∧ (Tp.parseR s).a = 0 := by
  unfold Tp.parseR at h ⊢
  by_cases hz : 1048576 < s.size
  · rw [if_pos hz] at h; cases h
  · rw [if_neg hz] at h ⊢
    cases hf : Tp.formR s with
    | bad er a =>
      rw [hf] at h
      exact absurd h (form_bad hf)
    | ok k P Q n l =>
      rw [hf] at h
      change (Tp.sayR k P Q l).e = 0 at h
      change Tp.chk (Tp.sayR k P Q l).k (Tp.sayR k P Q l).w (Tp.sayR k P Q l).h (Tp.sayR k P Q l).t (Tp.sayR k P Q l).s = 0 ∧ (Tp.sayR k P Q l).a = 0
      unfold Tp.sayR at h ⊢
      by_cases he : (Tp.senseR k P Q l).e = 0
      · rw [if_pos he]
        obtain ⟨f1, f2, f3, f4, f5⟩ := topo_fields k P Q
        rw [f1, f2, f3, f4]
        exact ⟨sense_ok (form_kept hf) he, rfl⟩
      · rw [if_neg he] at h; exact absurd h he
end Go.Proofs.YteegbhnfkcbnoabDoor
