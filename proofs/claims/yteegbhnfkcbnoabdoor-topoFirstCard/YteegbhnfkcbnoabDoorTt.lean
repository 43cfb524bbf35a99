/- Plain facts on the texts of topologies: where faults of sense lie; a fault of form stays. -/
import Derived.Test.YteegbhnfkcbnoabDoorTs
namespace Go.Proofs.YteegbhnfkcbnoabDoor
open Go.RowKit
set_option linter.unusedVariables false
set_option linter.unusedSimpArgs false

def sgB (c : Nat) : Prop := c = 43 ∨ c = 45
def ptGd (s : ByteArray) (q : Tp.Pt) : Prop := (q.len ≠ 0 → 48 ≤ Sc.bt s q.pl ∧ Sc.bt s q.pl ≤ 57) ∧ (q.sign ≠ 0 → sgB (Sc.bt s q.sign) ∧ ¬ sgB (Sc.bt s (q.sign - 1)))
def prGd (s : ByteArray) (r : Tp.PR) : Prop := match r with | .bad _ _ => True | .ok q _ => ptGd s q
theorem dig_at {s : ByteArray} {i j : Nat} (hi : i ≤ s.size) (h1 : i ≤ j) (h2 : j < Tp.dg s i) : 48 ≤ Sc.bt s j ∧ Sc.bt s j ≤ 57 := (digit_iff _).1 ((Sc.ov_is Sc.digitB (s := s) hi).all j h1 h2)
theorem part_gd {s : ByteArray} {i : Nat} (hi : i ≤ s.size) : prGd s (Tp.partR s i) := by
  unfold Tp.partR
  by_cases hn : i < Tp.dg s i
  · rw [if_pos hn]
    have hd := dig_at hi (Nat.le_refl i) hn
    have hl := dig_at hi (show i ≤ Tp.dg s i - 1 by omega) (by omega)
    have key : ∀ st b, 1 ≤ b → ¬ sgB (Sc.bt s (b - 1)) → prGd s (Tp.partC s i st b) := by
      intro st b hb hns
      unfold Tp.partC
      by_cases h1 : Sc.bt s b = 45 ∨ Sc.bt s b = 43
      · rw [if_pos h1]
        by_cases h2 : b + 1 < Tp.dg s (b + 1)
        · rw [if_pos h2]; exact ⟨fun _ => hd, fun _ => ⟨h1.symm, hns⟩⟩
        · rw [if_neg h2]; exact True.intro
      · rw [if_neg h1]; exact ⟨fun _ => hd, fun h => absurd rfl h⟩
    unfold Tp.partB
    by_cases hst : Sc.bt s (Tp.dg s i) = 42
    · rw [if_pos hst]
      refine key _ _ (by omega) ?_
      rw [show Tp.dg s i + 1 - 1 = Tp.dg s i by omega, hst]
      unfold sgB; omega
    · rw [if_neg hst]
      refine key _ _ (by omega) ?_
      unfold sgB; omega
  · rw [if_neg hn]; exact True.intro
theorem form_gd {s : ByteArray} {k : Nat} {P Q : Tp.Pt} {n l : Nat} (h : Tp.formR s = .ok k P Q n l) : ptGd s P ∧ ptGd s Q := by
  unfold Tp.formR at h
  by_cases hk : Tp.kindR (Sc.bt s 0) = 0
  · rw [if_pos hk] at h; cases h
  · rw [if_neg hk] at h
    have hsz : 1 ≤ s.size := by
      by_cases h0 : 0 < s.size
      · exact h0
      · exfalso; apply hk; rw [Sc.bt_off h0]; rfl
    have fin : ∀ k' P' Q' n' l', ptGd s P' → ptGd s Q' → Tp.endR s k' P' Q' n' l' = .ok k P Q n l → ptGd s P ∧ ptGd s Q := by
      intro k' P' Q' n' l' h1 h2 he
      unfold Tp.endR at he
      by_cases hl : l' = s.size
      · rw [if_pos hl] at he
        injection he with e1 e2 e3
        subst e2; subst e3
        exact ⟨h1, h2⟩
      · rw [if_neg hl] at he; cases he
    unfold Tp.bodyR at h
    by_cases k5 : Tp.kindR (Sc.bt s 0) = 5
    · rw [if_pos k5] at h
      by_cases hd : 1 < Tp.dg s 1
      · rw [if_pos hd] at h
        have hg : ptGd s (Tp.lenR s 1) := ⟨fun _ => dig_at hsz (Nat.le_refl 1) hd, fun h => absurd rfl h⟩
        exact fin _ _ _ _ _ hg hg h
      · rw [if_neg hd] at h; cases h
    · rw [if_neg k5] at h
      by_cases hd : Tp.kindR (Sc.bt s 0) ≤ 2 ∧ s.size = 1
      · rw [if_pos hd] at h
        injection h with e1 e2 e3
        subst e2; subst e3
        exact ⟨⟨fun h => absurd rfl h, fun h => absurd rfl h⟩, ⟨fun h => absurd rfl h, fun h => absurd rfl h⟩⟩
      · rw [if_neg hd] at h
        have p1 := part_gd (s := s) hsz
        cases hp : Tp.partR s 1 with
        | bad er a => rw [hp] at h; cases h
        | ok q j =>
          rw [hp] at h p1
          unfold Tp.firR at h
          simp only [] at h
          by_cases hc : Sc.bt s j = 44
          · rw [if_pos hc] at h
            have p2 := part_gd (s := s) (i := j + 1) (lt_of_bt hc (by decide))
            cases hp2 : Tp.partR s (j + 1) with
            | bad er a => rw [hp2] at h; cases h
            | ok u m => rw [hp2] at h p2; exact fin _ _ _ _ _ p1 p2 h
          · rw [if_neg hc] at h
            exact fin _ _ _ _ _ p1 (show ptGd s (Tp.one q) from ⟨p1.1, fun h => absurd rfl h⟩) h
/-- A fault of sense: 42, 44, or 41 at a digit, or 43 at a sign behind no sign. -/
def Sens (s : ByteArray) (e a : Nat) : Prop := e = 44 ∨ e = 42 ∨ (e = 41 ∧ 48 ≤ Sc.bt s a ∧ Sc.bt s a ≤ 57) ∨ (e = 43 ∧ sgB (Sc.bt s a) ∧ 0 < a ∧ ¬ sgB (Sc.bt s (a - 1)))
theorem sense_is {s : ByteArray} {k : Nat} {P Q : Tp.Pt} {l : Nat} (g1 : ptGd s P) (g2 : ptGd s Q) (h : (Tp.senseR k P Q l).e ≠ 0) : Sens s (Tp.senseR k P Q l).e (Tp.senseR k P Q l).a := by
  unfold Tp.senseR at h ⊢
  by_cases c1 : 65536 < P.len
  · rw [if_pos c1]; exact Or.inr (Or.inr (Or.inl ⟨rfl, g1.1 (by omega)⟩))
  rw [if_neg c1] at h ⊢
  by_cases c2 : 65536 < Q.len
  · rw [if_pos c2]; exact Or.inr (Or.inr (Or.inl ⟨rfl, g2.1 (by omega)⟩))
  rw [if_neg c2] at h ⊢
  by_cases c3 : 3 ≤ k ∧ P.len = 0
  · rw [if_pos c3]; exact Or.inr (Or.inl rfl)
  rw [if_neg c3] at h ⊢
  by_cases c4 : 3 ≤ k ∧ Q.len = 0
  · rw [if_pos c4]; exact Or.inr (Or.inl rfl)
  rw [if_neg c4] at h ⊢
  by_cases c5 : Tp.wst k P Q l ≠ 0
  · rw [if_pos c5]; exact Or.inl rfl
  rw [if_neg c5] at h ⊢
  by_cases c6 : Tp.wsg k P Q ≠ 0
  · rw [if_pos c6]
    right; right; right
    change 43 = 43 ∧ sgB (Sc.bt s (Tp.wsg k P Q)) ∧ 0 < Tp.wsg k P Q ∧ ¬ sgB (Sc.bt s (Tp.wsg k P Q - 1))
    unfold Tp.wsg at c6 ⊢
    by_cases d1 : P.sign ≠ 0 ∧ Tp.wsp k P Q = true
    · rw [if_pos d1]
      have := g1.2 d1.1
      exact ⟨rfl, this.1, Nat.pos_of_ne_zero d1.1, this.2⟩
    · rw [if_neg d1] at c6 ⊢
      by_cases d2 : Q.sign ≠ 0 ∧ Tp.wsq k P Q = true
      · rw [if_pos d2]
        have := g2.2 d2.1
        exact ⟨rfl, this.1, Nat.pos_of_ne_zero d2.1, this.2⟩
      · rw [if_neg d2] at c6; exact absurd rfl c6
  rw [if_neg c6] at h
  exact absurd rfl h
/-- A FAULT THAT IS NONE OF SENSE STAYS. -/
theorem first_is {s r : ByteArray} (he : (Tp.parseR s).e ≠ 0) (h3 : (Tp.parseR s).e ≠ 3) (hn : ¬ Sens s (Tp.parseR s).e (Tp.parseR s).a) (hg : Ag s r (Tp.parseR s).a) (hr : r.size ≤ 1048576) : (Tp.parseR r).e = (Tp.parseR s).e ∧ (Tp.parseR r).a = (Tp.parseR s).a := by
  by_cases hz : 1048576 < s.size
  · exfalso; apply h3; unfold Tp.parseR; rw [if_pos hz]; rfl
  · have hs : Tp.parseR s = Tp.toldR (Tp.formR s) := by unfold Tp.parseR; rw [if_neg hz]
    have hr' : Tp.parseR r = Tp.toldR (Tp.formR r) := by unfold Tp.parseR; rw [if_neg (by omega)]
    cases hf : Tp.formR s with
    | bad e a =>
      rw [hs, hf] at hg ⊢
      rw [hr', ag_form hf hg]
      exact ⟨rfl, rfl⟩
    | ok k P Q n l =>
      exfalso
      apply hn
      rw [hs, hf] at he ⊢
      change (Tp.sayR k P Q l).e ≠ 0 at he
      change Sens s (Tp.sayR k P Q l).e (Tp.sayR k P Q l).a
      unfold Tp.sayR at he ⊢
      by_cases h0 : (Tp.senseR k P Q l).e = 0
      · rw [if_pos h0] at he; exact absurd (topo_fields k P Q).2.2.2.2 he
      · rw [if_neg h0]
        have := form_gd hf
        exact sense_is this.1 this.2 h0
theorem ag_ext {s m : ByteArray} {a : Nat} (ha : a < s.size) : Ag s ((s.extract 0 (a + 1)) ++ m) a := by
  have hz : (s.extract 0 (a + 1)).size = a + 1 := by rw [Sc.size_ext s (by omega)]; omega
  have hsz := ByteArray.size_append (a := s.extract 0 (a + 1)) (b := m)
  refine ⟨ha, by omega, fun j hj => ?_⟩
  have h1 : j < (s.extract 0 (a + 1) ++ m).size := by omega
  have h2 : j < (s.extract 0 (a + 1)).size := by omega
  rw [← Sc.bt_at h1, ByteArray.getElem_append_left h2, Sc.bt_at h2, Sc.bt_ext s (by omega) (by omega)]
  congr 1; omega
end Go.Proofs.YteegbhnfkcbnoabDoor
