/- Plain facts on the texts of topologies: a fault of form stays the first one, whatever stands behind the faulty byte. -/
import Derived.Test.YteegbhnfkcbnoabDoorTr
namespace Go.Proofs.YteegbhnfkcbnoabDoor
open Go.RowKit
set_option linter.unusedVariables false
set_option linter.unusedSimpArgs false

/-- Two texts that agree up to a byte that both have. -/
structure Ag (s r : ByteArray) (a : Nat) : Prop where
  hs : a < s.size
  hr : a < r.size
  eq : ∀ j, j ≤ a → Sc.bt r j = Sc.bt s j
theorem ag_dg {s r : ByteArray} {a i : Nat} (h : Ag s r a) (hd : Tp.dg s i ≤ a) (hi : i ≤ a) : Tp.dg r i = Tp.dg s i := by
  have o := Sc.ov_is Sc.digitB (s := s) (i := i) (by have := h.hs; omega)
  have oe : Sc.Ov Sc.digitB s i (Tp.dg s i) := o
  refine Sc.ov_of ⟨oe.ge, by have := h.hr; omega, fun j h1 h2 => ?_, fun _ => ?_⟩
  · rw [h.eq j (by omega)]; exact oe.all j h1 h2
  · rw [h.eq _ hd]; exact oe.stop (by have := h.hs; omega)
def prOf (r : Tp.PR) : Tp.PR := match r with | .bad e a => .bad e a | .ok _ j => .ok Tp.Pt.zero j
theorem dg_up {s : ByteArray} {i : Nat} (hi : i ≤ s.size) : i ≤ Tp.dg s i := dg_ge hi
theorem ag_part {s r : ByteArray} {a i : Nat} (h : Ag s r a) (hi : i ≤ a) (hp : prPl (Tp.partR s i) ≤ a) : prOf (Tp.partR r i) = prOf (Tp.partR s i) := by
  have hs := h.hs
  have key : ∀ st b, b ≤ s.size → prPl (Tp.partC s i st b) ≤ a → prOf (Tp.partC r i st b) = prOf (Tp.partC s i st b) := by
    intro st b hb
    unfold Tp.partC
    by_cases h1 : Sc.bt s b = 45 ∨ Sc.bt s b = 43
    · have hlt : b < s.size := by rcases h1 with h1 | h1 <;> exact lt_of_bt h1 (by decide)
      rw [if_pos h1]
      by_cases h2 : b + 1 < Tp.dg s (b + 1)
      · rw [if_pos h2]
        intro hle
        change Tp.dg s (b + 1) ≤ a at hle
        rw [h.eq b (by omega), if_pos h1, ag_dg h hle (by omega), if_pos h2]; rfl
      · rw [if_neg h2]
        intro hle
        change b + 1 ≤ a at hle
        have e1 := dg_up (s := s) (i := b + 1) (by omega)
        rw [h.eq b (by omega), if_pos h1, ag_dg h (by omega) hle, if_neg h2]
    · rw [if_neg h1]
      intro hle
      change b ≤ a at hle
      rw [h.eq b hle, if_neg h1]; rfl
  have pl : ∀ st b, b ≤ prPl (Tp.partC s i st b) ∨ s.size < b := by
    intro st b
    by_cases hb : b ≤ s.size
    · left
      unfold Tp.partC
      by_cases h1 : Sc.bt s b = 45 ∨ Sc.bt s b = 43
      · have hlt : b < s.size := by rcases h1 with h1 | h1 <;> exact lt_of_bt h1 (by decide)
        rw [if_pos h1]
        by_cases h2 : b + 1 < Tp.dg s (b + 1)
        · rw [if_pos h2]; change b ≤ Tp.dg s (b + 1); omega
        · rw [if_neg h2]; change b ≤ b + 1; omega
      · rw [if_neg h1]; exact Nat.le_refl b
    · right; omega
  unfold Tp.partR at hp ⊢
  by_cases hn : i < Tp.dg s i
  · rw [if_pos hn] at hp ⊢
    have hdl := dg_le (s := s) (i := i) (by omega)
    unfold Tp.partB at hp ⊢
    by_cases hst : Sc.bt s (Tp.dg s i) = 42
    · have hlt := lt_of_bt hst (by decide)
      rw [if_pos hst] at hp ⊢
      have := pl (Tp.dg s i) (Tp.dg s i + 1)
      have hda : Tp.dg s i ≤ a := by omega
      rw [ag_dg h hda hi, if_pos hn, h.eq _ hda, if_pos hst]
      exact key _ _ (by omega) hp
    · rw [if_neg hst] at hp ⊢
      have := pl 0 (Tp.dg s i)
      have hda : Tp.dg s i ≤ a := by omega
      rw [ag_dg h hda hi, if_pos hn, h.eq _ hda, if_neg hst]
      exact key _ _ hdl hp
  · rw [if_neg hn] at hp ⊢
    have e1 := dg_up (s := s) (i := i) (by omega)
    rw [ag_dg h (by omega) hi, if_neg hn]
theorem prOf_bad {r : Tp.PR} {e a : Nat} (h : prOf r = .bad e a) : r = .bad e a := by
  cases r with
  | bad e' a' => exact h
  | ok q j => cases h
theorem prOf_ok {r : Tp.PR} {q : Tp.Pt} {j : Nat} (h : prOf r = prOf (.ok q j)) : ∃ u, r = .ok u j := by
  cases r with
  | bad e' a' => cases h
  | ok u j' => injection h with h1 h2; exact ⟨u, by rw [h2]⟩
theorem part_ge (s : ByteArray) (i : Nat) (hi : i ≤ s.size) : i ≤ prPl (Tp.partR s i) := by
  have key : ∀ st b, i ≤ b → i ≤ prPl (Tp.partC s i st b) := by
    intro st b hb
    unfold Tp.partC
    by_cases h1 : Sc.bt s b = 45 ∨ Sc.bt s b = 43
    · rw [if_pos h1]
      by_cases h2 : b + 1 < Tp.dg s (b + 1)
      · rw [if_pos h2]; change i ≤ Tp.dg s (b + 1); omega
      · rw [if_neg h2]; change i ≤ b + 1; omega
    · rw [if_neg h1]; exact hb
  unfold Tp.partR
  by_cases hn : i < Tp.dg s i
  · rw [if_pos hn]
    unfold Tp.partB
    by_cases hst : Sc.bt s (Tp.dg s i) = 42
    · rw [if_pos hst]; exact key _ _ (by omega)
    · rw [if_neg hst]; exact key _ _ (by omega)
  · rw [if_neg hn]; exact Nat.le_refl i
/-- A FAULT OF FORM STAYS. -/
theorem ag_form {s r : ByteArray} {e a : Nat} (hf : Tp.formR s = .bad e a) (h : Ag s r a) : Tp.formR r = .bad e a := by
  have hs := h.hs
  have hr := h.hr
  have h0 := h.eq 0 (Nat.zero_le _)
  unfold Tp.formR at hf ⊢
  rw [h0]
  by_cases hk : Tp.kindR (Sc.bt s 0) = 0
  · rw [if_pos hk] at hf ⊢; exact hf
  · rw [if_neg hk] at hf ⊢
    have fin : ∀ k P Q n l P' Q' n', Tp.endR s k P Q n l = .bad e a → Tp.endR r k P' Q' n' l = .bad e a := by
      intro k P Q n l P' Q' n' he
      unfold Tp.endR at he ⊢
      by_cases hl : l = s.size
      · rw [if_pos hl] at he; cases he
      · rw [if_neg hl] at he
        injection he with e1 e2
        subst e2
        rw [if_neg (by omega), e1]
    have loc : ∀ k P Q n l, Tp.endR s k P Q n l = .bad e a → l = a := by
      intro k P Q n l he
      unfold Tp.endR at he
      by_cases hl : l = s.size
      · rw [if_pos hl] at he; cases he
      · rw [if_neg hl] at he; injection he
    unfold Tp.bodyR at hf ⊢
    by_cases k5 : Tp.kindR (Sc.bt s 0) = 5
    · rw [if_pos k5] at hf ⊢
      by_cases hd : 1 < Tp.dg s 1
      · rw [if_pos hd] at hf
        have hl := loc _ _ _ _ _ hf
        rw [ag_dg h (by omega) (by omega), if_pos hd]
        exact fin _ _ _ _ _ _ _ _ hf
      · rw [if_neg hd] at hf
        injection hf with e1 e2
        have e3 := dg_up (s := s) (i := 1) (by omega)
        rw [ag_dg h (by omega) (by omega), if_neg hd, ← e1, ← e2]
    · rw [if_neg k5] at hf ⊢
      by_cases hd : Tp.kindR (Sc.bt s 0) ≤ 2 ∧ s.size = 1
      · rw [if_pos hd] at hf; cases hf
      · rw [if_neg hd] at hf
        have h1a : 1 ≤ a := by
          cases hp : Tp.partR s 1 with
          | bad er b =>
            have hge := part_ge s 1 (by omega)
            rw [hp] at hf hge
            injection hf with e1 e2
            change 1 ≤ b at hge
            omega
          | ok q j =>
            have hge := part_ge s 1 (by omega)
            rw [hp] at hf hge
            change 1 ≤ j at hge
            unfold Tp.firR at hf
            simp only [] at hf
            by_cases hc : Sc.bt s j = 44
            · rw [if_pos hc] at hf
              have hj := lt_of_bt hc (by decide)
              have hge2 := part_ge s (j + 1) (by omega)
              cases hp2 : Tp.partR s (j + 1) with
              | bad er b => rw [hp2] at hf hge2; injection hf with e1 e2; change j + 1 ≤ b at hge2; omega
              | ok u m => rw [hp2] at hf hge2; have := loc _ _ _ _ _ hf; change j + 1 ≤ m at hge2; omega
            · rw [if_neg hc] at hf; have := loc _ _ _ _ _ hf; omega
        rw [if_neg (by omega)]
        cases hp : Tp.partR s 1 with
        | bad er b =>
          rw [hp] at hf
          have hb : er = e ∧ b = a := by injection hf with e1 e2; exact ⟨e1, e2⟩
          have hpr := ag_part h h1a (by rw [hp]; change b ≤ a; omega)
          rw [hp] at hpr
          rw [prOf_bad hpr]
          exact hf
        | ok q j =>
          rw [hp] at hf
          have hjs : j ≤ s.size := by have := part_le (s := s) (i := 1) (by omega); rw [hp] at this; exact this
          unfold Tp.firR at hf
          simp only [] at hf
          by_cases hc : Sc.bt s j = 44
          · rw [if_pos hc] at hf
            have hj := lt_of_bt hc (by decide)
            have hge2 := part_ge s (j + 1) (by omega)
            have hja : j + 1 ≤ a ∧ prPl (Tp.partR s (j + 1)) ≤ a := by
              cases hp2 : Tp.partR s (j + 1) with
              | bad er b => rw [hp2] at hf hge2; injection hf with e1 e2; change j + 1 ≤ b at hge2; exact ⟨by omega, by change b ≤ a; omega⟩
              | ok u m => rw [hp2] at hf hge2; have := loc _ _ _ _ _ hf; change j + 1 ≤ m at hge2; exact ⟨by omega, by change m ≤ a; omega⟩
            have hpr := ag_part h h1a (by rw [hp]; change j ≤ a; omega)
            rw [hp] at hpr
            obtain ⟨u1, hu1⟩ := prOf_ok hpr
            have hpr2 := ag_part h hja.1 hja.2
            rw [hu1]
            unfold Tp.firR
            simp only []
            rw [h.eq j (by omega), if_pos hc]
            cases hp2 : Tp.partR s (j + 1) with
            | bad er b =>
              rw [hp2] at hf hpr2
              rw [prOf_bad hpr2]
              exact hf
            | ok u m =>
              rw [hp2] at hf hpr2
              obtain ⟨u2, hu2⟩ := prOf_ok hpr2
              rw [hu2]
              exact fin _ _ _ _ _ _ _ _ hf
          · rw [if_neg hc] at hf
            have hl := loc _ _ _ _ _ hf
            have hpr := ag_part h h1a (by rw [hp]; change j ≤ a; omega)
            rw [hp] at hpr
            obtain ⟨u1, hu1⟩ := prOf_ok hpr
            rw [hu1]
            unfold Tp.firR
            simp only []
            rw [h.eq j (by omega), if_neg hc]
            exact fin _ _ _ _ _ _ _ _ hf
end Go.Proofs.YteegbhnfkcbnoabDoor
