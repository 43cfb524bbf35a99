/- Plain facts on the texts of topologies: a fault lies within the text; what Print writes is read back. -/
import Derived.Test.YteegbhnfkcbnoabDoorTq
namespace Go.Proofs.YteegbhnfkcbnoabDoor
open Go.RowKit
set_option linter.unusedVariables false
set_option linter.unusedSimpArgs false

def ptIn (n : Nat) (q : Tp.Pt) : Prop := q.pl ≤ n ∧ q.star ≤ n ∧ q.sign ≤ n
def prIn (n : Nat) (r : Tp.PR) : Prop := match r with | .bad _ a => a ≤ n | .ok q j => ptIn n q ∧ j ≤ n
theorem part_in {s : ByteArray} {i : Nat} (hi : i ≤ s.size) : prIn s.size (Tp.partR s i) := by
  have key : ∀ st b, st ≤ s.size → b ≤ s.size → prIn s.size (Tp.partC s i st b) := by
    intro st b hst hb
    unfold Tp.partC
    by_cases h1 : Sc.bt s b = 45 ∨ Sc.bt s b = 43
    · have hlt : b < s.size := by rcases h1 with h1 | h1 <;> exact lt_of_bt h1 (by decide)
      rw [if_pos h1]
      by_cases h2 : b + 1 < Tp.dg s (b + 1)
      · rw [if_pos h2]; exact ⟨⟨hi, hst, hb⟩, dg_le hlt⟩
      · rw [if_neg h2]; exact hlt
    · rw [if_neg h1]; exact ⟨⟨hi, hst, Nat.zero_le _⟩, hb⟩
  unfold Tp.partR
  by_cases hn : i < Tp.dg s i
  · rw [if_pos hn]
    unfold Tp.partB
    by_cases hst : Sc.bt s (Tp.dg s i) = 42
    · rw [if_pos hst]; exact key _ _ (dg_le hi) (lt_of_bt hst (by decide))
    · rw [if_neg hst]; exact key _ _ (Nat.zero_le _) (dg_le hi)
  · rw [if_neg hn]; exact hi
def frIn (n : Nat) (r : Tp.FR) : Prop := match r with | .bad _ a => a ≤ n | .ok _ P Q _ l => ptIn n P ∧ ptIn n Q ∧ l ≤ n
theorem form_in (s : ByteArray) : frIn s.size (Tp.formR s) := by
  unfold Tp.formR
  by_cases hk : Tp.kindR (Sc.bt s 0) = 0
  · rw [if_pos hk]; exact Nat.zero_le _
  · rw [if_neg hk]
    have hsz : 1 ≤ s.size := by
      by_cases h0 : 0 < s.size
      · exact h0
      · exfalso; apply hk; rw [Sc.bt_off h0]; rfl
    have fin : ∀ k P Q n l, ptIn s.size P → ptIn s.size Q → l ≤ s.size → frIn s.size (Tp.endR s k P Q n l) := by
      intro k P Q n l h1 h2 h3
      unfold Tp.endR
      by_cases hl : l = s.size
      · rw [if_pos hl]; exact ⟨h1, h2, h3⟩
      · rw [if_neg hl]; exact h3
    have z : ∀ i, i ≤ s.size → ptIn s.size (Tp.lenR s i) := fun i hi => ⟨hi, Nat.zero_le _, Nat.zero_le _⟩
    unfold Tp.bodyR
    by_cases k5 : Tp.kindR (Sc.bt s 0) = 5
    · rw [if_pos k5]
      by_cases hd : 1 < Tp.dg s 1
      · rw [if_pos hd]; exact fin _ _ _ _ _ (z 1 hsz) (z 1 hsz) (dg_le hsz)
      · rw [if_neg hd]; exact hsz
    · rw [if_neg k5]
      by_cases hd : Tp.kindR (Sc.bt s 0) ≤ 2 ∧ s.size = 1
      · rw [if_pos hd]; exact ⟨⟨Nat.zero_le _, Nat.zero_le _, Nat.zero_le _⟩, ⟨Nat.zero_le _, Nat.zero_le _, Nat.zero_le _⟩, hsz⟩
      · rw [if_neg hd]
        have p1 := part_in (s := s) hsz
        cases hp : Tp.partR s 1 with
        | bad er a => rw [hp] at p1; exact p1
        | ok q j =>
          rw [hp] at p1
          unfold Tp.firR
          simp only []
          by_cases hc : Sc.bt s j = 44
          · rw [if_pos hc]
            have p2 := part_in (s := s) (i := j + 1) (lt_of_bt hc (by decide))
            cases hp2 : Tp.partR s (j + 1) with
            | bad er a => rw [hp2] at p2; exact p2
            | ok u m => rw [hp2] at p2; exact fin _ _ _ _ _ p1.1 p2.1 p2.2
          · rw [if_neg hc]
            exact fin _ _ _ _ _ p1.1 ⟨p1.1.1, Nat.zero_le _, Nat.zero_le _⟩ p1.2
theorem sense_in {n k : Nat} {P Q : Tp.Pt} {l : Nat} (h1 : ptIn n P) (h2 : ptIn n Q) (h3 : l ≤ n) : (Tp.senseR k P Q l).a ≤ n := by
  obtain ⟨a1, a2, a3⟩ := h1
  obtain ⟨b1, b2, b3⟩ := h2
  have w1 : Tp.wst k P Q l ≤ n := by unfold Tp.wst; repeat' split
                                     all_goals omega
  have w2 : Tp.wsg k P Q ≤ n := by unfold Tp.wsg; repeat' split
                                   all_goals omega
  unfold Tp.senseR
  repeat' split
  all_goals first | assumption | exact Nat.zero_le _
/-- A FAULT LIES WITHIN THE TEXT, and no topology is told beside it. -/
theorem parse_no {s : ByteArray} (h : (Tp.parseR s).e ≠ 0) : (Tp.parseR s).a ≤ s.size ∧ resV (Tp.parseR s) = #[.int .u8 0, .int .i64 0, .int .i64 0, .int .u8 0, .int .i64 0] := by
  unfold Tp.parseR at h ⊢
  by_cases hz : 1048576 < s.size
  · rw [if_pos hz]; exact ⟨Nat.zero_le _, rfl⟩
  · rw [if_neg hz] at h ⊢
    have hf := form_in s
    cases hq : Tp.formR s with
    | bad er a => rw [hq] at hf; exact ⟨hf, rfl⟩
    | ok k P Q n l =>
      rw [hq] at hf h
      change (Tp.sayR k P Q l).e ≠ 0 at h
      change (Tp.sayR k P Q l).a ≤ s.size ∧ resV (Tp.sayR k P Q l) = _
      unfold Tp.sayR at h ⊢
      by_cases he : (Tp.senseR k P Q l).e = 0
      · rw [if_pos he] at h
        exact absurd (topo_fields k P Q).2.2.2.2 h
      · rw [if_neg he]
        exact ⟨sense_in hf.1 hf.2.1 hf.2.2, rfl⟩
theorem itoa_nat (n : Nat) : Lib.itoa (n : Int) = Lib.decDigits n := by
  unfold Lib.itoa
  rw [if_neg (by omega)]
  rfl
theorem sgT_sgn {z : Int} (hz : z ≠ 0) : sgT z = Tp.sgn z := by
  unfold sgT Tp.sgn Lib.itoa
  rw [if_neg hz]
  by_cases h : z < 0
  · rw [if_pos h, if_pos h, if_pos h]
  · rw [if_neg h, if_neg h, if_neg h, show z.toNat = z.natAbs by omega]
theorem ttL_tail {k x y t : Nat} {z : Int} (o : Tp.Ok k x y t z) (i : Nat) (hi : i = 1 ∨ i = 2) : ttL k t z i = Tp.tailL k t z i := by
  unfold ttL Tp.tailL
  by_cases ht : t = i
  · rw [if_pos (show (t : Int) = i by omega), if_pos ht]
    by_cases hk : k = 3
    · rw [if_pos (show (k : Int) = 3 by omega)]
      by_cases hz : z = 0
      · rw [if_pos hz]; subst hz; subst hk; rfl
      · rw [if_neg hz, sgT_sgn hz]; subst hk; rfl
    · rw [if_neg (show ¬ (k : Int) = 3 by omega)]
      have h2 := o.turns (by omega)
      have h3 := (o.torus (by omega) (by omega)).1
      rw [sgT_sgn h3]
      have : decide (k = 3) = false := by simp [hk]
      rw [this]; rfl
  · rw [if_neg (show ¬ (t : Int) = i by omega), if_neg ht]
theorem pTx_is {k x y t : Nat} {z : Int} (o : Tp.Ok k x y t z) : pTx k x y t z = Tp.printL k x y t z := by
  have a1 := o.kind
  unfold pTx Tp.printL
  by_cases k5 : k = 5
  · subst k5
    rw [if_pos (by decide), if_pos rfl, itoa_nat]; rfl
  · rw [if_neg (by omega), if_neg k5]
    by_cases h0 : x = 0 ∧ y = 0
    · rw [if_pos (by omega), if_pos h0]; rfl
    · rw [if_neg (by omega), if_neg h0, itoa_nat, itoa_nat]
      have e1 := ttL_tail o 1 (Or.inl rfl)
      have e2 := ttL_tail o 2 (Or.inr rfl)
      rw [show ttL k t z 1 = _ from e1, show ttL k t z 2 = _ from e2]; rfl
/-- THERE AND BACK, of every topology that may be. -/
theorem back_int {k x y t z : Int} (h : Tp.chk k x y t z = 0) (ht : 0 ≤ t) : resV (Tp.parseR (Tp.tx (pTx k x y t z))) = #[.int .u8 k, .int .i64 x, .int .i64 y, .int .u8 t, .int .i64 z] ∧ (Tp.parseR (Tp.tx (pTx k x y t z))).a = 0 ∧ (Tp.parseR (Tp.tx (pTx k x y t z))).e = 0 := by
  have o := Tp.ok_of h
  have a1 := o.kind; have a2 := o.wide; have a3 := o.high
  obtain ⟨k', rfl⟩ : ∃ n : Nat, k = n := ⟨k.toNat, by omega⟩
  obtain ⟨x', rfl⟩ : ∃ n : Nat, x = n := ⟨x.toNat, by omega⟩
  obtain ⟨y', rfl⟩ : ∃ n : Nat, y = n := ⟨y.toNat, by omega⟩
  obtain ⟨t', rfl⟩ : ∃ n : Nat, t = n := ⟨t.toNat, by omega⟩
  rw [pTx_is o, Tp.back o]
  exact ⟨rfl, rfl, rfl⟩
theorem pTx_len {k x y t z : Int} (h0 : -9223372036854775808 ≤ z) (h1 : z ≤ 9223372036854775807) (hx : -9223372036854775808 ≤ x ∧ x ≤ 9223372036854775807) (hy : -9223372036854775808 ≤ y ∧ y ≤ 9223372036854775807) : (Tp.tx (pTx k x y t z)).size ≤ 100 := by
  rw [Tp.tx_size]
  have l1 := Lib.itoa_length_le x hx.1 hx.2
  have l2 := Lib.itoa_length_le y hy.1 hy.2
  have l3 := ttL_le k t z 1 h0 h1
  have l4 := ttL_le k t z 2 h0 h1
  unfold pTx
  repeat' split
  all_goals simp <;> omega
end Go.Proofs.YteegbhnfkcbnoabDoor
