/- Digits in any order: what a list that is shuffled says. Plain. -/
import Derived.Test.YtnedofaobhmloabDoorLp
set_option linter.unusedSimpArgs false
set_option linter.unusedVariables false
set_option maxRecDepth 100000
namespace Go.Proofs.YtnedofaobhmloabDoor.Lf
open Sc

def shf : Nat → Nat → List UInt8 → List UInt8
  | 0, _, _ => []
  | f + 1, o, l => l.getD (o % l.length) 0 :: shf f (o / 3) (l.eraseIdx (o % l.length))
/-- A list taken out, each time at a number's place. -/
def shu (o : Nat) (l : List UInt8) : List UInt8 := shf l.length o l
theorem erase_perm (l : List UInt8) (k : Nat) (h : k < l.length) : (l.getD k 0 :: l.eraseIdx k).Perm l := by
  induction l generalizing k with
  | nil => cases h
  | cons x l ih =>
    cases k with
    | zero => exact List.Perm.refl _
    | succ k =>
      have := ih k (by simpa using h)
      refine (List.Perm.swap x (l.getD k 0) (l.eraseIdx k)).trans ?_
      exact this.cons x
theorem shf_perm : ∀ (f o : Nat) (l : List UInt8), l.length = f → (shf f o l).Perm l
  | 0, o, l, h => by rw [List.length_eq_zero_iff.1 h]; exact List.Perm.refl _
  | f + 1, o, l, h => by
    unfold shf
    have hk : o % l.length < l.length := Nat.mod_lt _ (by omega)
    have he : (l.eraseIdx (o % l.length)).length = f := by rw [List.length_eraseIdx_of_lt hk]; omega
    exact ((shf_perm f (o / 3) _ he).cons _).trans (erase_perm l _ hk)
theorem shu_perm (o : Nat) (l : List UInt8) : (shu o l).Perm l := shf_perm _ o l rfl
theorem fresh_in (l : List UInt8) : ∀ u, Fresh u l → l.Nodup ∧ ∀ c ∈ l, isD c.toNat = true ∧ u.testBit (c.toNat - 48) = false := by
  induction l with
  | nil => intro u _; exact ⟨List.nodup_nil, fun c hc => by cases hc⟩
  | cons d l ih =>
    intro u hf
    have ⟨h1, h2⟩ := ih _ hf.2.2
    have hd : ∀ c ∈ l, c ≠ d := fun c hc e => by
      have := (h2 c hc).2
      rw [e, Nat.testBit_or, one_bit] at this
      simp at this
    refine ⟨List.nodup_cons.2 ⟨fun hm => hd d hm rfl, h1⟩, fun c hc => ?_⟩
    rcases List.mem_cons.1 hc with rfl | hc
    · exact ⟨hf.1, hf.2.1⟩
    · have := (h2 c hc).2
      rw [Nat.testBit_or] at this
      simp at this
      exact ⟨(h2 c hc).1, this.1⟩
theorem d_inj {c d : UInt8} (hc : isD c.toNat = true) (hd : isD d.toNat = true) (e : c.toNat - 48 = d.toNat - 48) : c = d := by
  unfold isD at hc hd
  simp at hc hd
  exact UInt8.toNat_inj.1 (by omega)
theorem fresh_of (l : List UInt8) : ∀ u, l.Nodup → (∀ c ∈ l, isD c.toNat = true ∧ u.testBit (c.toNat - 48) = false) → Fresh u l := by
  induction l with
  | nil => intro u _ _; trivial
  | cons d l ih =>
    intro u hn h
    have hd := h d List.mem_cons_self
    refine ⟨hd.1, hd.2, ih _ (List.nodup_cons.1 hn).2 fun c hc => ?_⟩
    have h1 := h c (List.mem_cons_of_mem _ hc)
    refine ⟨h1.1, ?_⟩
    rw [Nat.testBit_or, h1.2, one_bit]
    by_cases e : d.toNat - 48 = c.toNat - 48
    · exact absurd (d_inj hd.1 h1.1 e ▸ hc) (List.nodup_cons.1 hn).1
    · simp [e]
theorem adb_bit (l : List UInt8) : ∀ u j, (adb u l).testBit j = true ↔ (u.testBit j = true ∨ ∃ c ∈ l, c.toNat - 48 = j) := by
  induction l with
  | nil => intro u j; simp [adb]
  | cons d l ih =>
    intro u j
    show (adb (u ||| 2 ^ (d.toNat - 48)) l).testBit j = true ↔ _
    rw [ih, Nat.testBit_or, one_bit]
    constructor
    · rintro (h | ⟨c, hc, e⟩)
      · rcases Bool.or_eq_true_iff.1 h with h | h
        · exact .inl h
        · exact .inr ⟨d, List.mem_cons_self, of_decide_eq_true h⟩
      · exact .inr ⟨c, List.mem_cons_of_mem _ hc, e⟩
    · rintro (h | ⟨c, hc, e⟩)
      · exact .inl (by rw [h]; rfl)
      · rcases List.mem_cons.1 hc with rfl | hc
        · exact .inl (by rw [decide_eq_true e]; simp)
        · exact .inr ⟨c, hc, e⟩
theorem adb_perm {a b : List UInt8} (h : a.Perm b) (u : Nat) : adb u a = adb u b := by
  apply Nat.eq_of_testBit_eq
  intro j
  rw [Bool.eq_iff_iff, adb_bit, adb_bit]
  constructor
  · rintro (h1 | ⟨c, hc, e⟩)
    · exact .inl h1
    · exact .inr ⟨c, h.mem_iff.1 hc, e⟩
  · rintro (h1 | ⟨c, hc, e⟩)
    · exact .inl h1
    · exact .inr ⟨c, h.mem_iff.2 hc, e⟩
theorem fresh_perm {a b : List UInt8} (h : a.Perm b) {u : Nat} (hf : Fresh u b) : Fresh u a := by
  have ⟨h1, h2⟩ := fresh_in b u hf
  exact fresh_of a u (h.nodup_iff.2 h1) fun c hc => h2 c (h.mem_iff.1 hc)
/-- The digits of a rule's list, in any order. -/
def shd (v o : Nat) : List UInt8 := shu o (tdl v 9)
theorem shd_is {v : Nat} (o : Nat) (hv : v < 512) : Fresh 0 (shd v o) ∧ adb 0 (shd v o) = v ∧ (shd v o).length ≤ 9 := by
  have hp := shu_perm o (tdl v 9)
  have ht := tdl_adb v 9 (by decide)
  refine ⟨fresh_perm hp ht.1, ?_, ?_⟩
  · unfold shd
    rw [adb_perm hp, ht.2]
    exact Nat.mod_eq_of_lt hv
  · unfold shd
    rw [hp.length_eq]
    exact tdl_len v 9
/-- A digit once more is told, at its place. -/
theorem parse_twice (b : UInt8) (D rest : List UInt8) (x : UInt8) (hb : tk b.toNat 66 = true) (hf : Fresh 0 D) (hx : x ∈ D) (hs : (b :: (D ++ x :: rest)).length ≤ 1048576) :
    parseR ⟨(b :: (D ++ x :: rest)).toArray⟩ = ⟨0, 0, 0, 1 + D.length, 81⟩ := by
  have e0 : bt ⟨(b :: (D ++ x :: rest)).toArray⟩ 0 = b.toNat := bt_mk _ _ _ rfl
  have m1 : ∀ j y, D[j]? = some y → bt ⟨(b :: (D ++ x :: rest)).toArray⟩ (1 + j) = y.toNat := fun j y hy => by
    apply bt_mk
    rw [Nat.add_comm, List.getElem?_cons_succ, List.getElem?_append_left (List.getElem?_eq_some_iff.1 hy).1]
    exact hy
  have e1 : bt ⟨(b :: (D ++ x :: rest)).toArray⟩ (1 + D.length) = x.toNat := by
    apply bt_mk
    rw [Nat.add_comm, List.getElem?_cons_succ, List.getElem?_append_right (Nat.le_refl _), Nat.sub_self]
    rfl
  have sz : (⟨(b :: (D ++ x :: rest)).toArray⟩ : ByteArray).size ≤ 1048576 := by
    show (b :: (D ++ x :: rest)).toArray.size ≤ _
    rw [List.size_toArray]; exact hs
  generalize (⟨(b :: (D ++ x :: rest)).toArray⟩ : ByteArray) = s at *
  have t1 := dg_list s D 1 0 m1 hf
  have hD := fresh_isD 0 hf hx
  have hT := adb_mem 0 hx
  unfold parseR
  rw [if_neg (by omega)]
  unfold readR
  rw [e0, hb, if_pos rfl, t1, dg_tw (by rw [e1]; exact hD) (by rw [e1]; exact hT)]
  rfl
end Go.Proofs.YtnedofaobhmloabDoor.Lf
