/- A function's form is a tree that may be, and its own one form. -/
import Derived.Test.YteaionmjbkildabDoorQw
import Derived.Test.YteaionmjbkildabDoorQr
namespace Go.Proofs.YteaionmjbkildabDoor
set_option linter.unusedVariables false
set_option linter.unusedSimpArgs false
set_option maxRecDepth 100000

theorem tnd_tn (L : List Nd) (sp : Nat → Option Addr) (j : Nat) : tnd (tnOf L sp) j = asT L j := by
  unfold tnd tnOf asT
  generalize L.getD j (0, []) = x
  obtain ⟨s, ks⟩ := x
  refine Prod.ext rfl ?_
  apply List.ext_getElem?
  intro i
  by_cases h : i < ks.length
  · simp [lf, h]
  · simp [h]
theorem tok_frm (st inp : Nat) (h1 : 1 ≤ st) (h4 : st ≤ 4) (hi : inp ≤ 5) (A : Nat → Nat) (hA : ∀ i, A i < st) (L : List Nd) (hL : frm st inp A = L) (sp : Nat → Option Addr) : ∃ lv, Tok st inp (L.length - 1) L.length (tnOf L sp) lv ∧ cnF (tnOf L sp) lv (L.length - 1) = L := by
  have hF : Fwd L ∧ Lev st inp L ∧ 0 < L.length := by
    obtain ⟨b1, b2, b3, _⟩ := bld_ev st A inp [] 0 fwd_nil
    have b7 := bld_levS st h1 A hA inp inp (Nat.le_refl _) [] 0 fwd_nil (lev_nil _ _)
    have e : (bld st A inp ([], 0)).2.1 = L := hL
    rw [e] at b1 b3 b7
    exact ⟨b1, b7, by omega⟩
  obtain ⟨hFw, hLv, h0⟩ := hF
  have hagain := frm_again st inp h1 A hA
  rw [hL] at hagain
  obtain ⟨r1, r2, r3⟩ := hagain
  have hsm : L.length ≤ 65536 := hL ▸ frm_small h1 h4 hi A (fun i => by have := hA i; omega)
  have hx : ∀ n, ∃ l, n < L.length → l ≤ inp ∧ LvN st (asT L) l n := fun n => by
    by_cases h : n < L.length
    · obtain ⟨l, hl⟩ := (hLv n h).1
      exact ⟨l, fun _ => hl⟩
    · exact ⟨0, fun k => absurd k h⟩
  obtain ⟨f, hf⟩ : ∃ f : Nat → Nat, ∀ n, n < L.length → f n ≤ inp ∧ LvN st (asT L) (f n) n := ⟨fun n => Classical.choose (hx n), fun n => Classical.choose_spec (hx n)⟩
  have hat : ∀ n, n < L.length → L[n]? = some (asT L n) := fun n hn => by simp [asT, List.getD, hn]
  refine ⟨fun n => if n < L.length then f n else 0, ⟨h1, by omega, by omega, hsm, by omega, fun j => ?_, fun j => ?_, fun j hj => ?_, ?_⟩, ?_⟩
  · show (if j < L.length then f j else 0) ≤ _
    by_cases h : j < L.length
    · rw [if_pos h]; have := (hf j h).1; omega
    · rw [if_neg h]; omega
  · show (asT L j).1 < 256
    by_cases h : j < L.length
    · obtain ⟨_, hv⟩ := hf j h
      have hs := (hLv j h).2
      cases e : f j with
      | zero => rw [e] at hv; have := hs hv; omega
      | succ l => rw [e] at hv; rw [hv.1]; decide
    · have : asT L j = (0, []) := by simp [asT, List.getD, h]
      rw [this]; decide
  · obtain ⟨hv1, hv⟩ := hf j hj
    have hs := (hLv j hj).2
    show Nok st _ _ j
    unfold Nok
    show ((asT L j).2.length = 0 ∧ (asT L j).1 < st ∧ _) ∨ ((asT L j).1 = 0 ∧ (asT L j).2.length = st ∧ _ ∧ _)
    simp only [if_pos hj]
    cases e : f j with
    | zero =>
      rw [e] at hv
      have hv' : (asT L j).2 = [] := hv
      exact Or.inl ⟨by rw [hv']; rfl, hs hv', rfl⟩
    | succ l =>
      rw [e] at hv
      obtain ⟨c1, c2, c3⟩ := hv
      have hk : ∀ k, k < st → (asT L j).2.getD k 0 < j ∧ f ((asT L j).2.getD k 0) = l := fun k hk => by
        have hm : (asT L j).2.getD k 0 ∈ (asT L j).2 := by
          rw [List.getD_eq_getElem?_getD, List.getElem?_eq_getElem (by omega)]
          exact List.getElem_mem _
        have hlt := hFw j _ (hat j hj) _ hm
        exact ⟨hlt, lvn_one h1 _ _ _ (hf _ (by omega)).2 (c3 _ hm)⟩
      have hz : ∀ k, (tnOf L sp j).kf k = (((asT L j).2.getD k 0 : Nat) : Int) := fun k => rfl
      refine Or.inr ⟨c1, c2, fun k hkk => ?_, ?_⟩
      · rw [hz, hz]
        obtain ⟨d1, d2⟩ := hk k hkk
        obtain ⟨d3, d4⟩ := hk 0 (by omega)
        refine ⟨by omega, by omega, ?_⟩
        show (if _ then _ else _) = (if _ then _ else _)
        rw [Int.toNat_natCast, Int.toNat_natCast, if_pos (by omega), if_pos (by omega), d2, d4]
      · rw [hz]
        obtain ⟨d3, d4⟩ := hk 0 (by omega)
        show l + 1 = (if _ then _ else _) + 1
        rw [Int.toNat_natCast, if_pos (by omega), d4]
  · show (if L.length - 1 < L.length then f (L.length - 1) else 0) = inp
    rw [if_pos (by omega)]
    exact lvn_one h1 _ _ _ (hf _ (by omega)).2 r1
  · unfold cnF
    rw [show tnd (tnOf L sp) = asT L from funext fun j => tnd_tn L sp j]
    show (unf (asT L) (if L.length - 1 < L.length then f (L.length - 1) else 0) _ []).2 = L
    rw [if_pos (by omega), lvn_one h1 _ _ _ (hf _ (by omega)).2 r1]
    exact r3
/-- A form's nodes have few kids. -/
theorem frm_kids (st inp : Nat) (h1 : 1 ≤ st) (h4 : st ≤ 4) (hi : inp ≤ 5) (A : Nat → Nat) (hA : ∀ i, A i < st) (L : List Nd) (hL : frm st inp A = L) (j : Nat) : (L.getD j (0, [])).2.length ≤ 4 := by
  obtain ⟨lv, ht, _⟩ := tok_frm st inp h1 h4 hi A hA L hL (fun _ => none)
  by_cases h : j < L.length
  · rcases ht.hok j h with ⟨h1, _⟩ | ⟨_, h2, _⟩
    · have h1' : (L.getD j (0, [])).2.length = 0 := h1
      omega
    · have h2' : (L.getD j (0, [])).2.length = st := h2
      omega
  · simp [List.getD, h]
theorem rws_memI (st : Nat) : ∀ m x, x ∈ rws st m ↔ x.length = m ∧ ∀ s ∈ x, s < st
  | 0, x => by
    simp only [rws, List.mem_singleton]
    constructor
    · rintro rfl; exact ⟨rfl, fun s hs => by cases hs⟩
    · rintro ⟨h, _⟩; exact List.length_eq_zero_iff.1 h
  | m + 1, x => by
    simp only [rws, List.mem_flatMap, List.mem_range, List.mem_map]
    constructor
    · rintro ⟨s, hs, y, hy, rfl⟩
      obtain ⟨y1, y2⟩ := (rws_memI st m y).1 hy
      exact ⟨by simp [y1], fun z hz => by
        rcases List.mem_cons.1 hz with rfl | hz
        · exact hs
        · exact y2 z hz⟩
    · rintro ⟨h, hs⟩
      cases x with
      | nil => simp at h
      | cons a r => exact ⟨a, hs a (by simp), r, (rws_memI st m r).2 ⟨by simpa using h, fun z hz => hs z (by simp [hz])⟩, rfl⟩
/-- Two functions say the same of every row just if they do of every number's. -/
theorem same_rows (st inp : Nat) (h1 : 0 < st) (f g : List Nat → Nat) : (∀ i, i < st ^ inp → ans st inp f i = ans st inp g i) ↔ ∀ k, k < st ^ inp → f (dgs st inp k) = g (dgs st inp k) := by
  have hlen := rws_len st inp
  constructor
  · intro h k hk
    have hm : dgs st inp k ∈ rws st inp := (rws_memI st inp _).2 ⟨dgs_len st inp k, dgs_lt h1 inp k⟩
    obtain ⟨i, hi⟩ := List.mem_iff_getElem?.1 hm
    have hlt : i < (rws st inp).length := by
      by_cases hh : i < (rws st inp).length
      · exact hh
      · rw [List.getElem?_eq_none (by omega)] at hi; cases hi
    have := h i (by omega)
    unfold ans at this
    rw [List.getD_eq_getElem?_getD, hi] at this
    exact this
  · intro h i hi
    have hm : (rws st inp).getD i [] ∈ rws st inp := by
      rw [List.getD_eq_getElem?_getD, List.getElem?_eq_getElem (by omega)]
      exact List.getElem_mem _
    obtain ⟨m1, m2⟩ := (rws_memI st inp _).1 hm
    obtain ⟨n, n1, n2⟩ := dgs_all h1 _ m2
    rw [m1] at n1 n2
    unfold ans
    rw [← n2]
    exact h n n1
end Go.Proofs.YteaionmjbkildabDoor
