/- The levels of a form's nodes; its root; one form just if one function. -/
import Derived.Test.YteaionmjbkildabDoorQu
namespace Go.Proofs.YteaionmjbkildabDoor
set_option linter.unusedVariables false
set_option linter.unusedSimpArgs false

theorem lvn_one {st : Nat} (h1 : 1 ≤ st) {T : Nat → Nd} : ∀ l l' n, LvN st T l n → LvN st T l' n → l = l'
  | 0, 0, _, _, _ => rfl
  | 0, l' + 1, n, h, h' => by
    obtain ⟨_, h2, _⟩ := h'
    have h : (T n).2 = [] := h
    rw [h] at h2
    simp at h2
    omega
  | l + 1, 0, n, h, h' => by
    obtain ⟨_, h2, _⟩ := h
    have h' : (T n).2 = [] := h'
    rw [h'] at h2
    simp at h2
    omega
  | l + 1, l' + 1, n, ⟨_, h2, h3⟩, ⟨_, _, h3'⟩ => by
    obtain ⟨k, hk⟩ : ∃ k, k ∈ (T n).2 := by
      cases hh : (T n).2 with
      | nil => rw [hh] at h2; simp at h2; omega
      | cons a r => exact ⟨a, by simp⟩
    rw [lvn_one h1 l l' k (h3 k hk) (h3' k hk)]
/-- All nodes of a form have a level up to m, and leaves are states. -/
def Lev (st m : Nat) (L : List Nd) : Prop := ∀ n, n < L.length → (∃ l, l ≤ m ∧ LvN st (asT L) l n) ∧ ((asT L n).2 = [] → (asT L n).1 < st)
theorem asT_mem {L : List Nd} {x : Nd} (h : x ∈ L) : ∃ n, n < L.length ∧ asT L n = x := by
  obtain ⟨n, hn⟩ := List.mem_iff_getElem?.1 h
  exact ⟨n, (List.getElem?_eq_some_iff.1 hn).1, by unfold asT; rw [List.getD_eq_getElem?_getD, hn]; rfl⟩
theorem Lev.mono {st m m' : Nat} {L : List Nd} (h : Lev st m L) (hm : m ≤ m') : Lev st m' L := fun n hn => ⟨by obtain ⟨l, h1, h2⟩ := (h n hn).1; exact ⟨l, by omega, h2⟩, (h n hn).2⟩
theorem lev_nfm {st m : Nat} {L : List Nd} (h : Lev st m L) (hF : Fwd L) {x : Nd} (hl : ∃ l, l ≤ m ∧ LvN st (asT (nfm L x)) l (nix L x)) (hs : x.2 = [] → x.1 < st) : Lev st m (nfm L x) := fun n hn => by
  by_cases h1 : n < L.length
  · obtain ⟨⟨l, hl1, hl2⟩, hs2⟩ := h n h1
    have e := asT_pre (nfm_pre L x) h1
    exact ⟨⟨l, hl1, (lvn_pre (nfm_pre L x) hF l n h1 hl2).1⟩, by rw [e]; exact hs2⟩
  · have hx : ¬ x ∈ L := fun hx => by
      unfold nfm at hn
      rw [if_pos hx] at hn
      omega
    have hn' : n = nix L x := by
      rw [nix_out hx]
      have := (nfm_len L x).2
      omega
    subst hn'
    exact ⟨hl, by rw [as_nfm]; exact hs⟩
/-- All nodes of what is made have a level. -/
theorem bld_levS (st : Nat) (h1 : 1 ≤ st) (A : Nat → Nat) (hA : ∀ i, A i < st) : ∀ l m, l ≤ m → ∀ L k, Fwd L → Lev st m L → Lev st m (bld st A l (L, k)).2.1
  | 0, m, hm, L, k, hF, hL => by
    simp only [bld]
    refine lev_nfm hL hF ⟨0, Nat.zero_le _, ?_⟩ (fun _ => hA _)
    show (asT _ _).2 = []
    rw [as_nfm]
  | l + 1, m, hm, L, k, hF, hL => by
    have key : ∀ j, Fwd (kidsF (bld st A l) j (L, k)).2.1 ∧ Lev st m (kidsF (bld st A l) j (L, k)).2.1 := by
      intro j
      induction j with
      | zero => exact ⟨hF, hL⟩
      | succ j ih =>
        obtain ⟨i1, i2⟩ := ih
        simp only [kidsF]
        generalize kidsF (bld st A l) j (L, k) = s at *
        exact ⟨(bld_ev st A l s.2.1 s.2.2 i1).1, bld_levS st h1 A hA l m (by omega) s.2.1 s.2.2 i1 i2⟩
    obtain ⟨k1, k2⟩ := key st
    have hb := bld_ev st A (l + 1) L k hF
    obtain ⟨b1, b2, b3, b4, b5, b6⟩ := hb
    simp only [bld] at b5 ⊢
    exact lev_nfm k2 k1 ⟨l + 1, hm, b5⟩ (fun h => by
      have := kidsF_len (bld st A l) (L, k) st
      rw [show (kidsF (bld st A l) st (L, k)).1 = [] from h] at this
      simp at this
      omega)
theorem fwd_nil : Fwd [] := fun n x hn => by simp at hn
theorem lev_nil (st m : Nat) : Lev st m [] := fun n hn => absurd hn (Nat.not_lt_zero _)
/-- The root of a function's form is its last node. -/
theorem bld_root (st : Nat) (h1 : 1 ≤ st) (A : Nat → Nat) (hA : ∀ i, A i < st) : ∀ l, (bld st A l ([], 0)).1 = (frm st l A).length - 1
  | 0 => by
    unfold frm
    simp only [bld]
    rw [nix_out (by simp)]
    unfold nfm
    rw [if_neg (by simp)]
    rfl
  | l + 1 => by
    have key : ∀ j, Fwd (kidsF (bld st A l) j ([], 0)).2.1 ∧ Lev st l (kidsF (bld st A l) j ([], 0)).2.1 := by
      intro j
      induction j with
      | zero => exact ⟨fwd_nil, lev_nil _ _⟩
      | succ j ih =>
        obtain ⟨i1, i2⟩ := ih
        simp only [kidsF]
        generalize kidsF (bld st A l) j ([], 0) = s at *
        exact ⟨(bld_ev st A l s.2.1 s.2.2 i1).1, bld_levS st h1 A hA l l (Nat.le_refl _) s.2.1 s.2.2 i1 i2⟩
    obtain ⟨k1, k2⟩ := key st
    obtain ⟨b1, b2, b3, b4, b5, b6⟩ := bld_ev st A (l + 1) [] 0 fwd_nil
    unfold frm
    simp only [bld] at b5 ⊢
    generalize kidsF (bld st A l) st ([], 0) = s at *
    have hx : ¬ ((0, s.1) : Nd) ∈ s.2.1 := fun hx => by
      have e : nfm s.2.1 (0, s.1) = s.2.1 := by unfold nfm; rw [if_pos hx]
      rw [e] at b5
      have hlt : nix s.2.1 (0, s.1) < s.2.1.length := by have := nix_lt s.2.1 (0, s.1); rw [e] at this; exact this
      obtain ⟨⟨l', hl', hv⟩, _⟩ := k2 _ hlt
      have := lvn_one h1 _ _ _ b5 hv
      omega
    rw [nix_out hx]
    unfold nfm
    rw [if_neg hx]
    simp
/-- One form just if one function. -/
theorem frm_eq (st : Nat) (h1 : 1 ≤ st) (l : Nat) (A B : Nat → Nat) (hA : ∀ i, A i < st) (hB : ∀ i, B i < st) : frm st l A = frm st l B ↔ ∀ i, i < st ^ l → A i = B i := by
  constructor
  · intro h
    exact frm_inj st l A B h (by rw [bld_root st h1 A hA, bld_root st h1 B hB, h])
  · intro h
    unfold frm
    rw [bld_congr st l ([], 0) (fun i _ h2 => h i (by simpa using h2))]
/-- A tree that says what the function says has the function's form. -/
theorem unf_frm (st l : Nat) (A : Nat → Nat) (T : Nat → Nd) (n : Nat) (h : LvN st T l n) (hA : ∀ i, i < st ^ l → A i = evT st T l n i) : (unf T l n []).2 = frm st l A := by
  unfold frm
  rw [bld_unf st A T l n [] 0 h (fun i hi => by rw [Nat.zero_add]; exact hA i hi)]
/-- .. and the form itself. -/
theorem frm_again (st l : Nat) (h1 : 1 ≤ st) (A : Nat → Nat) (hA : ∀ i, A i < st) : LvN st (asT (frm st l A)) l ((frm st l A).length - 1) ∧ (∀ i, i < st ^ l → evT st (asT (frm st l A)) l ((frm st l A).length - 1) i = A i) ∧ (unf (asT (frm st l A)) l ((frm st l A).length - 1) []).2 = frm st l A := by
  obtain ⟨b1, b2, b3, b4, b5, b6⟩ := bld_ev st A l [] 0 fwd_nil
  rw [bld_root st h1 A hA] at b5 b6
  have b6' : ∀ i, i < st ^ l → evT st (asT (frm st l A)) l ((frm st l A).length - 1) i = A i := fun i hi => by have := b6 i hi; rw [Nat.zero_add] at this; exact this
  exact ⟨b5, b6', unf_frm st l A _ _ b5 (fun i hi => (b6' i hi).symm)⟩
end Go.Proofs.YteaionmjbkildabDoor
