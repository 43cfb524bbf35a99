/- A tree that may be has the form of its own function. -/
import Derived.Test.YteaionmjbkildabDoorQk
import Derived.Test.YteaionmjbkildabDoorQ23
namespace Go.Proofs.YteaionmjbkildabDoor
set_option linter.unusedVariables false
set_option linter.unusedSimpArgs false
set_option maxRecDepth 100000

theorem tok_lvn {S I R n : Nat} {t : Nat → TN} {lv : Nat → Nat} (ht : Tok S I R n t lv) : ∀ l j, j < n → lv j = l → LvN S (tnd t) l j
  | 0, j, hj, e => by
    rcases ht.hok j hj with ⟨h1, _, _⟩ | ⟨_, _, _, h4⟩
    · show (tnd t j).2 = []
      simp [tnd, h1]
    · omega
  | l + 1, j, hj, e => by
    rcases ht.hok j hj with ⟨_, _, h3⟩ | ⟨h1, h2, h3, h4⟩
    · omega
    · refine ⟨h1, by rw [tnd_len, h2], fun k hk => ?_⟩
      obtain ⟨i, hi, rfl⟩ : ∃ i, i < (t j).kn ∧ ((t j).kf i).toNat = k := by simpa [tnd] using hk
      obtain ⟨d1, d2, d3⟩ := h3 i (by omega)
      exact tok_lvn ht l _ (by omega) (by omega)
theorem goN_shift (t : Nat → TN) (f : Nat → Nat) (R : Nat) : ∀ k, goN t f R (k + 1) = goN t (fun i => f (i + 1)) ((t R).kf (f 0)).toNat k
  | 0 => rfl
  | k + 1 => by
    have := goN_shift t f R k
    show ((t (goN t f R (k + 1))).kf (f (k + 1))).toNat = ((t (goN t (fun i => f (i + 1)) ((t R).kf (f 0)).toNat k)).kf (f (k + 1))).toNat
    rw [this]
theorem flat_at (L : List (List Nat)) : ∀ m s r, s < m → r < L.length → ((List.range m).flatMap fun s => L.map (s :: ·)).getD (s * L.length + r) [] = s :: L.getD r []
  | 0, _, _, h, _ => absurd h (Nat.not_lt_zero _)
  | m + 1, s, r, hs, hr => by
    have hlen : ∀ k, ((List.range k).flatMap fun s => L.map (s :: ·)).length = k * L.length := fun k => by
      induction k with
      | zero => simp
      | succ k ih => rw [List.range_succ, List.flatMap_append, List.length_append, ih]; simp [Nat.add_mul]
    rw [List.range_succ, List.flatMap_append]
    by_cases e : s < m
    · have hlt : s * L.length + r < m * L.length := by
        have : (s + 1) * L.length ≤ m * L.length := Nat.mul_le_mul_right _ e
        rw [Nat.add_mul, Nat.one_mul] at this
        omega
      rw [List.getD_eq_getElem?_getD, List.getElem?_append_left (by rw [hlen]; exact hlt), ← List.getD_eq_getElem?_getD]
      exact flat_at L m s r e hr
    · obtain rfl : s = m := by omega
      rw [List.getD_eq_getElem?_getD, List.getElem?_append_right (by rw [hlen]; omega), hlen]
      simp [hr]
theorem rws_at (S l i : Nat) (hi : i < S ^ (l + 1)) : (rws S (l + 1)).getD i [] = (i / S ^ l) :: (rws S l).getD (i % S ^ l) [] := by
  obtain ⟨d1, d2⟩ := digit_lt hi
  have := flat_at (rws S l) S (i / S ^ l) (i % S ^ l) d1 (by rw [rws_len]; exact d2)
  rw [rws_len, Nat.mul_comm, Nat.div_add_mod] at this
  exact this
theorem evT_go {S I R n : Nat} {t : Nat → TN} {lv : Nat → Nat} (ht : Tok S I R n t lv) : ∀ l j, j < n → lv j = l → ∀ i, i < S ^ l → evT S (tnd t) l j i = (t (goN t (fun k => ((rws S l).getD i []).getD k 0) j l)).st
  | 0, j, hj, e, i, hi => rfl
  | l + 1, j, hj, e, i, hi => by
    rcases ht.hok j hj with ⟨_, _, h3⟩ | ⟨h1, h2, h3, h4⟩
    · omega
    · obtain ⟨d1, d2⟩ := digit_lt hi
      obtain ⟨k1, k2, k3⟩ := h3 _ d1
      have hg : (tnd t j).2.getD (i / S ^ l) 0 = ((t j).kf (i / S ^ l)).toNat := by
        rw [List.getD_eq_getElem?_getD, tnd_get t (by omega)]; rfl
      show evT S (tnd t) l ((tnd t j).2.getD (i / S ^ l) 0) (i % S ^ l) = _
      rw [hg, goN_shift, rws_at S l i hi]
      exact evT_go ht l _ (by omega) (by omega) _ d2
/-- Its one form is that of what it says. -/
theorem canon_is {S I R n : Nat} {t : Nat → TN} {lv : Nat → Nat} (ht : Tok S I R n t lv) : cnF t lv R = frm S I (ans S I (ev t R I)) := by
  unfold cnF
  rw [ht.hrt]
  exact unf_frm S I _ _ R (tok_lvn ht I R ht.hr ht.hrt) (fun i hi => (evT_go ht I R ht.hr ht.hrt i hi).symm)
theorem ev_lt {S I R n : Nat} {t : Nat → TN} {lv : Nat → Nat} (ht : Tok S I R n t lv) {x : List Nat} (hx : x.length = I) (hs : ∀ s ∈ x, s < S) : ev t R I x < S := by
  have hf : ∀ i, i < I → x.getD i 0 < S := fun i hi => hs _ (by
    refine List.mem_of_getElem? (i := i) ?_
    rw [List.getD_eq_getElem?_getD, List.getElem?_eq_getElem (by omega)]; rfl)
  obtain ⟨g1, g2⟩ := goN_ok ht hf I (Nat.le_refl _)
  rcases ht.hok _ g1 with ⟨_, h2, _⟩ | ⟨_, _, _, h4⟩
  · exact h2
  · omega
end Go.Proofs.YteaionmjbkildabDoor
namespace Go.Proofs.YteaionmjbkildabDoor
set_option linter.unusedVariables false
set_option linter.unusedSimpArgs false
set_option maxRecDepth 100000

/-- Each number of the list is that of a node. -/
def Onto (T : Nat → Nd) (lv : Nat → Nat) (n : Nat) (L : List Nd) : Prop := ∀ i, i < L.length → ∃ j, j < n ∧ unf T (lv j) j L = (i, L)
theorem onto_nil (T : Nat → Nd) (lv : Nat → Nat) (n : Nat) : Onto T lv n [] := fun i hi => absurd hi (Nat.not_lt_zero _)
theorem onto_more {T : Nat → Nd} {lv : Nat → Nat} {n j : Nat} {L : List Nd} {x : Nd} (h : Onto T lv n L) (hj : j < n) (hu : unf T (lv j) j (nfm L x) = (nix L x, nfm L x)) : Onto T lv n (nfm L x) := fun i hi => by
  by_cases e : i < L.length
  · obtain ⟨k, k1, k2⟩ := h i e
    refine ⟨k, k1, ?_⟩
    have := unf_done T (lv k) k L (nfm L x) (by rw [k2]; exact nfm_pre L x)
    rw [this, k2]
  · by_cases hx : x ∈ L
    · have : nfm L x = L := by unfold nfm; rw [if_pos hx]
      rw [this] at hi
      omega
    · have e1 : nfm L x = L ++ [x] := by unfold nfm; rw [if_neg hx]
      have e2 : nix L x = L.length := nix_out hx
      refine ⟨j, hj, ?_⟩
      rw [hu, e2]
      have : i = L.length := by rw [e1] at hi; simp at hi; omega
      rw [this]
theorem onto_unf {S I R n : Nat} {t : Nat → TN} {lv : Nat → Nat} (ht : Tok S I R n t lv) : ∀ l j, j < n → lv j = l → ∀ L, Onto (tnd t) lv n L → Onto (tnd t) lv n (unf (tnd t) l j L).2
  | 0, j, hj, e, L, h => by
    refine onto_more (j := j) h hj ?_
    rw [e]
    exact unf_done (tnd t) 0 j L _ (List.prefix_refl _)
  | l + 1, j, hj, e, L, h => by
    have hkid : ∀ k ∈ (tnd t j).2, k < n ∧ lv k = l := fun k hk => by
      rcases ht.hok j hj with ⟨_, _, h3⟩ | ⟨h1, h2, h3, h4⟩
      · omega
      · obtain ⟨i, hi, rfl⟩ : ∃ i, i < (t j).kn ∧ ((t j).kf i).toNat = k := by simpa [tnd] using hk
        obtain ⟨d1, d2, d3⟩ := h3 i (by omega)
        exact ⟨by omega, by omega⟩
    have hks : ∀ (r : List Nat) (L : List Nd), (∀ k ∈ r, k < n ∧ lv k = l) → Onto (tnd t) lv n L → Onto (tnd t) lv n (kidsU (unf (tnd t) l) r L).2 := by
      intro r
      induction r with
      | nil => exact fun L _ h => h
      | cons k r ih =>
        intro L hr h
        simp only [kidsU]
        exact ih _ (fun x hx => hr x (by simp [hx])) (onto_unf ht l k (hr k (by simp)).1 (hr k (by simp)).2 L h)
    have hk := hks (tnd t j).2 L hkid h
    refine onto_more (j := j) hk hj ?_
    rw [e]
    exact unf_done (tnd t) (l + 1) j L _ (List.prefix_refl _)
theorem few_of : ∀ (n m : Nat) (f : Nat → Nat), (∀ i, i < m → f i < n) → (∀ i j, i < m → j < m → f i = f j → i = j) → m ≤ n
  | 0, m, f, h, _ => by
    cases m with
    | zero => exact Nat.le_refl _
    | succ m => exact absurd (h 0 (by omega)) (Nat.not_lt_zero _)
  | n + 1, m, f, h, hi => by
    cases m with
    | zero => exact Nat.zero_le _
    | succ m =>
      -- the number that the last one has is given to whichever has n
      have key : m ≤ n := few_of n m (fun i => if f i = n then f m else f i) (fun i hi2 => by
        have h1 := h i (by omega)
        have h2 := h m (by omega)
        by_cases e : f i = n
        · simp only [if_pos e]
          by_cases e2 : f m = n
          · have := hi i m (by omega) (by omega) (e.trans e2.symm)
            omega
          · omega
        · simp only [if_neg e]; omega) (fun i j h1 h2 e => by
        have hne : ∀ k, k < m → f k ≠ f m := fun k hk e => by have := hi k m (by omega) (by omega) e; omega
        by_cases a : f i = n
        · by_cases b : f j = n
          · exact hi i j (by omega) (by omega) (a.trans b.symm)
          · simp only [if_pos a, if_neg b] at e
            exact absurd e.symm (hne j h2)
        · by_cases b : f j = n
          · simp only [if_neg a, if_pos b] at e
            exact absurd e (hne i h1)
          · simp only [if_neg a, if_neg b] at e
            exact hi i j (by omega) (by omega) e)
      omega
theorem form_few {S I R n : Nat} {t : Nat → TN} {lv : Nat → Nat} (ht : Tok S I R n t lv) : (cnF t lv R).length ≤ n := by
  have h := onto_unf ht (lv R) R ht.hr rfl [] (onto_nil _ _ _)
  have hx : ∀ i, ∃ j, i < (cnF t lv R).length → j < n ∧ unf (tnd t) (lv j) j (cnF t lv R) = (i, cnF t lv R) := fun i => by
    by_cases e : i < (cnF t lv R).length
    · obtain ⟨j, hj⟩ := h i e
      exact ⟨j, fun _ => hj⟩
    · exact ⟨0, fun k => absurd k e⟩
  refine few_of n _ (fun i => Classical.choose (hx i)) (fun i hi => (Classical.choose_spec (hx i) hi).1) (fun i j hi hj e => ?_)
  have a := (Classical.choose_spec (hx i) hi).2
  have b := (Classical.choose_spec (hx j) hj).2
  have e' : Classical.choose (hx i) = Classical.choose (hx j) := e
  rw [e', b] at a
  exact (Prod.ext_iff.1 a).1.symm
end Go.Proofs.YteaionmjbkildabDoor
