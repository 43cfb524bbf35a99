/- A tree's one form in plain words: what comes of a node without a memory; a form that has all of it stays. -/
import Derived.Test.YteaionmjbkildabDoorQ8
namespace Go.Proofs.YteaionmjbkildabDoor
set_option linter.unusedVariables false
set_option linter.unusedSimpArgs false

/-- The kids one behind the other, as a list. -/
def kidsU (f : Nat → List Nd → Nat × List Nd) : List Nat → List Nd → List Nat × List Nd
  | [], L => ([], L)
  | k :: r, L => ((f k L).1 :: (kidsU f r (f k L).2).1, (kidsU f r (f k L).2).2)
/-- What comes of the node number n, of the level l. -/
def unf (T : Nat → Nd) : Nat → Nat → List Nd → Nat × List Nd
  | 0, n, L => (nix L ((T n).1, []), nfm L ((T n).1, []))
  | l + 1, n, L => (nix (kidsU (unf T l) (T n).2 L).2 ((T n).1, (kidsU (unf T l) (T n).2 L).1), nfm (kidsU (unf T l) (T n).2 L).2 ((T n).1, (kidsU (unf T l) (T n).2 L).1))
theorem kidsU_snoc (f : Nat → List Nd → Nat × List Nd) (x : Nat) : ∀ (r : List Nat) (L : List Nd), kidsU f (r ++ [x]) L = ((kidsU f r L).1 ++ [(f x (kidsU f r L).2).1], (f x (kidsU f r L).2).2)
  | [], L => rfl
  | k :: r, L => by
    simp only [List.cons_append, kidsU]
    rw [kidsU_snoc f x r]
theorem kidsU_len (f : Nat → List Nd → Nat × List Nd) : ∀ (r : List Nat) (L : List Nd), (kidsU f r L).1.length = r.length
  | [], L => rfl
  | k :: r, L => by simp [kidsU, kidsU_len f r]
theorem nfm_pre (L : List Nd) (x : Nd) : L <+: nfm L x := by
  unfold nfm
  split
  · exact List.prefix_refl _
  · exact List.prefix_append _ _
theorem nfm_has (L : List Nd) (x : Nd) : x ∈ nfm L x := by
  unfold nfm
  split
  · assumption
  · simp
theorem nix_pre {L L2 : List Nd} {x : Nd} (h : L <+: L2) (hx : x ∈ L) : nix L2 x = nix L x := by
  obtain ⟨r, rfl⟩ := h
  unfold nix
  rw [List.idxOf_append, if_pos hx]
theorem nix_nfm (L : List Nd) (x : Nd) : nix (nfm L x) x = nix L x := by
  by_cases h : x ∈ L
  · unfold nfm; rw [if_pos h]
  · rw [nix_out h]
    unfold nfm nix
    rw [if_neg h, List.idxOf_append, if_neg h]
    simp
/-- A step that has been made is made again without a change. -/
theorem step_done {L L2 : List Nd} {x : Nd} (h : nfm L x <+: L2) : (nix L2 x, nfm L2 x) = (nix L x, L2) := by
  have hx : x ∈ L2 := h.subset (nfm_has L x)
  rw [nix_pre h (nfm_has L x), nix_nfm]
  unfold nfm
  rw [if_pos hx]
theorem kidsU_pre {f : Nat → List Nd → Nat × List Nd} (hf : ∀ k L, L <+: (f k L).2) : ∀ (r : List Nat) (L : List Nd), L <+: (kidsU f r L).2
  | [], L => List.prefix_refl _
  | k :: r, L => (hf k L).trans (kidsU_pre hf r _)
theorem unf_pre (T : Nat → Nd) : ∀ l n L, L <+: (unf T l n L).2
  | 0, n, L => nfm_pre L _
  | l + 1, n, L => (kidsU_pre (unf_pre T l) (T n).2 L).trans (nfm_pre _ _)
theorem kidsU_done {f : Nat → List Nd → Nat × List Nd} (hp : ∀ k L, L <+: (f k L).2) (hf : ∀ k L L2, (f k L).2 <+: L2 → f k L2 = ((f k L).1, L2)) : ∀ (r : List Nat) (L L2 : List Nd), (kidsU f r L).2 <+: L2 → kidsU f r L2 = ((kidsU f r L).1, L2)
  | [], L, L2, _ => rfl
  | k :: r, L, L2, h => by
    have h1 : (f k L).2 <+: L2 := (kidsU_pre hp r _).trans h
    have h2 : (kidsU f r (f k L).2).2 <+: L2 := h
    show ((f k L2).1 :: (kidsU f r (f k L2).2).1, (kidsU f r (f k L2).2).2) = _
    rw [hf k L L2 h1]
    show ((f k L).1 :: (kidsU f r L2).1, (kidsU f r L2).2) = _
    rw [kidsU_done hp hf r _ L2 h2]
    rfl
/-- A form that has all that comes of a node stays as it is, and the number is the same. -/
theorem unf_done (T : Nat → Nd) : ∀ l n L L2, (unf T l n L).2 <+: L2 → unf T l n L2 = ((unf T l n L).1, L2)
  | 0, n, L, L2, h => step_done h
  | l + 1, n, L, L2, h => by
    have h1 : (kidsU (unf T l) (T n).2 L).2 <+: L2 := (nfm_pre _ _).trans h
    show (nix (kidsU (unf T l) (T n).2 L2).2 _, nfm (kidsU (unf T l) (T n).2 L2).2 _) = _
    rw [kidsU_done (unf_pre T l) (unf_done T l) (T n).2 L L2 h1]
    exact step_done h
/-- The node number n is of the level l, and all below it are as they must be. -/
def LvN (st : Nat) (T : Nat → Nd) : Nat → Nat → Prop
  | 0, n => (T n).2 = []
  | l + 1, n => (T n).1 = 0 ∧ (T n).2.length = st ∧ ∀ k ∈ (T n).2, LvN st T l k
/-- What the node number n, of the level l, says of the row number i. -/
def evT (st : Nat) (T : Nat → Nd) : Nat → Nat → Nat → Nat
  | 0, n, i => (T n).1
  | l + 1, n, i => evT st T l ((T n).2.getD (i / st ^ l) 0) (i % st ^ l)
theorem digit_at {q j i st : Nat} (hi : i < q) : (j * q + i) / q = j ∧ (j * q + i) % q = i := by
  have hq : 0 < q := by omega
  constructor
  · rw [Nat.mul_comm, Nat.mul_add_div hq, Nat.div_eq_of_lt hi, Nat.add_zero]
  · rw [Nat.mul_comm, Nat.mul_add_mod, Nat.mod_eq_of_lt hi]
theorem digit_lt {i st l : Nat} (hi : i < st ^ (l + 1)) : i / st ^ l < st ∧ i % st ^ l < st ^ l := by
  rw [Nat.pow_succ] at hi
  have h0 : 0 < st ^ l := by
    rcases Nat.eq_zero_or_pos (st ^ l) with h | h
    · rw [h, Nat.zero_mul] at hi; omega
    · exact h
  exact ⟨(Nat.div_lt_iff_lt_mul h0).2 (by rw [Nat.mul_comm]; exact hi), Nat.mod_lt _ h0⟩
theorem bld_nx (st : Nat) (A : Nat → Nat) : ∀ l s, (bld st A l s).2.2 = s.2 + st ^ l
  | 0, s => by simp [bld]
  | l + 1, s => by
    have key : ∀ j, (kidsF (bld st A l) j s).2.2 = s.2 + j * st ^ l := by
      intro j
      induction j with
      | zero => simp [kidsF]
      | succ j ih =>
        simp only [kidsF]
        rw [bld_nx st A l, ih, Nat.add_mul, Nat.one_mul, Nat.add_assoc]
    simp only [bld]
    rw [key, Nat.pow_succ, Nat.mul_comm st]
/-- The form of a function is that of a tree that says it. -/
theorem bld_unf (st : Nat) (A : Nat → Nat) (T : Nat → Nd) : ∀ l n L k, LvN st T l n → (∀ i, i < st ^ l → A (k + i) = evT st T l n i) → bld st A l (L, k) = ((unf T l n L).1, ((unf T l n L).2, k + st ^ l))
  | 0, n, L, k, h, hA => by
    have h0 := hA 0 (by simp)
    rw [Nat.add_zero] at h0
    simp only [bld, unf, h0, evT, Nat.pow_zero]
  | l + 1, n, L, k, h, hA => by
    obtain ⟨h1, h2, h3⟩ := h
    have key : ∀ j, j ≤ st → kidsF (bld st A l) j (L, k) = ((kidsU (unf T l) ((T n).2.take j) L).1, ((kidsU (unf T l) ((T n).2.take j) L).2, k + j * st ^ l)) := by
      intro j
      induction j with
      | zero => intro _; simp [kidsF, kidsU]
      | succ j ih =>
        intro hj
        have e := ih (by omega)
        have hg : (T n).2[j]? = some ((T n).2.getD j 0) := by
          rw [List.getD_eq_getElem?_getD, List.getElem?_eq_getElem (by omega)]; rfl
        have ht : (T n).2.take (j + 1) = (T n).2.take j ++ [(T n).2.getD j 0] := by
          rw [List.take_add_one, hg]; rfl
        have hm : (T n).2.getD j 0 ∈ (T n).2 := List.mem_of_getElem? hg
        have hb := bld_unf st A T l ((T n).2.getD j 0) (kidsU (unf T l) ((T n).2.take j) L).2 (k + j * st ^ l) (h3 _ hm) (fun i hi => by
          have hlt : j * st ^ l + i < st ^ (l + 1) := by
            have : (j + 1) * st ^ l ≤ st * st ^ l := Nat.mul_le_mul_right _ hj
            rw [Nat.pow_succ, Nat.mul_comm (st ^ l)]
            rw [Nat.add_mul, Nat.one_mul] at this
            omega
          have := hA (j * st ^ l + i) hlt
          rw [← Nat.add_assoc] at this
          rw [this]
          show evT st T l ((T n).2.getD ((j * st ^ l + i) / st ^ l) 0) ((j * st ^ l + i) % st ^ l) = _
          rw [(digit_at (st := st) hi).1, (digit_at (st := st) hi).2])
        simp only [kidsF, e, ht, kidsU_snoc, hb]
        rw [Nat.add_mul, Nat.one_mul, Nat.add_assoc]
    have e := key st (Nat.le_refl _)
    rw [List.take_of_length_le (by omega)] at e
    simp only [bld, unf, e, h1]
    rw [Nat.pow_succ, Nat.mul_comm (st ^ l)]
/-- A form's nodes, by their numbers. -/
def asT (L : List Nd) (n : Nat) : Nd := L.getD n (0, [])
theorem asT_pre {L L2 : List Nd} {n : Nat} (h : L <+: L2) (hn : n < L.length) : asT L2 n = asT L n := by
  obtain ⟨r, rfl⟩ := h
  unfold asT
  simp [List.getD_eq_getElem?_getD, List.getElem?_append_left hn]
/-- A form: each node's kids are numbers of nodes ahead of it. -/
def Fwd (L : List Nd) : Prop := ∀ (n : Nat) (x : Nd), L[n]? = some x → ∀ k ∈ x.2, k < n
theorem lvn_pre {st : Nat} {L L2 : List Nd} (h : L <+: L2) (hF : Fwd L) : ∀ l n, n < L.length → LvN st (asT L) l n → LvN st (asT L2) l n ∧ ∀ i, i < st ^ l → evT st (asT L2) l n i = evT st (asT L) l n i
  | 0, n, hn, hl => by
    have e := asT_pre h hn
    refine ⟨?_, fun i _ => ?_⟩
    · show (asT L2 n).2 = []
      rw [e]; exact hl
    · show (asT L2 n).1 = _
      rw [e]; rfl
  | l + 1, n, hn, ⟨h1, h2, h3⟩ => by
    have e := asT_pre h hn
    have hget : L[n]? = some (asT L n) := by
      unfold asT; rw [List.getD_eq_getElem?_getD, List.getElem?_eq_getElem hn]; rfl
    have hk := hF n _ hget
    refine ⟨⟨by rw [e]; exact h1, by rw [e]; exact h2, fun k hk' => ?_⟩, fun i hi => ?_⟩
    · rw [e] at hk'
      exact (lvn_pre h hF l k (by have := hk k hk'; omega) (h3 k hk')).1
    · show evT st (asT L2) l ((asT L2 n).2.getD _ 0) _ = evT st (asT L) l ((asT L n).2.getD _ 0) _
      rw [e]
      obtain ⟨q1, q2⟩ := digit_lt hi
      have hi' : i / st ^ l < (asT L n).2.length := by omega
      have hm : (asT L n).2.getD (i / st ^ l) 0 ∈ (asT L n).2 := by
        refine List.mem_of_getElem? (i := i / st ^ l) ?_
        rw [List.getD_eq_getElem?_getD, List.getElem?_eq_getElem hi']; rfl
      exact (lvn_pre h hF l _ (by have := hk _ hm; omega) (h3 _ hm)).2 _ q2
theorem fwd_nfm {L : List Nd} (h : Fwd L) {x : Nd} (hx : ∀ k ∈ x.2, k < L.length) : Fwd (nfm L x) := fun n y hn k hk => by
  unfold nfm at hn
  split at hn
  · exact h n y hn k hk
  · by_cases hl : n < L.length
    · rw [List.getElem?_append_left hl] at hn
      exact h n y hn k hk
    · have e := (List.getElem?_eq_some_iff.1 hn).1
      simp at e
      have en : n = L.length := by omega
      subst en
      rw [List.getElem?_append_right (Nat.le_refl _), Nat.sub_self] at hn
      simp at hn
      subst hn
      exact hx k hk
theorem as_nfm (L : List Nd) (x : Nd) : asT (nfm L x) (nix L x) = x := by
  have h := nix_in (nfm_has L x)
  rw [nix_nfm] at h
  unfold asT
  rw [List.getD_eq_getElem?_getD, h]; rfl
/-- What the function 'node' makes says the function's answers. -/
theorem bld_ev (st : Nat) (A : Nat → Nat) : ∀ l L k, Fwd L → Fwd (bld st A l (L, k)).2.1 ∧ L <+: (bld st A l (L, k)).2.1 ∧ (bld st A l (L, k)).1 < (bld st A l (L, k)).2.1.length ∧ (bld st A l (L, k)).2.2 = k + st ^ l ∧ LvN st (asT (bld st A l (L, k)).2.1) l (bld st A l (L, k)).1 ∧ ∀ i, i < st ^ l → evT st (asT (bld st A l (L, k)).2.1) l (bld st A l (L, k)).1 i = A (k + i)
  | 0, L, k, hF => by
    simp only [bld]
    refine ⟨fwd_nfm hF (by simp), nfm_pre _ _, nix_lt _ _, by simp, ?_, fun i hi => ?_⟩
    · show (asT _ _).2 = []
      rw [as_nfm]
    · show (asT _ _).1 = _
      have : i = 0 := by simpa using hi
      rw [as_nfm, this]; rfl
  | l + 1, L, k, hF => by
    have ih := bld_ev st A l
    have key : ∀ j, Fwd (kidsF (bld st A l) j (L, k)).2.1 ∧ L <+: (kidsF (bld st A l) j (L, k)).2.1 ∧ (kidsF (bld st A l) j (L, k)).2.2 = k + j * st ^ l ∧ ∀ m, m < j → (kidsF (bld st A l) j (L, k)).1.getD m 0 < (kidsF (bld st A l) j (L, k)).2.1.length ∧ LvN st (asT (kidsF (bld st A l) j (L, k)).2.1) l ((kidsF (bld st A l) j (L, k)).1.getD m 0) ∧ ∀ i, i < st ^ l → evT st (asT (kidsF (bld st A l) j (L, k)).2.1) l ((kidsF (bld st A l) j (L, k)).1.getD m 0) i = A (k + (m * st ^ l + i)) := by
      intro j
      induction j with
      | zero => exact ⟨hF, List.prefix_refl _, by simp [kidsF], fun m hm => absurd hm (Nat.not_lt_zero _)⟩
      | succ j ihj =>
        obtain ⟨k1, k2, k3, k4⟩ := ihj
        have hl := kidsF_len (bld st A l) (L, k) j
        generalize hs : kidsF (bld st A l) j (L, k) = s at *
        obtain ⟨b1, b2, b3, b4, b5, b6⟩ := ih s.2.1 s.2.2 k1
        have e2 : ((s.2.1, s.2.2) : List Nd × Nat) = s.2 := rfl
        rw [e2] at b1 b2 b3 b4 b5 b6
        simp only [kidsF, hs]
        generalize bld st A l s.2 = v at *
        refine ⟨b1, k2.trans b2, by rw [b4, k3, Nat.add_mul, Nat.one_mul, Nat.add_assoc], fun m hm => ?_⟩
        by_cases hmj : m < j
        · have eg : (s.1 ++ [v.1]).getD m 0 = s.1.getD m 0 := by
            simp [List.getD_eq_getElem?_getD, List.getElem?_append_left (show m < s.1.length by omega)]
          obtain ⟨m1, m2, m3⟩ := k4 m hmj
          obtain ⟨p1, p2⟩ := lvn_pre b2 k1 l _ m1 m2
          have hle := b2.length_le
          rw [eg]
          exact ⟨by omega, p1, fun i hi => (p2 i hi).trans (m3 i hi)⟩
        · obtain rfl : m = j := by omega
          have eg : (s.1 ++ [v.1]).getD m 0 = v.1 := by
            rw [← hl]
            simp [List.getD_eq_getElem?_getD]
          rw [eg]
          exact ⟨b3, b5, fun i hi => by rw [b6 i hi, k3, Nat.add_assoc]⟩
    obtain ⟨k1, k2, k3, k4⟩ := key st
    have hl := kidsF_len (bld st A l) (L, k) st
    simp only [bld]
    generalize kidsF (bld st A l) st (L, k) = s at *
    have hmem : ∀ x ∈ s.1, ∃ m, m < st ∧ s.1.getD m 0 = x := fun x hx => by
      obtain ⟨m, hm⟩ := List.mem_iff_getElem?.1 hx
      have hlt := (List.getElem?_eq_some_iff.1 hm).1
      exact ⟨m, by omega, by rw [List.getD_eq_getElem?_getD, hm]; rfl⟩
    have hks : ∀ x ∈ s.1, x < s.2.1.length := fun x hx => by
      obtain ⟨m, hm, rfl⟩ := hmem x hx
      exact (k4 m hm).1
    have hp := nfm_pre s.2.1 (0, s.1)
    refine ⟨fwd_nfm k1 hks, k2.trans hp, nix_lt _ _, by rw [k3, Nat.pow_succ, Nat.mul_comm], ?_, fun i hi => ?_⟩
    · show (asT _ _).1 = 0 ∧ (asT _ _).2.length = st ∧ ∀ k ∈ (asT _ _).2, _
      rw [as_nfm]
      refine ⟨rfl, hl, fun x hx => ?_⟩
      obtain ⟨m, hm, rfl⟩ := hmem x hx
      obtain ⟨m1, m2, _⟩ := k4 m hm
      exact (lvn_pre hp k1 l _ m1 m2).1
    · show evT st _ l ((asT _ _).2.getD (i / st ^ l) 0) (i % st ^ l) = _
      rw [as_nfm]
      obtain ⟨q1, q2⟩ := digit_lt hi
      obtain ⟨m1, m2, m3⟩ := k4 _ q1
      rw [(lvn_pre hp k1 l _ m1 m2).2 _ q2, m3 _ q2]
      congr 2
      rw [Nat.mul_comm]
      exact Nat.div_add_mod i (st ^ l)
/-- Two functions with one form answer the same, if their roots have one number. -/
theorem frm_inj (st l : Nat) (A B : Nat → Nat) (h : frm st l A = frm st l B) (hr : (bld st A l ([], 0)).1 = (bld st B l ([], 0)).1) : ∀ i, i < st ^ l → A i = B i := fun i hi => by
  have hF : Fwd [] := fun n x hn => by simp at hn
  have a := (bld_ev st A l [] 0 hF).2.2.2.2.2 i hi
  have b := (bld_ev st B l [] 0 hF).2.2.2.2.2 i hi
  rw [Nat.zero_add] at a b
  unfold frm at h
  rw [h, hr] at a
  exact a.symm.trans b
/-- .. and the other way round. -/
theorem bld_congr (st : Nat) {A B : Nat → Nat} : ∀ l s, (∀ i, s.2 ≤ i → i < s.2 + st ^ l → A i = B i) → bld st A l s = bld st B l s
  | 0, s, h => by
    have := h s.2 (Nat.le_refl _) (by simp)
    simp only [bld, this]
  | l + 1, s, h => by
    have key : ∀ j, j ≤ st → kidsF (bld st A l) j s = kidsF (bld st B l) j s := by
      intro j
      induction j with
      | zero => intro _; rfl
      | succ j ih =>
        intro hj
        simp only [kidsF]
        rw [ih (by omega)]
        have hx : (kidsF (bld st B l) j s).2.2 = s.2 + j * st ^ l := by
          clear ih hj
          induction j with
          | zero => simp [kidsF]
          | succ j ih2 =>
            simp only [kidsF]
            have := bld_nx st B l (kidsF (bld st B l) j s).2
            rw [this, ih2, Nat.add_mul, Nat.one_mul, Nat.add_assoc]
        rw [bld_congr st l _ (fun i h1 h2 => h i (by omega) (by
          have : (j + 1) * st ^ l ≤ st * st ^ l := Nat.mul_le_mul_right _ hj
          rw [Nat.add_mul, Nat.one_mul] at this
          rw [Nat.pow_succ, Nat.mul_comm (st ^ l)]
          omega))]
    simp only [bld]
    rw [key st (Nat.le_refl _)]
end Go.Proofs.YteaionmjbkildabDoor
