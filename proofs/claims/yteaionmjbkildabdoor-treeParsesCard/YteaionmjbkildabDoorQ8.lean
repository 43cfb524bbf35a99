/- The one form in plain words: nodes and their numbers, kids written as bytes. -/
import Derived.WalkKit
namespace Go.Proofs.YteaionmjbkildabDoor
set_option linter.unusedVariables false
set_option linter.unusedSimpArgs false

abbrev Nd := Nat × List Nat
/-- The number of a node in a form. -/
def nix (L : List Nd) (x : Nd) : Nat := L.idxOf x
/-- The form behind it. -/
def nfm (L : List Nd) (x : Nd) : List Nd := if x ∈ L then L else L ++ [x]
theorem nix_in {L : List Nd} {x : Nd} (h : x ∈ L) : L[nix L x]? = some x := by
  have hl : L.idxOf x < L.length := List.idxOf_lt_length_iff.2 h
  unfold nix
  rw [List.getElem?_eq_getElem hl]
  simp
theorem nix_out {L : List Nd} {x : Nd} (h : ¬ x ∈ L) : nix L x = L.length := by
  unfold nix
  exact List.idxOf_eq_length h
theorem nfm_len (L : List Nd) (x : Nd) : L.length ≤ (nfm L x).length ∧ (nfm L x).length ≤ L.length + 1 := by
  unfold nfm; split <;> simp
theorem nix_lt (L : List Nd) (x : Nd) : nix L x < (nfm L x).length := by
  by_cases h : x ∈ L
  · have hl : L.idxOf x < L.length := List.idxOf_lt_length_iff.2 h
    unfold nfm nix; rw [if_pos h]; exact hl
  · rw [nix_out h]; unfold nfm; rw [if_neg h]; simp
theorem nfm_mem {L : List Nd} {x y : Nd} (h : y ∈ nfm L x) : y ∈ L ∨ y = x := by
  unfold nfm at h
  split at h
  · exact .inl h
  · simpa using h

/-- Three bytes of a number. -/
def kb (k : Nat) : List UInt8 := [UInt8.ofNat (k / 65536), UInt8.ofNat (k / 256), UInt8.ofNat k]
def ktx (ks : List Nat) : List UInt8 := ks.flatMap kb
theorem kb_len (k : Nat) : (kb k).length = 3 := rfl
theorem ktx_len (ks : List Nat) : (ktx ks).length = 3 * ks.length := by
  induction ks with
  | nil => rfl
  | cons k r ih => simp only [ktx, List.flatMap_cons, List.length_append, kb_len, List.length_cons] at ih ⊢; omega
theorem kb_inj {a b : Nat} (ha : a < 16777216) (hb : b < 16777216) (h : kb a = kb b) : a = b := by
  simp only [kb, List.cons.injEq, and_true] at h
  obtain ⟨h1, h2, h3⟩ := h
  have e1 := congrArg UInt8.toNat h1
  have e2 := congrArg UInt8.toNat h2
  have e3 := congrArg UInt8.toNat h3
  simp only [UInt8.toNat_ofNat'] at e1 e2 e3
  omega
theorem ktx_inj : ∀ {a b : List Nat}, (∀ k ∈ a, k < 16777216) → (∀ k ∈ b, k < 16777216) → ktx a = ktx b → a = b
  | [], [], _, _, _ => rfl
  | [], y :: s, _, _, h => by have := congrArg List.length h; simp [ktx_len] at this
  | x :: r, [], _, _, h => by have := congrArg List.length h; simp [ktx_len] at this
  | x :: r, y :: s, ha, hb, h => by
    simp only [ktx, List.flatMap_cons] at h
    obtain ⟨h1, h2⟩ := List.append_inj h (by rw [kb_len, kb_len])
    rw [kb_inj (ha x (by simp)) (hb y (by simp)) h1, ktx_inj (fun k hk => ha k (by simp [hk])) (fun k hk => hb k (by simp [hk])) h2]
theorem ktx_snoc (ks : List Nat) (k : Nat) : ktx (ks ++ [k]) = ktx ks ++ kb k := by simp [ktx]

/-- The kids one behind the other. -/
def kidsF (f : List Nd × Nat → Nat × (List Nd × Nat)) : Nat → List Nd × Nat → List Nat × (List Nd × Nat)
  | 0, s => ([], s)
  | n + 1, s => ((kidsF f n s).1 ++ [(f (kidsF f n s).2).1], (f (kidsF f n s).2).2)
/-- What the function 'node' answers at a level, and what it leaves. -/
def bld (st : Nat) (A : Nat → Nat) : Nat → List Nd × Nat → Nat × (List Nd × Nat)
  | 0, s => (nix s.1 (A s.2, []), (nfm s.1 (A s.2, []), s.2 + 1))
  | l + 1, s => (nix (kidsF (bld st A l) st s).2.1 (0, (kidsF (bld st A l) st s).1), (nfm (kidsF (bld st A l) st s).2.1 (0, (kidsF (bld st A l) st s).1), (kidsF (bld st A l) st s).2.2))
/-- How many nodes are asked for at most. -/
def clN (st : Nat) : Nat → Nat
  | 0 => 1
  | l + 1 => st * clN st l + 1
theorem kidsF_len (f : List Nd × Nat → Nat × (List Nd × Nat)) (s : List Nd × Nat) : ∀ n, (kidsF f n s).1.length = n
  | 0 => rfl
  | n + 1 => by simp [kidsF, kidsF_len f s n]
/-- All kids are small, all states bytes. -/
def NdOk (x : Nd) : Prop := x.1 < 256 ∧ (∀ k ∈ x.2, k < 16777216) ∧ x.2.length ≤ 256
def Gf (L : List Nd) : Prop := ∀ x ∈ L, NdOk x
theorem Gf.nil : Gf [] := fun x hx => by cases hx
theorem Gf.nfm {L : List Nd} {x : Nd} (h : Gf L) (hx : NdOk x) : Gf (nfm L x) := fun y hy => by
  rcases nfm_mem hy with hy | rfl
  · exact h y hy
  · exact hx
/-- What a step of the kind f keeps: it answers a number of the form, grows it by c at most, and takes q answers. -/
structure Stp (f : List Nd × Nat → Nat × (List Nd × Nat)) (c q : Nat) : Prop where
  lt : ∀ s, (f s).1 < (f s).2.1.length
  ge : ∀ s, s.1.length ≤ (f s).2.1.length
  le : ∀ s, (f s).2.1.length ≤ s.1.length + c
  nx : ∀ s, (f s).2.2 = s.2 + q
  good : ∀ s, Gf s.1 → s.1.length + c ≤ 16777216 → Gf (f s).2.1
theorem kidsF_stp {f : List Nd × Nat → Nat × (List Nd × Nat)} {c q : Nat} (F : Stp f c q) (s : List Nd × Nat) : ∀ n, s.1.length ≤ (kidsF f n s).2.1.length ∧ (kidsF f n s).2.1.length ≤ s.1.length + n * c ∧ (kidsF f n s).2.2 = s.2 + n * q ∧ (∀ k ∈ (kidsF f n s).1, k < (kidsF f n s).2.1.length) ∧ (Gf s.1 → s.1.length + n * c ≤ 16777216 → Gf (kidsF f n s).2.1)
  | 0 => ⟨Nat.le_refl _, by simp [kidsF], by simp [kidsF], by simp [kidsF], fun h _ => h⟩
  | n + 1 => by
    obtain ⟨h1, h2, h3, h4, h5⟩ := kidsF_stp F s n
    have e : (n + 1) * c = n * c + c := by rw [Nat.add_mul, Nat.one_mul]
    have eq : (n + 1) * q = n * q + q := by rw [Nat.add_mul, Nat.one_mul]
    have g1 := F.lt (kidsF f n s).2
    have g2 := F.ge (kidsF f n s).2
    have g3 := F.le (kidsF f n s).2
    have g4 := F.nx (kidsF f n s).2
    refine ⟨?_, ?_, ?_, ?_, ?_⟩
    · simp only [kidsF]; omega
    · simp only [kidsF]; omega
    · simp only [kidsF]; omega
    · intro k hk
      simp only [kidsF, List.mem_append, List.mem_singleton] at hk ⊢
      rcases hk with hk | rfl
      · have := h4 k hk; omega
      · exact g1
    · intro hG hl
      simp only [kidsF]
      exact F.good _ (h5 hG (by omega)) (by omega)
theorem bld_stp (st : Nat) (A : Nat → Nat) (hst : st ≤ 256) (hA : ∀ i, A i < 256) : ∀ l, Stp (bld st A l) (clN st l) (st ^ l)
  | 0 => ⟨fun s => by simp only [bld]; exact nix_lt _ _, fun s => by simp only [bld]; exact (nfm_len _ _).1, fun s => by simp only [bld, clN]; exact (nfm_len _ _).2, fun s => by simp [bld], fun s hG _ => by simp only [bld]; exact hG.nfm ⟨hA _, by simp, by simp⟩⟩
  | l + 1 => by
    have K := fun s => kidsF_stp (bld_stp st A hst hA l) s st
    refine ⟨fun s => by simp only [bld]; exact nix_lt _ _, fun s => ?_, fun s => ?_, fun s => ?_, fun s hG hl => ?_⟩
    · simp only [bld]; have := (nfm_len (kidsF (bld st A l) st s).2.1 (0, (kidsF (bld st A l) st s).1)).1; have := (K s).1; omega
    · simp only [bld, clN]; have := (nfm_len (kidsF (bld st A l) st s).2.1 (0, (kidsF (bld st A l) st s).1)).2; have := (K s).2.1; omega
    · simp only [bld]; have := (K s).2.2.1; rw [this, Nat.pow_succ, Nat.mul_comm]
    · simp only [bld]
      simp only [clN] at hl
      obtain ⟨k1, k2, k3, k4, k5⟩ := K s
      refine (k5 hG (by omega)).nfm ⟨by simp, fun k hk => ?_, by rw [kidsF_len]; exact hst⟩
      have := k4 k hk
      omega
/-- The one form of a function. -/
def frm (st l : Nat) (A : Nat → Nat) : List Nd := (bld st A l ([], 0)).2.1
end Go.Proofs.YteaionmjbkildabDoor
