/- What canon remembers, in plain words. -/
import Derived.Test.YteaionmjbkildabDoorQu
namespace Go.Proofs.YteaionmjbkildabDoor
set_option linter.unusedVariables false
set_option linter.unusedSimpArgs false

/-- How many of the first m nodes are known. -/
def cnK (K : Nat → Int) : Nat → Nat
  | 0 => 0
  | m + 1 => cnK K m + if K m = -1 then 0 else 1
theorem cnK_le (K : Nat → Int) : ∀ m, cnK K m ≤ m
  | 0 => Nat.le_refl _
  | m + 1 => by have := cnK_le K m; rw [cnK]; split <;> omega
theorem cnK_congr {K K' : Nat → Int} : ∀ m, (∀ j, j < m → K j = K' j) → cnK K m = cnK K' m
  | 0, _ => rfl
  | m + 1, h => by rw [cnK, cnK, cnK_congr m (fun j hj => h j (by omega)), h m (by omega)]
theorem cnK_set {K : Nat → Int} {n : Nat} {v : Int} (h0 : K n = -1) (hv : v ≠ -1) : ∀ m, cnK (fun j => if j = n then v else K j) m = cnK K m + if n < m then 1 else 0
  | 0 => rfl
  | m + 1 => by
    rw [cnK, cnK, cnK_set h0 hv m]
    by_cases e : m = n
    · subst e
      simp [hv, h0]
    · simp only [if_neg e]
      by_cases h1 : n < m
      · simp only [if_pos h1, if_pos (show n < m + 1 by omega)]
        omega
      · simp only [if_neg h1, if_neg (show ¬ n < m + 1 by omega), Nat.add_zero]
/-- What is known is so, and there are not more nodes than known ones. -/
structure Mo (T : Nat → Nd) (lv : Nat → Nat) (N : Nat) (K : Nat → Int) (L : List Nd) : Prop where
  known : ∀ j, j < N → K j ≠ -1 → 0 ≤ K j ∧ unf T (lv j) j L = ((K j).toNat, L)
  few : L.length ≤ cnK K N
  good : Gf L
theorem mo_step {T : Nat → Nd} {lv : Nat → Nat} {N : Nat} {K : Nat → Int} {L : List Nd} (h : Mo T lv N K L) {x : Nd} (hx : NdOk x) {n : Nat} (hn : n < N) (h0 : K n = -1) {v : Nat} (hd : unf T (lv n) n (nfm L x) = (v, nfm L x)) : Mo T lv N (fun j => if j = n then (v : Int) else K j) (nfm L x) where
  known j hj hk := by
    by_cases e : j = n
    · subst e
      simp only [if_pos]
      exact ⟨by omega, by simpa using hd⟩
    · simp only [if_neg e] at hk ⊢
      obtain ⟨h1, h2⟩ := h.known j hj hk
      have hp : (unf T (lv j) j L).2 <+: nfm L x := by rw [h2]; exact nfm_pre L x
      have := unf_done T (lv j) j L _ hp
      rw [h2] at this
      exact ⟨h1, this⟩
  few := by
    rw [cnK_set h0 (by omega), if_pos hn]
    have := (nfm_len L x).2
    have := h.few
    omega
  good := h.good.nfm hx
theorem mo_zero (T : Nat → Nd) (lv : Nat → Nat) (N : Nat) : Mo T lv N (fun _ => -1) [] := ⟨fun j _ h => absurd rfl h, Nat.zero_le _, Gf.nil⟩
/-- The numbers that a node's kids have lie below the form's length. -/
theorem unf_lt (T : Nat → Nd) : ∀ l n L, (unf T l n L).1 < (unf T l n L).2.length
  | 0, n, L => nix_lt _ _
  | l + 1, n, L => nix_lt _ _
theorem kidsU_lt {f : Nat → List Nd → Nat × List Nd} (hp : ∀ k L, L <+: (f k L).2) (hl : ∀ k L, (f k L).1 < (f k L).2.length) : ∀ (r : List Nat) (L : List Nd), ∀ x ∈ (kidsU f r L).1, x < (kidsU f r L).2.length
  | [], L, x, hx => by cases hx
  | k :: r, L, x, hx => by
    have h2 := (kidsU_pre hp r (f k L).2).length_le
    rcases List.mem_cons.1 hx with rfl | hx
    · have := hl k L
      show (f k L).1 < (kidsU f r (f k L).2).2.length
      omega
    · exact kidsU_lt hp hl r _ x hx
/-- What comes of a node that has been asked for already. -/
theorem known_is {T : Nat → Nd} {lv : Nat → Nat} {N : Nat} {K : Nat → Int} {L : List Nd} (h : Mo T lv N K L) {n : Nat} (hn : n < N) (hk : K n ≠ -1) : K n = ((unf T (lv n) n L).1 : Int) ∧ (unf T (lv n) n L).2 = L := by
  obtain ⟨h1, h2⟩ := h.known n hn hk
  rw [h2]
  exact ⟨by simp; omega, rfl⟩
end Go.Proofs.YteaionmjbkildabDoor
