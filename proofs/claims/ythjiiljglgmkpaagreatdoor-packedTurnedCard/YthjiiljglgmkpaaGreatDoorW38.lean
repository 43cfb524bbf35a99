/- The document's bit and Valid. -/
import Derived.Test.YthjiiljglgmkpaaGreatDoorWa
namespace Go.Proofs.YthjiiljglgmkpaaGreatDoor.Wo
open Go.RowKit
set_option linter.unusedVariables false
set_option linter.unusedSimpArgs false

theorem bit_val (x j : Nat) : (((x : Int) / 2 ^ j).tmod 2 == 1) = x.testBit j := by
  have e : (x : Int) / 2 ^ j = ((x / 2 ^ j : Nat) : Int) := by simp
  have h := Pk.bit_div x j
  rw [e, Int.tmod_eq_emod_of_nonneg (Int.natCast_nonneg _), show ((x / 2 ^ j : Nat) : Int) % 2 = ((x / 2 ^ j % 2 : Nat) : Int) by omega, h]
  cases x.testBit j <;> rfl
theorem validB_congr {N : Int} {n : Nat} {f g : Nat → Nat} (h : ∀ k, k < n → f k = g k) : validB N n f = validB N n g := by
  unfold validB
  by_cases h0 : n = 0
  · subst h0
    by_cases hN : N = 0
    · subst hN; simp
    · by_cases hN2 : 0 < N
      · have : ¬ (0 : Int) = (N + 63) / 64 := by omega
        simp [this]
      · have : ¬ 0 ≤ N := by omega
        simp [this]
  · rw [h (n - 1) (by omega)]
theorem valid_tail {m n : Nat} {f : Nat → Nat} (hf : ∀ k, k < n → f k < 18446744073709551616) (hm : m ≤ 65538) (hn : n = (m + 63) / 64) (h : ∀ i, m ≤ i → i < 64 * n → Pk.bitAt f i = false) : validB m n f = true := by
  have e : ∀ k, k < n → f k = Pk.pack (fun i => decide (i < m) && Pk.bitAt f i) k := fun k hk => by
    rw [← Pk.pack_bitAt (f := f) (k := k) (hf k hk)]
    refine Pk.pack_congr fun j hj => ?_
    by_cases hlt : 64 * k + j < m
    · rw [decide_eq_true hlt]; simp [Pk.bitAt_pack, Pk.pack_bitAt, hf k hk]
    · rw [decide_eq_false hlt]
      rw [h (64 * k + j) (by omega) (by omega)]; rfl
  rw [validB_congr e]
  exact validB_may (m := m) (n := n) ⟨hm, hn, fun i hi => by rw [decide_eq_false (by omega)]; rfl⟩
theorem valid_not {m n i : Nat} {f : Nat → Nat} (hf : ∀ k, k < n → f k < 18446744073709551616) (h1 : m ≤ i) (h2 : i < 64 * n) (h : Pk.bitAt f i = true) : validB m n f = false := by
  cases hv : validB m n f with
  | false => rfl
  | true =>
    obtain ⟨m', p, e, M, hp⟩ := may_of_validB hf hv
    obtain rfl : m = m' := by omega
    have h3 : Pk.bitAt f i = Pk.bitAt (Pk.pack p) i := by unfold Pk.bitAt; rw [hp (i / 64) (by omega)]
    rw [Pk.bitAt_pack, M.tail i h1] at h3
    rw [h3] at h; cases h
end Go.Proofs.YthjiiljglgmkpaaGreatDoor.Wo
