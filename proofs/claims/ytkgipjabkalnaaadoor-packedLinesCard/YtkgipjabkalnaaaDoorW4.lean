/- What the calls of package words answer: Valid of rows that may be, Get, Of. -/
import Derived.Test.YtkgipjabkalnaaaDoorW3
namespace Go.Proofs.YtkgipjabkalnaaaDoor.Wo
open Go.RowKit
set_option linter.unusedVariables false
set_option maxRecDepth 100000

theorem MayBe.len {m n : Nat} {p : Nat → Bool} (h : MayBe m n p) : n ≤ 1025 := by have := h.le; have := h.words; omega

theorem validB_may {m n : Nat} {p : Nat → Bool} (h : MayBe m n p) : validB m n (Pk.pack p) = true := by
  have h1 := h.le
  have h2 := h.words
  unfold validB
  rw [decide_eq_true (show (0 : Int) ≤ (m : Int) by omega), decide_eq_true (show (m : Int) ≤ 65538 by omega), decide_eq_true (show (n : Int) = ((m : Int) + 63) / 64 by omega)]
  by_cases h0 : m = 0
  · rw [decide_eq_true (show (m : Int) = 0 by omega)]; rfl
  · have : Pk.pack p (n - 1) < 2 ^ last m := by
      apply Nat.lt_pow_two_of_testBit
      intro j hj
      rw [Pk.testBit_pack]
      by_cases hj6 : j < 64
      · rw [h.tail _ (by unfold last at hj; omega)]; simp
      · simp [hj6]
    rw [Int.toNat_natCast, decide_eq_true this]
    simp

theorem may_of_validB {N : Int} {n : Nat} {f : Nat → Nat} (hf : ∀ k, k < n → f k < 18446744073709551616) (h : validB N n f = true) :
    ∃ m p, N = (m : Nat) ∧ MayBe m n p ∧ ∀ k, k < n → f k = Pk.pack p k := by
  unfold validB at h
  simp only [Bool.and_eq_true, Bool.or_eq_true, decide_eq_true_eq] at h
  obtain ⟨⟨⟨h0, h1⟩, h2⟩, h3⟩ := h
  obtain ⟨m, rfl⟩ : ∃ m : Nat, N = m := ⟨N.toNat, by omega⟩
  rw [Int.toNat_natCast] at h3
  refine ⟨m, fun i => decide (i < m) && Pk.bitAt f i, rfl, ⟨by omega, by omega, fun i hi => by rw [decide_eq_false (by omega)]; rfl⟩, fun k hk => ?_⟩
  rw [← Pk.pack_bitAt (f := f) (k := k) (hf k hk)]
  refine Pk.pack_congr fun j hj => ?_
  by_cases hlt : 64 * k + j < m
  · rw [decide_eq_true hlt]; simp
  · rw [decide_eq_false hlt]
    have hkn : k = n - 1 := by omega
    have h4 : f k < 2 ^ last m := by
      rcases h3 with h3 | h3
      · omega
      · rw [hkn]; exact h3
    have e1 : (64 * k + j) / 64 = k := by omega
    have e2 : (64 * k + j) % 64 = j := by omega
    unfold Pk.bitAt
    rw [e1, e2, Nat.testBit_lt_two_pow (Nat.lt_of_lt_of_le h4 (Nat.pow_le_pow_right (by decide) (by unfold last; omega)))]
    rfl

theorem validP (m n cap : Nat) (sp : Option Addr) (p : Nat → Bool) (M : MayBe m n p) (w : World) (hc : Wd w sp n (Pk.pack p)) :
    Calls Tryd.prog 16 #[.agg #[.int .i64 m, .slice sp n cap]] w fun e w' => e = .returned (.bool true) ∧ w.grownBy w' none := by
  have h := validC m n cap sp (Pk.pack p) (fun k _ => Pk.pack_lt _ _) (by have := (MayBe.len M); omega) w hc
  rw [validB_may M] at h
  exact h

def getB (m : Nat) (p : Nat → Bool) (i : Int) : Bool := decide (0 ≤ i) && decide (i < m) && p i.toNat

end Go.Proofs.YtkgipjabkalnaaaDoor.Wo
