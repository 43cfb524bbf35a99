/- Words of 64 bits moved by a place: plain facts on numbers, nothing of the program in it. -/
import Derived.Test.YtcdefpfnjjahgabPack
namespace Go.Proofs.Ytcdefpfnjjahgab.Pk

/-! ### A place up -/
def shl (x : Nat) : Nat := x * 2 % 18446744073709551616
def top (x : Nat) : Nat := x / 9223372036854775808
/-- What the word below hands on. -/
def car (p : Nat → Bool) : Nat → Nat
  | 0 => 0
  | k + 1 => top (pack p k)
def upP (p : Nat → Bool) (i : Nat) : Bool := if i = 0 then false else p (i - 1)
theorem shl_lt (x : Nat) : shl x < 18446744073709551616 := Nat.mod_lt _ (by decide)
theorem top_lt {x : Nat} (h : x < 18446744073709551616) : top x < 2 := by unfold top; omega
theorem car_lt (p : Nat → Bool) : ∀ k, car p k < 2
  | 0 => by rw [car]; omega
  | k + 1 => top_lt (pack_lt p k)
theorem testBit_top (x j : Nat) : (top x).testBit j = x.testBit (63 + j) := by
  have e : (9223372036854775808 : Nat) = 2 ^ 63 := by decide
  unfold top
  rw [e, Nat.testBit_div_two_pow, Nat.add_comm]
theorem testBit_shl (x j : Nat) : (shl x).testBit j = (decide (j < 64) && decide (1 ≤ j) && x.testBit (j - 1)) := by
  have e : (18446744073709551616 : Nat) = 2 ^ 64 := by decide
  unfold shl
  rw [e, Nat.testBit_mod_two_pow, Nat.mul_comm, show 2 * x = 2 ^ 1 * x by simp, Nat.testBit_two_pow_mul]
  by_cases h : 1 ≤ j <;> simp [h]
theorem testBit_small {c j : Nat} (hc : c < 2) (hj : 1 ≤ j) : c.testBit j = false :=
  Nat.testBit_lt_two_pow (Nat.lt_of_lt_of_le hc (by
    have : 2 ^ 1 ≤ 2 ^ j := Nat.pow_le_pow_right (by decide) hj
    simpa using this))
theorem pack_up (p : Nat → Bool) (k : Nat) : shl (pack p k) ||| car p k = pack (upP p) k := by
  apply Nat.eq_of_testBit_eq
  intro j
  rw [Nat.testBit_or, testBit_shl, testBit_pack, testBit_pack]
  by_cases hj : 1 ≤ j
  · rw [testBit_small (car_lt p k) hj]
    by_cases h6 : j < 64
    · have h5 : j - 1 < 64 := by omega
      have h0 : ¬ 64 * k + j = 0 := by omega
      have e : 64 * k + j - 1 = 64 * k + (j - 1) := by omega
      rw [upP, if_neg h0, e]
      simp [hj, h6, h5]
    · simp [h6]
  · have hj0 : j = 0 := by omega
    subst hj0
    cases k with
    | zero => simp [car, upP]
    | succ k =>
      rw [car, testBit_top, testBit_pack]
      have e : 64 * (k + 1) + 0 - 1 = 64 * k + (63 + 0) := by omega
      have h0 : ¬ 64 * (k + 1) + 0 = 0 := by omega
      rw [upP, if_neg h0, e]
      simp

end Go.Proofs.Ytcdefpfnjjahgab.Pk
