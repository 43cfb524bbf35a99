/- What the calls of package words answer: cut, Valid. -/
import Derived.Test.YtjndljjpbkfmiaaDoorW2
namespace Go.Proofs.YtjndljjpbkfmiaaDoor.Wo
open Go.RowKit
set_option linter.unusedVariables false
set_option maxRecDepth 100000

/-- May the row be? -/
def validB (N : Int) (n : Nat) (f : Nat → Nat) : Bool :=
  decide (0 ≤ N) && decide (N ≤ 65538) && decide ((n : Int) = (N + 63) / 64) && (decide (N = 0) || decide (f (n - 1) < 2 ^ last N.toNat))

theorem andNot_low (x c : Nat) (hx : x < 18446744073709551616) (hc : c ≤ 64) : (bits .andNot .u64 (x : Int) (Pk.low c : Int) == 0) = decide (x < 2 ^ c) := by
  have hl := Pk.low_lt hc
  have e : bits .andNot .u64 (x : Int) (Pk.low c : Int) = ((x &&& (18446744073709551615 ^^^ Pk.low c) : Nat) : Int) := by
    have hy : x &&& (18446744073709551615 ^^^ Pk.low c) < 18446744073709551616 := Nat.lt_of_le_of_lt Nat.and_le_left hx
    unfold bits
    simp only [BitVec.ofInt_natCast]
    have hb : (BitVec.ofNat 64 x &&& ~~~ BitVec.ofNat 64 (Pk.low c)).toNat = x &&& (18446744073709551615 ^^^ Pk.low c) := by
      rw [BitVec.toNat_and, BitVec.toNat_ofNat, Nat.mod_eq_of_lt hx, BitVec.not_def, BitVec.toNat_xor, BitVec.toNat_ofNat, Nat.mod_eq_of_lt hl]
      rfl
    have hf : IntKind.u64.wrap (((BitVec.ofNat 64 x &&& ~~~ BitVec.ofNat 64 (Pk.low c)).toNat : Nat) : Int) = ((x &&& (18446744073709551615 ^^^ Pk.low c) : Nat) : Int) := by
      rw [hb, IntKind.wrap_u64]
      omega
    exact hf
  rw [e]
  by_cases h : x < 2 ^ c
  · have : x &&& (18446744073709551615 ^^^ Pk.low c) = 0 := by
      apply Nat.eq_of_testBit_eq
      intro j
      have e64 : (18446744073709551615 : Nat) = 2 ^ 64 - 1 := by decide
      unfold Pk.low
      rw [Nat.testBit_and, Nat.testBit_xor, e64, Nat.testBit_two_pow_sub_one, Nat.testBit_two_pow_sub_one, Nat.zero_testBit]
      by_cases hj : j < c
      · have : j < 64 := by omega
        simp [hj, this]
      · have hz : x.testBit j = false := Nat.testBit_lt_two_pow (Nat.lt_of_lt_of_le h (Nat.pow_le_pow_right (by decide) (by omega)))
        simp [hz]
    rw [this, decide_eq_true h]
    rfl
  · have : x &&& (18446744073709551615 ^^^ Pk.low c) ≠ 0 := by
      intro h0
      apply h
      apply Nat.lt_pow_two_of_testBit
      intro j hj
      have := congrArg (fun y => y.testBit j) h0
      have e64 : (18446744073709551615 : Nat) = 2 ^ 64 - 1 := by decide
      unfold Pk.low at this
      simp only [Nat.testBit_and, Nat.testBit_xor, e64, Nat.testBit_two_pow_sub_one, Nat.zero_testBit] at this
      by_cases h6 : j < 64
      · have hjc : ¬ j < c := by omega
        simpa [h6, hjc] using this
      · exact Nat.testBit_lt_two_pow (Nat.lt_of_lt_of_le hx (by
          have : 2 ^ 64 ≤ 2 ^ j := Nat.pow_le_pow_right (by decide) (by omega)
          simpa using this))
    rw [decide_eq_false h]
    simp [this]

end Go.Proofs.YtjndljjpbkfmiaaDoor.Wo
