/- Words of sixteen bits: what the operations on them answer, bit by bit. -/
import Derived.Test.YtkgipjabkalnaaaDoorLf
import Derived.Test.YtkgipjabkalnaaaDoorMem
import Derived.Laws.BitsAllLaws
import Derived.Laws.Bits64b
set_option linter.unusedSimpArgs false
set_option linter.unusedVariables false
namespace Go.Proofs.YtkgipjabkalnaaaDoor
open Go.RowKit

theorem wraps_u16 (n : Int) (h0 : 0 ≤ n) (h1 : n < 2 ^ 16) : IntKind.u16.wrap n = n := by rw [IntKind.wrap_u16]; omega
theorem and16 (a b : Nat) (ha : a < 65536) (hb : b < 65536) : bits .and .u16 (a : Int) (b : Int) = ((a &&& b : Nat) : Int) := (bits_nat .u16 16 (by decide) wraps_u16 a b ha hb).1
theorem or16 (a b : Nat) (ha : a < 65536) (hb : b < 65536) : bits .or .u16 (a : Int) (b : Int) = ((a ||| b : Nat) : Int) := (bits_nat .u16 16 (by decide) wraps_u16 a b ha hb).2
namespace Lf
/-- The bits of a that are none of b's. -/
def adn (a b : Nat) : Nat := a &&& (b ^^^ 65535)
theorem testBit_all (i : Nat) : Nat.testBit 65535 i = decide (i < 16) := Nat.testBit_two_pow_sub_one 16 i
theorem big {a i : Nat} (ha : a < 65536) (hi : 16 ≤ i) : a.testBit i = false := Nat.testBit_lt_two_pow (Nat.lt_of_lt_of_le ha (Nat.pow_le_pow_right (n := 2) (by decide) hi))
theorem adn_bit {a b : Nat} (ha : a < 65536) (i : Nat) : (adn a b).testBit i = (a.testBit i && !b.testBit i) := by
  unfold adn
  rw [Nat.testBit_and, Nat.testBit_xor, testBit_all]
  by_cases hi : i < 16
  · simp [hi]
  · rw [big ha (i := i) (by omega)]; simp
theorem adn_lt {a b : Nat} (ha : a < 65536) : adn a b < 65536 := Nat.lt_of_le_of_lt Nat.and_le_left ha
theorem one_bit (k i : Nat) : (2 ^ k).testBit i = decide (k = i) := Nat.testBit_two_pow
theorem up_bit (k i : Nat) : (2 ^ k - 1).testBit i = decide (i < k) := Nat.testBit_two_pow_sub_one k i
theorem and_one {v k : Nat} : (v &&& 2 ^ k = 0) ↔ v.testBit k = false := by
  constructor
  · intro h
    have := congrArg (fun x => x.testBit k) h
    simp only [Nat.testBit_and, one_bit, Nat.zero_testBit] at this
    simpa using this
  · intro h
    apply Nat.eq_of_testBit_eq
    intro i
    rw [Nat.testBit_and, one_bit, Nat.zero_testBit]
    by_cases e : k = i
    · subst e; simp [h]
    · simp [e]
theorem adn_up {v k : Nat} (hv : v < 65536) : (adn v (2 ^ k - 1) = 0) ↔ v < 2 ^ k := by
  constructor
  · intro h
    apply Nat.lt_pow_two_of_testBit
    intro i hi
    have := congrArg (fun x => x.testBit i) h
    simp only [adn_bit hv, up_bit, Nat.zero_testBit] at this
    have h2 : decide (i < k) = false := by simp; omega
    rw [h2] at this
    simpa using this
  · intro h
    apply Nat.eq_of_testBit_eq
    intro i
    rw [adn_bit hv, up_bit, Nat.zero_testBit]
    by_cases e : i < k
    · simp [e]
    · have : v.testBit i = false := Nat.testBit_lt_two_pow (Nat.lt_of_lt_of_le h (Nat.pow_le_pow_right (n := 2) (by decide) (by omega)))
      simp [this]
theorem or_up {a b k : Nat} : (a ||| b < 2 ^ k) ↔ (a < 2 ^ k ∧ b < 2 ^ k) := by
  constructor
  · intro h
    exact ⟨Nat.lt_of_le_of_lt Nat.left_le_or h, Nat.lt_of_le_of_lt Nat.right_le_or h⟩
  · rintro ⟨h1, h2⟩
    exact Nat.or_lt_two_pow h1 h2
theorem p16 {k : Nat} (hk : k < 16) : 2 ^ k < 65536 := Nat.pow_lt_pow_right (n := 16) (by decide) hk
end Lf
theorem adn16 (a b : Nat) (ha : a < 65536) (hb : b < 65536) : bits .andNot .u16 (a : Int) (b : Int) = ((Lf.adn a b : Nat) : Int) := by
  have hx : Lf.adn a b < 65536 := Lf.adn_lt ha
  have h1 : (BitVec.ofInt 16 (a : Int)).toNat = a := by
    rw [BitVec.ofInt_natCast, BitVec.toNat_ofNat]; exact Nat.mod_eq_of_lt (by omega)
  have h2 : (BitVec.ofInt 16 (b : Int)).toNat = b := by
    rw [BitVec.ofInt_natCast, BitVec.toNat_ofNat]; exact Nat.mod_eq_of_lt (by omega)
  show IntKind.u16.wrap ((BitVec.ofInt 16 (a : Int) &&& ~~~ BitVec.ofInt 16 (b : Int)).toNat : Int) = _
  have e : (BitVec.ofInt 16 (a : Int) &&& ~~~ BitVec.ofInt 16 (b : Int)).toNat = Lf.adn a b := by
    apply Nat.eq_of_testBit_eq
    intro i
    rw [Lf.adn_bit ha, BitVec.toNat_and, Nat.testBit_and, h1, BitVec.testBit_toNat, BitVec.getLsbD_not]
    by_cases hi : i < 16
    · rw [← BitVec.testBit_toNat, h2]; simp [hi]
    · rw [Lf.big ha (i := i) (by omega)]; simp
  rw [e, IntKind.wrap_u16]
  omega
end Go.Proofs.YtkgipjabkalnaaaDoor
