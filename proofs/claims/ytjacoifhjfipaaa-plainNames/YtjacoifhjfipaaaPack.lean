/- Words of 64 bits and the bits that they hold: plain facts on numbers, nothing of the program in it. -/
import Derived.RowKit
import Derived.Laws.Bits64
import Derived.Laws.Bits64b
namespace Go.Proofs.Ytjacoifhjfipaaa.Pk

/-- The word whose bits are the first m of p. -/
def packN (p : Nat → Bool) : Nat → Nat
  | 0 => 0
  | m + 1 => packN p m + (if p m then 2 ^ m else 0)

theorem packN_lt (p : Nat → Bool) : ∀ m, packN p m < 2 ^ m
  | 0 => by simp [packN]
  | m + 1 => by
    have := packN_lt p m
    rw [packN, Nat.pow_succ]
    split <;> omega

theorem testBit_packN (p : Nat → Bool) : ∀ m j, (packN p m).testBit j = (decide (j < m) && p j)
  | 0, j => by simp [packN]
  | m + 1, j => by
    have hlt := packN_lt p m
    have ih := testBit_packN p m j
    rw [packN]
    by_cases hp : p m = true
    · rw [if_pos hp, Nat.add_comm]
      rcases Nat.lt_trichotomy j m with h | h | h
      · rw [Nat.testBit_two_pow_add_gt h, ih]
        have h2 : j < m + 1 := by omega
        simp [h, h2]
      · subst h
        rw [Nat.testBit_two_pow_add_eq]
        have h3 : (packN p j).testBit j = false := Nat.testBit_lt_two_pow hlt
        rw [h3, hp]
        simp
      · have h1 : 2 ^ m + packN p m < 2 ^ j := by
          have : 2 ^ (m + 1) ≤ 2 ^ j := Nat.pow_le_pow_right (by decide) h
          rw [Nat.pow_succ] at this
          omega
        rw [Nat.testBit_lt_two_pow h1]
        have h2 : ¬ j < m + 1 := by omega
        simp [h2]
    · have hp' : p m = false := by simpa using hp
      rw [if_neg hp, Nat.add_zero, ih]
      by_cases h : j < m
      · have h2 : j < m + 1 := by omega
        simp [h, h2]
      · by_cases h4 : j = m
        · subst h4; simp [hp']
        · have h2 : ¬ j < m + 1 := by omega
          simp [h, h2]

/-- Word k of the bits p. -/
def pack (p : Nat → Bool) (k : Nat) : Nat := packN (fun j => p (64 * k + j)) 64

theorem pack_lt (p : Nat → Bool) (k : Nat) : pack p k < 18446744073709551616 := packN_lt _ 64

theorem testBit_pack (p : Nat → Bool) (k j : Nat) : (pack p k).testBit j = (decide (j < 64) && p (64 * k + j)) := testBit_packN _ 64 j

theorem pack_congr {p q : Nat → Bool} {k : Nat} (h : ∀ j, j < 64 → p (64 * k + j) = q (64 * k + j)) : pack p k = pack q k := by
  apply Nat.eq_of_testBit_eq
  intro j
  rw [testBit_pack, testBit_pack]
  by_cases hj : j < 64
  · rw [h j hj]
  · simp [hj]

/-- The bit at a place of the words f. -/
def bitAt (f : Nat → Nat) (i : Nat) : Bool := (f (i / 64)).testBit (i % 64)

theorem pack_bitAt {f : Nat → Nat} {k : Nat} (h : f k < 18446744073709551616) : pack (bitAt f) k = f k := by
  apply Nat.eq_of_testBit_eq
  intro j
  rw [testBit_pack]
  by_cases hj : j < 64
  · have h1 : (64 * k + j) / 64 = k := by omega
    have h2 : (64 * k + j) % 64 = j := by omega
    simp [hj, bitAt, h1, h2]
  · have h3 : (f k).testBit j = false := by
      apply Nat.testBit_lt_two_pow
      exact Nat.lt_of_lt_of_le h (by
        have : 2 ^ 64 ≤ 2 ^ j := Nat.pow_le_pow_right (by decide) (by omega)
        simpa using this)
    simp [hj, h3]

theorem bitAt_pack (p : Nat → Bool) (i : Nat) : bitAt (pack p) i = p i := by
  rw [bitAt, testBit_pack]
  have h1 : 64 * (i / 64) + i % 64 = i := by omega
  have h2 : i % 64 < 64 := by omega
  simp [h1, h2]

theorem pack_zero (k : Nat) : pack (fun _ => false) k = 0 := by
  apply Nat.eq_of_testBit_eq
  intro j
  rw [testBit_pack]; simp

theorem pack_and (p q : Nat → Bool) (k : Nat) : pack p k &&& pack q k = pack (fun i => p i && q i) k := by
  apply Nat.eq_of_testBit_eq
  intro j
  rw [Nat.testBit_and, testBit_pack, testBit_pack, testBit_pack]
  by_cases hj : j < 64 <;> simp [hj]

theorem pack_or (p q : Nat → Bool) (k : Nat) : pack p k ||| pack q k = pack (fun i => p i || q i) k := by
  apply Nat.eq_of_testBit_eq
  intro j
  rw [Nat.testBit_or, testBit_pack, testBit_pack, testBit_pack]
  by_cases hj : j < 64 <;> simp [hj]

theorem pack_xor (p q : Nat → Bool) (k : Nat) : pack p k ^^^ pack q k = pack (fun i => Bool.xor (p i) (q i)) k := by
  apply Nat.eq_of_testBit_eq
  intro j
  rw [Nat.testBit_xor, testBit_pack, testBit_pack, testBit_pack]
  by_cases hj : j < 64 <;> simp [hj]

theorem pow_lt64 {j : Nat} (h : j < 64) : 2 ^ j < 18446744073709551616 := by
  have : 2 ^ j < 2 ^ 64 := Nat.pow_lt_pow_right (by decide) h
  simpa using this

/-- The word with the one bit of a place. -/
def one (i : Nat) : Nat := 2 ^ (i % 64)
theorem one_lt (i : Nat) : one i < 18446744073709551616 := pow_lt64 (by omega)
/-- The word whose first c bits are 1. -/
def low (c : Nat) : Nat := 2 ^ c - 1
theorem low_lt {c : Nat} (h : c ≤ 64) : low c < 18446744073709551616 := by
  have : 2 ^ c ≤ 2 ^ 64 := Nat.pow_le_pow_right (by decide) h
  unfold low
  have h1 : 1 ≤ 2 ^ c := Nat.one_le_two_pow
  omega

/-- One bit more. -/
theorem pack_raise (p : Nat → Bool) (i k : Nat) :
    (if k = i / 64 then pack p k ||| one i else pack p k) = pack (fun j => p j || j == i) k := by
  unfold one
  apply Nat.eq_of_testBit_eq
  intro j
  rw [testBit_pack]
  by_cases hk : k = i / 64
  · rw [if_pos hk, Nat.testBit_or, testBit_pack, Nat.testBit_two_pow]
    have hm : i % 64 < 64 := by omega
    by_cases hj : j < 64
    · by_cases he : 64 * k + j = i
      · have h1 : i % 64 = j := by omega
        simp [hj, he, h1]
      · have h1 : ¬ i % 64 = j := by omega
        have h2 : (64 * k + j == i) = false := by simp [he]
        simp [h1, h2]
    · have h1 : ¬ i % 64 = j := by omega
      simp [hj, h1]
  · rw [if_neg hk, testBit_pack]
    by_cases hj : j < 64
    · have h1 : ¬ 64 * k + j = i := by omega
      have h2 : (64 * k + j == i) = false := by simp [h1]
      simp [hj, h2]
    · simp [hj]

/-- Is a place's bit 1? -/
theorem and_place (p : Nat → Bool) (i : Nat) : (pack p (i / 64) &&& one i = 0) ↔ p i = false := by
  unfold one
  have hb : (pack p (i / 64)).testBit (i % 64) = p i := by
    rw [testBit_pack]
    have h1 : 64 * (i / 64) + i % 64 = i := by omega
    have h2 : i % 64 < 64 := by omega
    simp [h1, h2]
  constructor
  · intro h
    have := congrArg (fun x => x.testBit (i % 64)) h
    simpa [Nat.testBit_and, Nat.testBit_two_pow, hb] using this
  · intro h
    apply Nat.eq_of_testBit_eq
    intro j
    rw [Nat.testBit_and, Nat.testBit_two_pow, Nat.zero_testBit]
    by_cases hj : i % 64 = j
    · subst hj; simp [hb, h]
    · simp [hj]

/-- The first c bits of a word alone. -/
theorem pack_low (p : Nat → Bool) (k c : Nat) : pack p k &&& low c = pack (fun i => p i && decide (i < 64 * k + c)) k := by
  unfold low
  apply Nat.eq_of_testBit_eq
  intro j
  rw [Nat.testBit_and, testBit_pack, testBit_pack, Nat.testBit_two_pow_sub_one]
  by_cases hj : j < 64
  · by_cases h : j < c
    · have h1 : 64 * k + j < 64 * k + c := by omega
      simp [hj, h, h1]
    · have h1 : ¬ 64 * k + j < 64 * k + c := by omega
      simp [h, h1]
  · simp [hj]

/-- All bits of a word turned. -/
theorem pack_not (p : Nat → Bool) (k : Nat) : pack p k ^^^ 18446744073709551615 = pack (fun i => !p i) k := by
  apply Nat.eq_of_testBit_eq
  intro j
  have e : (18446744073709551615 : Nat) = 2 ^ 64 - 1 := by decide
  rw [e, Nat.testBit_xor, testBit_pack, testBit_pack, Nat.testBit_two_pow_sub_one]
  by_cases hj : j < 64 <;> simp [hj]

/-- A bit by quotient and remainder. -/
theorem bit_div (x i : Nat) : x / 2 ^ i % 2 = if x.testBit i then 1 else 0 := by
  have h := Nat.testBit_eq_decide_div_mod_eq (x := x) (i := i)
  rw [h]
  have : x / 2 ^ i % 2 < 2 := Nat.mod_lt _ (by decide)
  by_cases h1 : x / 2 ^ i % 2 = 1
  · simp [h1]
  · simp [h1]; omega

theorem mod_pow_next (x i : Nat) : x % 2 ^ (i + 1) = x % 2 ^ i + (x / 2 ^ i % 2) * 2 ^ i := by
  rw [Nat.pow_succ, Nat.mod_mul, Nat.mul_comm (2 ^ i) (x / 2 ^ i % 2)]

/-! ### Half and Full, place by place -/

def maj (a b c : Nat) : Nat := (a &&& b) ||| ((a ^^^ b) &&& c)

theorem xor_place (a b i : Nat) : (a ^^^ b) / 2 ^ i % 2 = (a / 2 ^ i % 2 + b / 2 ^ i % 2) % 2 := by
  rw [bit_div, bit_div, bit_div, Nat.testBit_xor]
  cases a.testBit i <;> cases b.testBit i <;> rfl

theorem and_bits (a b i : Nat) : (a &&& b) / 2 ^ i % 2 = (a / 2 ^ i % 2 + b / 2 ^ i % 2) / 2 := by
  rw [bit_div, bit_div, bit_div, Nat.testBit_and]
  cases a.testBit i <;> cases b.testBit i <;> rfl

theorem xor3_place (a b c i : Nat) : (a ^^^ b ^^^ c) / 2 ^ i % 2 = (a / 2 ^ i % 2 + b / 2 ^ i % 2 + c / 2 ^ i % 2) % 2 := by
  rw [bit_div, bit_div, bit_div, bit_div, Nat.testBit_xor, Nat.testBit_xor]
  cases a.testBit i <;> cases b.testBit i <;> cases c.testBit i <;> rfl

theorem maj_place (a b c i : Nat) : maj a b c / 2 ^ i % 2 = (a / 2 ^ i % 2 + b / 2 ^ i % 2 + c / 2 ^ i % 2) / 2 := by
  unfold maj
  rw [bit_div, bit_div, bit_div, bit_div, Nat.testBit_or, Nat.testBit_and, Nat.testBit_and, Nat.testBit_xor]
  cases a.testBit i <;> cases b.testBit i <;> cases c.testBit i <;> rfl

theorem xor_lt {a b : Nat} (ha : a < 18446744073709551616) (hb : b < 18446744073709551616) : a ^^^ b < 18446744073709551616 := Nat.xor_lt_two_pow (n := 64) ha hb
theorem and_lt {a b : Nat} (ha : a < 18446744073709551616) : a &&& b < 18446744073709551616 := Nat.lt_of_le_of_lt Nat.and_le_left ha
theorem or_lt {a b : Nat} (ha : a < 18446744073709551616) (hb : b < 18446744073709551616) : a ||| b < 18446744073709551616 := Nat.or_lt_two_pow (n := 64) ha hb
theorem maj_lt {a b c : Nat} (ha : a < 18446744073709551616) (hb : b < 18446744073709551616) : maj a b c < 18446744073709551616 := or_lt (and_lt ha) (and_lt (xor_lt ha hb))
theorem maj_zero (a b : Nat) : maj a b 0 = a &&& b := by simp [maj]

end Go.Proofs.Ytjacoifhjfipaaa.Pk
