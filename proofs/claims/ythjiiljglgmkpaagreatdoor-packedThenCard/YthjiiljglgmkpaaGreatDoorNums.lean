/- Plain arithmetic for the calls of package whole: remainders, quotients, sums, products, greatest common divisors, what fits a width. Nothing of the program in it. -/
import Derived.RowKit
namespace Go.Proofs.YthjiiljglgmkpaaGreatDoor.Nm
open Go.RowKit (wrap32 wrap64)

def modZ (a n : Int) : Int := if n < 1 then 0 else a % n
def divZ (a n : Int) : Int := if n < 1 then 0 else a / n
def posB (n : Int) : Bool := decide (1 ≤ n)
def fitZ (l h x : Int) : Int := if l ≤ x ∧ x ≤ h then x else 0
def fitB (l h x : Int) : Bool := decide (l ≤ x ∧ x ≤ h)
def gcdZ (a b : Int) : Int := (Int.gcd a b : Int)
def absZ (a : Int) : Int := (a.natAbs : Int)
def sv (n : Int) (b : Bool) : Int := if b then -n else n
def nearZ (v lo hi : Int) : Int := if v < lo ∨ hi < lo then lo else if hi < v then hi else v

theorem fitB_yes {l h x : Int} (h1 : l ≤ x) (h2 : x ≤ h) : fitB l h x = true := by simp [fitB, h1, h2]
theorem fitZ_yes {l h x : Int} (h1 : l ≤ x) (h2 : x ≤ h) : fitZ l h x = x := by simp [fitZ, h1, h2]
theorem fitB_no {l h x : Int} (hn : ¬ (l ≤ x ∧ x ≤ h)) : fitB l h x = false := by simp only [fitB, hn, decide_false]
theorem fitZ_no {l h x : Int} (hn : ¬ (l ≤ x ∧ x ≤ h)) : fitZ l h x = 0 := by simp only [fitZ, hn, if_false]
theorem fitZ_bd {l h x : Int} (hl : l ≤ 0) (hh : 0 ≤ h) : l ≤ fitZ l h x ∧ fitZ l h x ≤ h := by
  unfold fitZ; split <;> omega

/-- What the language's quotient and remainder are, of a divisor above 0, where the remainder is not below 0, and where it is. -/
theorem parts_up {a n : Int} (hn : 1 ≤ n) (h : 0 ≤ a.tmod n) : a.tdiv n = a / n ∧ a.tmod n = a % n := by
  have h1 := Int.mul_tdiv_add_tmod a n
  have h2 := Int.tmod_lt_of_pos a (show (0:Int) < n by omega)
  have := (Int.ediv_emod_unique (a := a) (b := n) (r := a.tmod n) (q := a.tdiv n) (by omega)).2 ⟨by omega, h, h2⟩
  exact ⟨this.1.symm, this.2.symm⟩
theorem parts_down {a n : Int} (hn : 1 ≤ n) (h : a.tmod n < 0) : a.tdiv n - 1 = a / n ∧ a.tmod n + n = a % n := by
  have h1 := Int.mul_tdiv_add_tmod a n
  have h2 := Int.lt_tmod_of_pos a (show (0:Int) < n by omega)
  have := (Int.ediv_emod_unique (a := a) (b := n) (r := a.tmod n + n) (q := a.tdiv n - 1) (by omega)).2 ⟨by rw [Int.mul_sub]; omega, by omega, by omega⟩
  exact ⟨this.1.symm, this.2.symm⟩
theorem modZ_no {a n : Int} (h : n < 1) : modZ a n = 0 := by simp [modZ, h]
theorem divZ_no {a n : Int} (h : n < 1) : divZ a n = 0 := by simp [divZ, h]
theorem modZ_yes {a n : Int} (h : 1 ≤ n) : modZ a n = a % n := by unfold modZ; rw [if_neg (by omega)]
theorem divZ_yes {a n : Int} (h : 1 ≤ n) : divZ a n = a / n := by unfold divZ; rw [if_neg (by omega)]
theorem posB_no {n : Int} (h : n < 1) : posB n = false := by simp [posB]; omega
theorem posB_yes {n : Int} (h : 1 ≤ n) : posB n = true := by simp [posB, h]
theorem modZ_bd {a n h : Int} (hn : n ≤ h) (h0 : 0 ≤ h) : 0 ≤ modZ a n ∧ modZ a n ≤ h := by
  unfold modZ
  split
  · omega
  · have := Int.emod_nonneg a (show n ≠ 0 by omega)
    have := Int.emod_lt_of_pos a (show (0:Int) < n by omega)
    omega
theorem ediv_bd {a n l h : Int} (hn : 1 ≤ n) (h1 : l ≤ a) (h2 : a ≤ h) (hl : l ≤ 0) (hh : 0 ≤ h) : l ≤ a / n ∧ a / n ≤ h := by
  constructor
  · apply Int.le_ediv_of_mul_le (by omega)
    have : 0 ≤ (-l) * (n - 1) := Int.mul_nonneg (by omega) (by omega)
    rw [Int.mul_sub, Int.neg_mul] at this
    omega
  · apply Int.ediv_le_of_le_mul (by omega)
    have : 0 ≤ h * (n - 1) := Int.mul_nonneg (by omega) (by omega)
    rw [Int.mul_sub] at this
    omega
theorem divZ_bd {a n l h : Int} (h1 : l ≤ a) (h2 : a ≤ h) (hl : l ≤ 0) (hh : 0 ≤ h) : l ≤ divZ a n ∧ divZ a n ≤ h := by
  unfold divZ
  split
  · omega
  · exact ediv_bd (by omega) h1 h2 hl hh
theorem tdiv_bd {a n l h : Int} (hn : 1 ≤ n) (h1 : l ≤ a) (h2 : a ≤ h) (hl : l ≤ 0) (hh : 0 ≤ h) : l ≤ a.tdiv n ∧ a.tdiv n ≤ h := by
  have q := ediv_bd hn h1 h2 hl hh
  by_cases h : 0 ≤ a.tmod n
  · rw [(parts_up hn h).1]; exact q
  · have := (parts_down (a := a) hn (by omega)).1
    have h3 := Int.mul_tdiv_add_tmod a n
    have h4 := Int.lt_tmod_of_pos a (show (0:Int) < n by omega)
    refine ⟨by omega, ?_⟩
    have h5 : a.tdiv n ≤ 0 := by
      apply Classical.byContradiction
      intro hc
      have : 0 ≤ n * (a.tdiv n - 1) := Int.mul_nonneg (by omega) (by omega)
      rw [Int.mul_sub] at this
      have h6 : a < 0 := by
        apply Classical.byContradiction
        intro hc2
        have := Int.tmod_nonneg n (show 0 ≤ a by omega)
        omega
      omega
    omega

theorem w32 {x : Int} (h1 : -2147483648 ≤ x) (h2 : x ≤ 2147483647) : wrap32 x = x := by
  unfold wrap32; omega
theorem w64 {x : Int} (h1 : -9223372036854775808 ≤ x) (h2 : x ≤ 9223372036854775807) : wrap64 x = x := by
  unfold wrap64; omega
theorem e8 (x : Int) : IntKind.i8.wrap x = (x + 128) % 256 - 128 := by
  simp [IntKind.wrap, IntKind.bits, IntKind.signed]; omega
theorem e16 (x : Int) : IntKind.i16.wrap x = (x + 32768) % 65536 - 32768 := by
  simp [IntKind.wrap, IntKind.bits, IntKind.signed]; omega
theorem w8 {x : Int} (h1 : -128 ≤ x) (h2 : x ≤ 127) : IntKind.i8.wrap x = x := by
  rw [e8]; omega
theorem w16 {x : Int} (h1 : -32768 ≤ x) (h2 : x ≤ 32767) : IntKind.i16.wrap x = x := by
  rw [e16]; omega
theorem e32 (x : Int) : wrap32 x = (x + 2147483648) % 4294967296 - 2147483648 := rfl
theorem e64 (x : Int) : wrap64 x = (x + 9223372036854775808) % 18446744073709551616 - 9223372036854775808 := rfl
theorem abs_neg {a : Int} (h : a < 0) : -(a + 1) + 1 = absZ a := by unfold absZ; omega
theorem abs_pos {a : Int} (h : 0 ≤ a) : a = absZ a := by unfold absZ; omega
/-- The greatest number of 64 bits, halved j times. -/
def hiZ : Nat → Int
  | 0 => 9223372036854775807
  | j + 1 => hiZ j / 2
theorem hiZ_bd (j : Nat) : 0 ≤ hiZ j ∧ hiZ j ≤ 9223372036854775807 := by
  induction j with
  | zero => simp [hiZ]
  | succ j ih => rw [hiZ]; omega
theorem hi8 : hiZ 56 = 127 := by decide
theorem hi16 : hiZ 48 = 32767 := by decide
theorem hi32 : hiZ 32 = 2147483647 := by decide
theorem hi64 : hiZ 0 = 9223372036854775807 := by decide
end Go.Proofs.YthjiiljglgmkpaaGreatDoor.Nm
