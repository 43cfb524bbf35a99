/- Plain arithmetic for the calls of package whole: products that wrap round, greatest common divisors. Nothing of the program in it. -/
import Derived.Test.YteegbhnfkcbnoaaDoorNums
namespace Go.Proofs.YteegbhnfkcbnoaaDoor.Nm
open Go.RowKit (wrap32 wrap64)

theorem sgn_mul (a b : Int) (ha : a ≠ 0) (hb : b ≠ 0) : decide (a * b < 0) = (decide (a < 0) != decide (b < 0)) := by
  rcases Int.lt_or_gt_of_ne ha with h1 | h1 <;> rcases Int.lt_or_gt_of_ne hb with h2 | h2
  · have := Int.mul_pos_of_neg_of_neg h1 h2
    simp [h1, h2]; omega
  · have := Int.mul_neg_of_neg_of_pos h1 h2
    have h3 : ¬ b < 0 := by omega
    simp [h1, h3, this]
  · have := Int.mul_neg_of_pos_of_neg h1 h2
    have h3 : ¬ a < 0 := by omega
    simp [h2, h3, this]
  · have := Int.mul_pos h1 h2
    have h3 : ¬ a < 0 := by omega
    have h4 : ¬ b < 0 := by omega
    simp [h3, h4]; omega
theorem sv_mul (a b : Int) (s : Bool) (hs : s = (decide (a < 0) != decide (b < 0))) : sv (absZ a * absZ b) s = a * b := by
  subst hs
  unfold sv absZ
  rw [← Int.natCast_mul, ← Int.natAbs_mul]
  by_cases ha : a = 0
  · subst ha; simp
  · by_cases hb : b = 0
    · subst hb; simp
    · rw [← sgn_mul a b ha hb]
      by_cases h : a * b < 0
      · simp only [h, decide_true, if_true]; omega
      · simp only [h, decide_false]; simp; omega
theorem tmod_abs (p b : Int) (hb : b ≠ 0) : (p.tmod b).natAbs < b.natAbs := by
  rw [Int.natAbs_tmod]
  exact Nat.mod_lt _ (by omega)
theorem tdiv_abs (p b : Int) : (p.tdiv b).natAbs = p.natAbs / b.natAbs := by
  rw [Int.natAbs_tdiv]; rfl

theorem mulp8 (x : Int) : ∃ p k : Int, IntKind.i8.wrap x = p ∧ x = p + 256 * k ∧ -128 ≤ p ∧ p ≤ 127 := by
  refine ⟨_, (x + 128) / 256, rfl, ?_, ?_, ?_⟩ <;> rw [e8] <;> omega
theorem mul_in8 {a b p q k : Int} (ha : a ≠ 0) (hb : b ≠ 0) (h1 : -128 ≤ a) (h2 : a ≤ 127) (hk : a * b = p + 256 * k) (p1 : -128 ≤ p) (p2 : p ≤ 127) (hq : IntKind.i8.wrap (p.tdiv b) = q)
    (r1 : -128 ≤ a * b) (r2 : a * b ≤ 127) : p = a * b ∧ q = a ∧ decide (p < 0) = (decide (a < 0) != decide (b < 0)) := by
  have hp : p = a * b := by omega
  refine ⟨hp, ?_, by rw [hp]; exact sgn_mul a b ha hb⟩
  rw [hp, Int.mul_tdiv_cancel a hb] at hq
  rw [← hq]
  exact w8 h1 h2
theorem mul_out8 {a b p q k : Int} (ha : a ≠ 0) (hb : b ≠ 0) (h1 : -128 ≤ a) (h2 : a ≤ 127) (h3 : -128 ≤ b) (h4 : b ≤ 127) (hk : a * b = p + 256 * k) (p1 : -128 ≤ p) (p2 : p ≤ 127) (hq : IntKind.i8.wrap (p.tdiv b) = q)
    (hs : decide (p < 0) = (decide (a < 0) != decide (b < 0))) (hqa : q = a) : -128 ≤ a * b ∧ a * b ≤ 127 := by
  have t1 := Int.mul_tdiv_add_tmod p b
  have t2 := tmod_abs p b hb
  have t3 := tdiv_abs p b
  have t4 : p.natAbs / b.natAbs ≤ p.natAbs := Nat.div_le_self _ _
  by_cases hc : p.tdiv b = 128
  · rw [hc] at hq t1 t3
    rw [e8] at hq
    have hb2 : b.natAbs < 2 := by
      apply Classical.byContradiction
      intro hn
      have : p.natAbs / b.natAbs ≤ p.natAbs / 2 := Nat.div_le_div_left (by omega) (by omega)
      omega
    have hb1 : b = 1 ∨ b = -1 := by omega
    rcases hb1 with hb1 | hb1
    · subst hb1; omega
    · subst hb1
      have ha' : a = -128 := by omega
      have hp' : p = -128 := by omega
      subst ha' hp'
      simp at hs
  · have hq' : p.tdiv b = q := by rw [← hq]; exact (w8 (by omega) (by omega)).symm
    rw [hq', hqa] at t1
    have : b * a = a * b := Int.mul_comm b a
    omega

theorem mulp16 (x : Int) : ∃ p k : Int, IntKind.i16.wrap x = p ∧ x = p + 65536 * k ∧ -32768 ≤ p ∧ p ≤ 32767 := by
  refine ⟨_, (x + 32768) / 65536, rfl, ?_, ?_, ?_⟩ <;> rw [e16] <;> omega
theorem mul_in16 {a b p q k : Int} (ha : a ≠ 0) (hb : b ≠ 0) (h1 : -32768 ≤ a) (h2 : a ≤ 32767) (hk : a * b = p + 65536 * k) (p1 : -32768 ≤ p) (p2 : p ≤ 32767) (hq : IntKind.i16.wrap (p.tdiv b) = q)
    (r1 : -32768 ≤ a * b) (r2 : a * b ≤ 32767) : p = a * b ∧ q = a ∧ decide (p < 0) = (decide (a < 0) != decide (b < 0)) := by
  have hp : p = a * b := by omega
  refine ⟨hp, ?_, by rw [hp]; exact sgn_mul a b ha hb⟩
  rw [hp, Int.mul_tdiv_cancel a hb] at hq
  rw [← hq]
  exact w16 h1 h2
theorem mul_out16 {a b p q k : Int} (ha : a ≠ 0) (hb : b ≠ 0) (h1 : -32768 ≤ a) (h2 : a ≤ 32767) (h3 : -32768 ≤ b) (h4 : b ≤ 32767) (hk : a * b = p + 65536 * k) (p1 : -32768 ≤ p) (p2 : p ≤ 32767) (hq : IntKind.i16.wrap (p.tdiv b) = q)
    (hs : decide (p < 0) = (decide (a < 0) != decide (b < 0))) (hqa : q = a) : -32768 ≤ a * b ∧ a * b ≤ 32767 := by
  have t1 := Int.mul_tdiv_add_tmod p b
  have t2 := tmod_abs p b hb
  have t3 := tdiv_abs p b
  have t4 : p.natAbs / b.natAbs ≤ p.natAbs := Nat.div_le_self _ _
  by_cases hc : p.tdiv b = 32768
  · rw [hc] at hq t1 t3
    rw [e16] at hq
    have hb2 : b.natAbs < 2 := by
      apply Classical.byContradiction
      intro hn
      have : p.natAbs / b.natAbs ≤ p.natAbs / 2 := Nat.div_le_div_left (by omega) (by omega)
      omega
    have hb1 : b = 1 ∨ b = -1 := by omega
    rcases hb1 with hb1 | hb1
    · subst hb1; omega
    · subst hb1
      have ha' : a = -32768 := by omega
      have hp' : p = -32768 := by omega
      subst ha' hp'
      simp at hs
  · have hq' : p.tdiv b = q := by rw [← hq]; exact (w16 (by omega) (by omega)).symm
    rw [hq', hqa] at t1
    have : b * a = a * b := Int.mul_comm b a
    omega

theorem mulp32 (x : Int) : ∃ p k : Int, wrap32 x = p ∧ x = p + 4294967296 * k ∧ -2147483648 ≤ p ∧ p ≤ 2147483647 := by
  refine ⟨_, (x + 2147483648) / 4294967296, rfl, ?_, ?_, ?_⟩ <;> rw [e32] <;> omega
theorem mul_in32 {a b p q k : Int} (ha : a ≠ 0) (hb : b ≠ 0) (h1 : -2147483648 ≤ a) (h2 : a ≤ 2147483647) (hk : a * b = p + 4294967296 * k) (p1 : -2147483648 ≤ p) (p2 : p ≤ 2147483647) (hq : wrap32 (p.tdiv b) = q)
    (r1 : -2147483648 ≤ a * b) (r2 : a * b ≤ 2147483647) : p = a * b ∧ q = a ∧ decide (p < 0) = (decide (a < 0) != decide (b < 0)) := by
  have hp : p = a * b := by omega
  refine ⟨hp, ?_, by rw [hp]; exact sgn_mul a b ha hb⟩
  rw [hp, Int.mul_tdiv_cancel a hb] at hq
  rw [← hq]
  exact w32 h1 h2
theorem mul_out32 {a b p q k : Int} (ha : a ≠ 0) (hb : b ≠ 0) (h1 : -2147483648 ≤ a) (h2 : a ≤ 2147483647) (h3 : -2147483648 ≤ b) (h4 : b ≤ 2147483647) (hk : a * b = p + 4294967296 * k) (p1 : -2147483648 ≤ p) (p2 : p ≤ 2147483647) (hq : wrap32 (p.tdiv b) = q)
    (hs : decide (p < 0) = (decide (a < 0) != decide (b < 0))) (hqa : q = a) : -2147483648 ≤ a * b ∧ a * b ≤ 2147483647 := by
  have t1 := Int.mul_tdiv_add_tmod p b
  have t2 := tmod_abs p b hb
  have t3 := tdiv_abs p b
  have t4 : p.natAbs / b.natAbs ≤ p.natAbs := Nat.div_le_self _ _
  by_cases hc : p.tdiv b = 2147483648
  · rw [hc] at hq t1 t3
    rw [e32] at hq
    have hb2 : b.natAbs < 2 := by
      apply Classical.byContradiction
      intro hn
      have : p.natAbs / b.natAbs ≤ p.natAbs / 2 := Nat.div_le_div_left (by omega) (by omega)
      omega
    have hb1 : b = 1 ∨ b = -1 := by omega
    rcases hb1 with hb1 | hb1
    · subst hb1; omega
    · subst hb1
      have ha' : a = -2147483648 := by omega
      have hp' : p = -2147483648 := by omega
      subst ha' hp'
      simp at hs
  · have hq' : p.tdiv b = q := by rw [← hq]; exact (w32 (by omega) (by omega)).symm
    rw [hq', hqa] at t1
    have : b * a = a * b := Int.mul_comm b a
    omega

theorem mulp64 (x : Int) : ∃ p k : Int, wrap64 x = p ∧ x = p + 18446744073709551616 * k ∧ -9223372036854775808 ≤ p ∧ p ≤ 9223372036854775807 := by
  refine ⟨_, (x + 9223372036854775808) / 18446744073709551616, rfl, ?_, ?_, ?_⟩ <;> rw [e64] <;> omega
theorem mul_in64 {a b p q k : Int} (ha : a ≠ 0) (hb : b ≠ 0) (h1 : -9223372036854775808 ≤ a) (h2 : a ≤ 9223372036854775807) (hk : a * b = p + 18446744073709551616 * k) (p1 : -9223372036854775808 ≤ p) (p2 : p ≤ 9223372036854775807) (hq : wrap64 (p.tdiv b) = q)
    (r1 : -9223372036854775808 ≤ a * b) (r2 : a * b ≤ 9223372036854775807) : p = a * b ∧ q = a ∧ decide (p < 0) = (decide (a < 0) != decide (b < 0)) := by
  have hp : p = a * b := by omega
  refine ⟨hp, ?_, by rw [hp]; exact sgn_mul a b ha hb⟩
  rw [hp, Int.mul_tdiv_cancel a hb] at hq
  rw [← hq]
  exact w64 h1 h2
theorem mul_out64 {a b p q k : Int} (ha : a ≠ 0) (hb : b ≠ 0) (h1 : -9223372036854775808 ≤ a) (h2 : a ≤ 9223372036854775807) (h3 : -9223372036854775808 ≤ b) (h4 : b ≤ 9223372036854775807) (hk : a * b = p + 18446744073709551616 * k) (p1 : -9223372036854775808 ≤ p) (p2 : p ≤ 9223372036854775807) (hq : wrap64 (p.tdiv b) = q)
    (hs : decide (p < 0) = (decide (a < 0) != decide (b < 0))) (hqa : q = a) : -9223372036854775808 ≤ a * b ∧ a * b ≤ 9223372036854775807 := by
  have t1 := Int.mul_tdiv_add_tmod p b
  have t2 := tmod_abs p b hb
  have t3 := tdiv_abs p b
  have t4 : p.natAbs / b.natAbs ≤ p.natAbs := Nat.div_le_self _ _
  by_cases hc : p.tdiv b = 9223372036854775808
  · rw [hc] at hq t1 t3
    rw [e64] at hq
    have hb2 : b.natAbs < 2 := by
      apply Classical.byContradiction
      intro hn
      have : p.natAbs / b.natAbs ≤ p.natAbs / 2 := Nat.div_le_div_left (by omega) (by omega)
      omega
    have hb1 : b = 1 ∨ b = -1 := by omega
    rcases hb1 with hb1 | hb1
    · subst hb1; omega
    · subst hb1
      have ha' : a = -9223372036854775808 := by omega
      have hp' : p = -9223372036854775808 := by omega
      subst ha' hp'
      simp at hs
  · have hq' : p.tdiv b = q := by rw [← hq]; exact (w64 (by omega) (by omega)).symm
    rw [hq', hqa] at t1
    have : b * a = a * b := Int.mul_comm b a
    omega

theorem mul_big {a b : Int} (hx : 0 < absZ a) (h : 9223372036854775808 / absZ a < absZ b) : ¬ (-9223372036854775808 ≤ a * b ∧ a * b ≤ 9223372036854775807) := by
  have h1 := (Int.ediv_lt_iff_lt_mul hx).1 h
  have h2 : absZ b * absZ a = ((a * b).natAbs : Int) := by unfold absZ; rw [← Int.natCast_mul, ← Int.natAbs_mul, Int.mul_comm]
  rw [h2] at h1
  omega
theorem mul_small {a b : Int} (hx : 0 < absZ a) (h : ¬ 9223372036854775808 / absZ a < absZ b) : absZ a * absZ b ≤ 9223372036854775808 := by
  have h1 : ¬ 9223372036854775808 < absZ b * absZ a := fun hc => h ((Int.ediv_lt_iff_lt_mul hx).2 hc)
  rw [Int.mul_comm]
  omega
theorem absZ_nn (a : Int) : 0 ≤ absZ a := by unfold absZ; omega
theorem absZ_le (a : Int) (h1 : -9223372036854775808 ≤ a) (h2 : a ≤ 9223372036854775807) : absZ a ≤ 9223372036854775808 := by unfold absZ; omega
theorem absZ_mul_nn (a b : Int) : 0 ≤ absZ a * absZ b := Int.mul_nonneg (absZ_nn a) (absZ_nn b)
theorem absZ_zero {a : Int} (h : ¬ 0 < absZ a) : a = 0 := by unfold absZ at h; omega

def negZ (a : Int) : Int := -(absZ a)
theorem negZ_pos {a : Int} (h : 0 < a) : -a = negZ a := by unfold negZ absZ; omega
theorem negZ_not {a : Int} (h : ¬ 0 < a) : a = negZ a := by unfold negZ absZ; omega
theorem gcdZ_negZ (a b : Int) : gcdZ (negZ a) (negZ b) = gcdZ a b := by
  unfold gcdZ negZ absZ Int.gcd
  simp
theorem gcdZ_step {x y : Int} : gcdZ y (x.tmod y) = gcdZ x y := by
  unfold gcdZ Int.gcd
  rw [Int.natAbs_tmod, Nat.gcd_comm, ← Nat.gcd_rec, Nat.gcd_comm]
theorem gcdZ_zero {x : Int} (hx : x ≤ 0) : gcdZ x 0 = -x := by
  unfold gcdZ Int.gcd
  simp; omega
theorem tmod_neg {x y : Int} (hx : x ≤ 0) (hy : y ≠ 0) : x.tmod y ≤ 0 ∧ (x.tmod y).natAbs < y.natAbs := by
  refine ⟨?_, tmod_abs x y hy⟩
  have := Int.tmod_nonneg y (show 0 ≤ -x by omega)
  rw [Int.neg_tmod] at this
  omega
theorem gcdZ_abs (a b : Int) : gcdZ (absZ a) (absZ b) = gcdZ a b := by
  unfold gcdZ absZ Int.gcd
  simp
theorem gcdZ_mod {x y : Int} (hx : 0 ≤ x) : gcdZ y (x % y) = gcdZ x y := by
  rw [← Int.tmod_eq_emod_of_nonneg hx]
  exact gcdZ_step
theorem gcdZ_zeroU {x : Int} (hx : 0 ≤ x) : gcdZ x 0 = x := by
  unfold gcdZ Int.gcd
  simp; omega

end Go.Proofs.YteegbhnfkcbnoaaDoor.Nm