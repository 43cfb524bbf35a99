/- What the document's smallest functions of layer 6 answer. -/
import Derived.Test.YtjndljjpbkfmiaaGreatDoorF1
import Derived.Test.YtjndljjpbkfmiaaGreatDoorT7
namespace Go.Proofs.YtjndljjpbkfmiaaGreatDoor.Fd
open Go.RowKit
set_option linter.unusedVariables false
set_option linter.unusedSimpArgs false
set_option maxRecDepth 100000

theorem mod_twice {a n : Int} (hn : 1 ≤ n) : (a.tmod n + n).tmod n = a % n := by
  have h1 := Int.mul_tdiv_add_tmod a n
  have h2 := Int.lt_tmod_of_pos a (show (0:Int) < n by omega)
  rw [Int.tmod_eq_emod_of_nonneg (by omega), Int.add_emod_right]
  have h3 : a = a.tmod n + n * a.tdiv n := by omega
  conv => rhs; rw [h3]
  rw [Int.add_mul_emod_self_left]
theorem mod_twice' {a n : Int} (hn : 1 ≤ n) : (a.tmod n + n) % n = a % n := by
  have h2 := Int.lt_tmod_of_pos a (show (0:Int) < n by omega)
  have := mod_twice (a := a) hn
  rw [Int.tmod_eq_emod_of_nonneg (by omega)] at this
  exact this
theorem over_is {a n : Int} (hn : 1 ≤ n) : (a - a % n).tdiv n = a / n := by
  have h1 := Int.mul_ediv_add_emod a n
  rw [show a - a % n = n * (a / n) by omega, Int.mul_tdiv_cancel_left _ (by omega)]

theorem refModC (a n : Int) (h1 : 1 ≤ n) (h2 : n ≤ 65536) (w : World) : Calls Tryz.prog 118 #[.int .i64 a, .int .i64 n] w fun e w' => e = .returned (.int .i64 (a % n)) ∧ w' = w := by
  have HX : Hid ((a.tmod n + n) % n = a % n) := mod_twice' h1
  have hb := Int.lt_tmod_of_pos a (show (0:Int) < n by omega)
  have hc := Int.tmod_lt_of_pos a (show (0:Int) < n by omega)
  have hw : IntKind.i64.wrap (a.tmod n + n) = a.tmod n + n := by rw [IntKind.wrap_i64]; omega
  have hn : ¬ n = 0 := by omega
  go_enter Tryz.func118, Tryz.ntmps118
  go_wp2
  go_ret
  exact ⟨retI HX.out, rfl⟩
theorem refOverC (a n : Int) (h1 : 1 ≤ n) (h2 : n ≤ 65536) (l : -4611686018427387904 ≤ a) (m : a ≤ 4611686018427387904) (w : World) : Calls Tryz.prog 122 #[.int .i64 a, .int .i64 n] w fun e w' => e = .returned (.int .i64 (a / n)) ∧ w' = w := by
  have HX : Hid ((a - a % n).tdiv n = a / n) := over_is h1
  have hb := Int.emod_nonneg a (show n ≠ 0 by omega)
  have hc := Int.emod_lt_of_pos a (show (0:Int) < n by omega)
  have hq := Nm.tdiv_bd (a := a - a % n) (n := n) (l := -9223372036854775808) (h := 9223372036854775807) h1 (by omega) (by omega) (by omega) (by omega)
  have hw : IntKind.i64.wrap (a - a % n) = a - a % n := by rw [IntKind.wrap_i64]; omega
  have hw2 : IntKind.i64.wrap ((a - a % n).tdiv n) = (a - a % n).tdiv n := by rw [IntKind.wrap_i64]; omega
  have hn : ¬ n = 0 := by omega
  have hm := refModC a n h1 h2
  go_enter Tryz.func122, Tryz.ntmps122
  go_wp2_with (first | (go_at_call 118; refine (hm _).mono ?_; rintro e w' ⟨rfl, hw'⟩; subst w'))
  all_goals try (go_quiet (first | (go_at_call 118; refine Calls.quiet_of_same (hm _))); go_wp2)
  go_ret
  exact ⟨retI HX.out, rfl⟩
theorem refTileC (a n : Int) (h1 : 0 ≤ n) (h2 : n ≤ 65536) (l : -4611686018427387904 ≤ a) (m : a ≤ 4611686018427387904) (w : World) : Calls Tryz.prog 116 #[.int .i64 a, .int .i64 n] w fun e w' => e = .returned (.int .i64 (Nm.divZ a n)) ∧ w' = w := by
  cases h0 : (n == 0)
  · have h3 : 1 ≤ n := by have := beq_eq_false_iff_ne.1 h0; omega
    have hm := refOverC a n h3 h2 l m
    have HX : Hid (a / n = Nm.divZ a n) := (Nm.divZ_yes h3).symm
    go_enter Tryz.func116, Tryz.ntmps116
    go_wp2_with (first | (go_at_call 122; refine (hm _).mono ?_; rintro e w' ⟨rfl, hw'⟩; subst w'))
    go_ret
    exact ⟨retI HX.out, rfl⟩
  · have HX : Hid (Nm.divZ a n = 0) := by have := beq_iff_eq.1 h0; exact Nm.divZ_no (by omega)
    go_enter Tryz.func116, Tryz.ntmps116
    go_wp2
    go_ret
    exact ⟨retI HX.out.symm, rfl⟩
theorem refWithinC (a n : Int) (h1 : 0 ≤ n) (h2 : n ≤ 65536) (w : World) : Calls Tryz.prog 117 #[.int .i64 a, .int .i64 n] w fun e w' => e = .returned (.int .i64 (Fo.wi a n)) ∧ w' = w := by
  cases h0 : (n == 0)
  · have h3 : 1 ≤ n := by have := beq_eq_false_iff_ne.1 h0; omega
    have hm := refModC a n h3 h2
    have HX : Hid (a % n = Fo.wi a n) := (Fo.wi_pos h3).symm
    go_enter Tryz.func117, Tryz.ntmps117
    go_wp2_with (first | (go_at_call 118; refine (hm _).mono ?_; rintro e w' ⟨rfl, hw'⟩; subst w'))
    go_ret
    exact ⟨retI HX.out, rfl⟩
  · have HX : Hid (Fo.wi a n = a) := by have := beq_iff_eq.1 h0; subst this; exact Fo.wi_zero a
    go_enter Tryz.func117, Tryz.ntmps117
    go_wp2
    go_ret
    exact ⟨retI HX.out.symm, rfl⟩
theorem refOddC (a : Int) (w : World) : Calls Tryz.prog 119 #[.int .i64 a] w fun e w' => e = .returned (.bool (odB a)) ∧ w' = w := by
  have hm := refModC a 2 (by omega) (by omega)
  have HX : Hid ((a % 2 == 1) = odB a) := by
    unfold Hid odB
    by_cases q : a % 2 = 1
    · rw [decide_eq_true q]; exact beq_iff_eq.2 q
    · rw [decide_eq_false q]; exact beq_eq_false_iff_ne.2 q
  go_enter Tryz.func119, Tryz.ntmps119
  go_wp2_with (first | (go_at_call 118; refine (hm _).mono ?_; rintro e w' ⟨rfl, hw'⟩; subst w'))
  go_ret
  exact ⟨retB HX.out, rfl⟩
theorem refFirstC (n : Int) (h0 : 0 ≤ n) (h1 : n ≤ 65536) (w : World) : Calls Tryz.prog 85 #[.int .i64 n] w fun e w' => e = .returned (.int .i64 (To.fi n)) ∧ w' = w := by
  have h2 := To.half_is h0
  have h3 : IntKind.i64.wrap (-(n / 2)) = -(n / 2) := by rw [IntKind.wrap_i64]; omega
  have h4 : IntKind.i64.wrap (n / 2) = n / 2 := by rw [IntKind.wrap_i64]; omega
  go_enter Tryz.func85, Tryz.ntmps85
  go_wp2
  go_ret
  exact ⟨retI (by first | rfl | (unfold To.fi; omega)), rfl⟩
theorem refNear6 (n : Int) (w : World) : Calls Tryz.prog 104 #[.int .i64 n] w fun e w' => e = .returned (.bool (!To.frB n)) ∧ w' = w := by
  by_cases h1 : -1099511627776 ≤ n <;> by_cases h2 : n ≤ 1099511627776
  all_goals
    go_enter Tryz.func104, Tryz.ntmps104
    go_wp2
    all_goals go_ret
    all_goals refine ⟨retB ?_, rfl⟩
    all_goals unfold To.frB
    all_goals first
      | (rw [decide_eq_false (by omega : ¬ n < -1099511627776), decide_eq_false (by omega : ¬ 1099511627776 < n)]; first | rfl | (simp; omega))
      | (rw [decide_eq_false (by omega : ¬ n < -1099511627776), decide_eq_true (by omega : 1099511627776 < n)]; first | rfl | (simp; omega))
      | (rw [decide_eq_true (by omega : n < -1099511627776)]; first | rfl | (simp; omega))

/-- Is it a kind that is glued? -/
def glB (k : Int) : Bool := decide (k = 2 ∨ k = 3 ∨ k = 4)

theorem refGluedC (k x y t z : Int) (w : World) : Calls Tryz.prog 105 #[.agg #[.int .u8 k, .int .i64 x, .int .i64 y, .int .u8 t, .int .i64 z]] w fun e w' => e = .returned (.bool (glB k)) ∧ w.grownBy w' none := by
  obtain ⟨W1, hW1, sz1, g1, B1⟩ := boxn w #[.int .u8 k, .int .i64 x, .int .i64 y, .int .u8 t, .int .i64 z] 23
  have b1_1_0 := B1.cell 0 (v := .int .u8 k) rfl
  have b1_1_1 := B1.cell 1 (v := .int .i64 x) rfl
  have b1_1_2 := B1.cell 2 (v := .int .i64 y) rfl
  have b1_1_3 := B1.cell 3 (v := .int .u8 t) rfl
  have b1_1_4 := B1.cell 4 (v := .int .i64 z) rfl
  cases h1 : (k == 2) <;> cases h2 : (k == 3) <;> cases h3 : (k == 4)
  all_goals
    have HX : Hid (k = 2 ↔ (k == 2) = true) := beq_iff_eq.symm
    have HY : Hid (k = 3 ↔ (k == 3) = true) := beq_iff_eq.symm
    have HZ : Hid (k = 4 ↔ (k == 4) = true) := beq_iff_eq.symm
    go_enter Tryz.func105, Tryz.ntmps105
    go_wp2
    go_ret
    refine ⟨retB ?_, g1⟩
    unfold glB
    have a1 := HX.out
    have a2 := HY.out
    have a3 := HZ.out
    rw [h1] at a1
    rw [h2] at a2
    rw [h3] at a3
    first | (symm; exact decide_eq_true (by simp only [a1, a2, a3]; simp)) | (symm; exact decide_eq_false (by simp only [a1, a2, a3]; simp))

/-- Does a home number lie on the side, with so many places more at both ends? -/
def inB (u l n : Int) : Bool := decide (l = 0) || (decide (-n ≤ u) && decide (u < l + n))
theorem refInsideC (u l n : Int) (h1 : 0 ≤ l) (h2 : l ≤ 65536) (h3 : 0 ≤ n) (h4 : n ≤ 1) (w : World) : Calls Tryz.prog 86 #[.int .i64 u, .int .i64 l, .int .i64 n] w fun e w' => e = .returned (.bool (inB u l n)) ∧ w' = w := by
  have w1 : IntKind.i64.wrap (-n) = -n := by rw [IntKind.wrap_i64]; omega
  have w2 : IntKind.i64.wrap (l + n) = l + n := by rw [IntKind.wrap_i64]; omega
  cases h0 : (l == 0)
  · have e0 : decide (l = 0) = false := decide_eq_false (beq_eq_false_iff_ne.1 h0)
    by_cases q1 : -n ≤ u <;> by_cases q2 : u < l + n
    all_goals
      go_enter Tryz.func86, Tryz.ntmps86
      go_wp2
      all_goals go_ret
      all_goals refine ⟨retB ?_, rfl⟩
      all_goals unfold inB
      all_goals try rw [h0]
      all_goals rw [e0]
      all_goals first | (rw [decide_eq_true q1, decide_eq_true q2]; done) | (rw [decide_eq_true q1, decide_eq_false (by omega : ¬ u < l + n)]; done) | (rw [decide_eq_false (by omega : ¬ -n ≤ u)]; done) | (rw [decide_eq_true (by omega : -n ≤ u), decide_eq_true (by omega : u < l + n)]; rfl) | (rw [decide_eq_true (by omega : -n ≤ u), decide_eq_false (by omega : ¬ u < l + n)]; rfl) | (rw [decide_eq_false (by omega : ¬ -n ≤ u)]; rfl)
  · have e0 : decide (l = 0) = true := decide_eq_true (beq_iff_eq.1 h0)
    go_enter Tryz.func86, Tryz.ntmps86
    go_wp2
    go_ret
    refine ⟨retB ?_, rfl⟩
    unfold inB
    rw [e0]; rfl
end Go.Proofs.YtjndljjpbkfmiaaGreatDoor.Fd
