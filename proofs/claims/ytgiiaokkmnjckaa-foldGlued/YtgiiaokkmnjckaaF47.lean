/- The statements' own near, tile and glued. -/
import Derived.Test.YtgiiaokkmnjckaaF9
namespace Go.Proofs.Ytgiiaokkmnjckaa
open Go.RowKit
open Fl
set_option linter.unusedVariables false
set_option linter.unusedSimpArgs false
set_option maxRecDepth 100000

theorem nearLC (n m : Int) (h0 : 0 ≤ m) (h1 : m ≤ 1099511627776) (w : World) : Calls Try.prog 22 #[.int .i64 n, .int .i64 m] w fun e w' => e = .returned (.int .i64 (n.tmod (m + 1))) ∧ w' = w := by
  have wm : IntKind.i64.wrap (m + 1) = m + 1 := by rw [IntKind.wrap_i64]; omega
  have hne : ¬ m + 1 = 0 := by omega
  go_enter Try.func22, Try.ntmps22
  go_wp2
  go_ret
  exact ⟨rfl, rfl⟩
theorem tile_dn {u n : Int} (hn : 1 ≤ n) : (n - 1 - u) / n = -(u / n) := by
  have h1 := Int.emod_add_mul_ediv u n
  have h2 := Int.emod_nonneg u (show n ≠ 0 by omega)
  have h3 := Int.emod_lt_of_pos u (show 0 < n by omega)
  have e : n - 1 - u = (n - 1 - u % n) + n * (-(u / n)) := by rw [Int.mul_neg]; omega
  rw [e, Int.add_mul_ediv_left _ _ (by omega), Int.ediv_eq_zero_of_lt (by omega) (by omega)]
  omega
theorem div_in {u n : Int} (hn : 1 ≤ n) (l : -2199023255552 ≤ u) (m : u ≤ 2199023255552) : -2199023255552 ≤ u / n ∧ u / n ≤ 2199023255552 := by
  constructor
  · exact Int.le_ediv_of_mul_le (by omega) (by have := Int.mul_le_mul_of_nonneg_left hn (show (0 : Int) ≤ 2199023255552 by omega); omega)
  · exact Int.ediv_le_of_le_mul (by omega) (by have := Int.mul_le_mul_of_nonneg_left hn (show (0 : Int) ≤ 2199023255552 by omega); omega)
set_option maxHeartbeats 1000000 in
theorem tileLC (u n : Int) (h0 : 0 ≤ n) (h1 : n ≤ 65536) (l : -2199023255552 ≤ u) (m : u ≤ 2199023255552) (w : World) : Calls Try.prog 26 #[.int .i64 u, .int .i64 n] w fun e w' => e = .returned (.int .i64 (Nm.divZ u n)) ∧ w' = w := by
  by_cases hn : n = 0
  · subst hn
    go_enter Try.func26, Try.ntmps26
    go_wp2
    go_ret
    exact ⟨rfl, rfl⟩
  · have hb := div_in (u := u) (n := n) (by omega) l m
    have e0 : Hid (Nm.divZ u n = u / n) := by unfold Hid Nm.divZ; rw [if_neg (by omega)]
    have hn' : (n == 0) = false := by simpa using hn
    by_cases hu : u < 0
    · have e1 : (n - 1 - u).tdiv n = -(u / n) := by rw [Int.tdiv_eq_ediv_of_nonneg (by omega)]; exact tile_dn (by omega)
      have w1 : IntKind.i64.wrap ((n - 1 - u).tdiv n) = -(u / n) := by rw [e1, IntKind.wrap_i64]; omega
      have w2 : IntKind.i64.wrap (- -(u / n)) = u / n := by rw [IntKind.wrap_i64]; omega
      have E : Hid ((n - 1 - u).tdiv n = -(u / n)) := e1
      clear e1
      go_enter Try.func26, Try.ntmps26
      go_wp2
      go_ret
      refine ⟨?_, rfl⟩
      rw [e0.out]
      first
        | rfl
        | (congr 2; rw [E.out]; simp only [IntKind.wrap_i64] at *; omega)
    · have e1 : u.tdiv n = u / n := Int.tdiv_eq_ediv_of_nonneg (by omega)
      have E : Hid (u.tdiv n = u / n) := e1
      clear e1
      go_enter Try.func26, Try.ntmps26
      go_wp2
      go_ret
      refine ⟨?_, rfl⟩
      rw [e0.out]
      congr 2
set_option maxHeartbeats 1000000 in
theorem gd2 (x y t z : Int)  (hc : ∀ w, Calls Try.prog 51 #[.agg #[.int .u8 2, .int .i64 x, .int .i64 y, .int .u8 t, .int .i64 z]] w fun e w' => e = .returned (.int .i64 0) ∧ w.grownBy w' none) (w : World) : Calls Try.prog 21 #[.agg #[.int .u8 2, .int .i64 x, .int .i64 y, .int .u8 t, .int .i64 z]] w fun e w' => e = .returned (.bool true) ∧ w.grownBy w' none := by
  obtain ⟨W1, hW1, sz1, g1, B1⟩ := boxn w #[.int .u8 2, .int .i64 x, .int .i64 y, .int .u8 t, .int .i64 z] 23
  have b1_1_0 := B1.cell 0 (v := .int .u8 2) rfl
  have b1_1_1 := B1.cell 1 (v := .int .i64 x) rfl
  have b1_1_2 := B1.cell 2 (v := .int .i64 y) rfl
  have b1_1_3 := B1.cell 3 (v := .int .u8 t) rfl
  have b1_1_4 := B1.cell 4 (v := .int .i64 z) rfl
  go_enter Try.func21, Try.ntmps21
  go_wp2_with (first | (go_at_call 51; (fail_if_success (guard_hyp g2)); refine (hc _).mono ?_; rintro e w2 ⟨rfl, g2⟩; have G2 := gb_trans g1 g2; have B1x := B1.kept g2 (by simp); clear b1_1_0 b1_1_1 b1_1_2 b1_1_3 b1_1_4; have b1_2_0 := B1x.cell 0 (v := .int .u8 2) rfl; have b1_2_1 := B1x.cell 1 (v := .int .i64 x) rfl; have b1_2_2 := B1x.cell 2 (v := .int .i64 y) rfl; have b1_2_3 := B1x.cell 3 (v := .int .u8 t) rfl; have b1_2_4 := B1x.cell 4 (v := .int .i64 z) rfl))
  go_ret
  exact ⟨rfl, G2⟩
set_option maxHeartbeats 1000000 in
theorem gd3 (x y t z : Int)  (hc : ∀ w, Calls Try.prog 51 #[.agg #[.int .u8 3, .int .i64 x, .int .i64 y, .int .u8 t, .int .i64 z]] w fun e w' => e = .returned (.int .i64 0) ∧ w.grownBy w' none) (w : World) : Calls Try.prog 21 #[.agg #[.int .u8 3, .int .i64 x, .int .i64 y, .int .u8 t, .int .i64 z]] w fun e w' => e = .returned (.bool true) ∧ w.grownBy w' none := by
  obtain ⟨W1, hW1, sz1, g1, B1⟩ := boxn w #[.int .u8 3, .int .i64 x, .int .i64 y, .int .u8 t, .int .i64 z] 23
  have b1_1_0 := B1.cell 0 (v := .int .u8 3) rfl
  have b1_1_1 := B1.cell 1 (v := .int .i64 x) rfl
  have b1_1_2 := B1.cell 2 (v := .int .i64 y) rfl
  have b1_1_3 := B1.cell 3 (v := .int .u8 t) rfl
  have b1_1_4 := B1.cell 4 (v := .int .i64 z) rfl
  go_enter Try.func21, Try.ntmps21
  go_wp2_with (first | (go_at_call 51; (fail_if_success (guard_hyp g2)); refine (hc _).mono ?_; rintro e w2 ⟨rfl, g2⟩; have G2 := gb_trans g1 g2; have B1x := B1.kept g2 (by simp); clear b1_1_0 b1_1_1 b1_1_2 b1_1_3 b1_1_4; have b1_2_0 := B1x.cell 0 (v := .int .u8 3) rfl; have b1_2_1 := B1x.cell 1 (v := .int .i64 x) rfl; have b1_2_2 := B1x.cell 2 (v := .int .i64 y) rfl; have b1_2_3 := B1x.cell 3 (v := .int .u8 t) rfl; have b1_2_4 := B1x.cell 4 (v := .int .i64 z) rfl))
  go_ret
  exact ⟨rfl, G2⟩
set_option maxHeartbeats 1000000 in
theorem gd4 (x y t z : Int)  (hc : ∀ w, Calls Try.prog 51 #[.agg #[.int .u8 4, .int .i64 x, .int .i64 y, .int .u8 t, .int .i64 z]] w fun e w' => e = .returned (.int .i64 0) ∧ w.grownBy w' none) (w : World) : Calls Try.prog 21 #[.agg #[.int .u8 4, .int .i64 x, .int .i64 y, .int .u8 t, .int .i64 z]] w fun e w' => e = .returned (.bool true) ∧ w.grownBy w' none := by
  obtain ⟨W1, hW1, sz1, g1, B1⟩ := boxn w #[.int .u8 4, .int .i64 x, .int .i64 y, .int .u8 t, .int .i64 z] 23
  have b1_1_0 := B1.cell 0 (v := .int .u8 4) rfl
  have b1_1_1 := B1.cell 1 (v := .int .i64 x) rfl
  have b1_1_2 := B1.cell 2 (v := .int .i64 y) rfl
  have b1_1_3 := B1.cell 3 (v := .int .u8 t) rfl
  have b1_1_4 := B1.cell 4 (v := .int .i64 z) rfl
  go_enter Try.func21, Try.ntmps21
  go_wp2_with (first | (go_at_call 51; (fail_if_success (guard_hyp g2)); refine (hc _).mono ?_; rintro e w2 ⟨rfl, g2⟩; have G2 := gb_trans g1 g2; have B1x := B1.kept g2 (by simp); clear b1_1_0 b1_1_1 b1_1_2 b1_1_3 b1_1_4; have b1_2_0 := B1x.cell 0 (v := .int .u8 4) rfl; have b1_2_1 := B1x.cell 1 (v := .int .i64 x) rfl; have b1_2_2 := B1x.cell 2 (v := .int .i64 y) rfl; have b1_2_3 := B1x.cell 3 (v := .int .u8 t) rfl; have b1_2_4 := B1x.cell 4 (v := .int .i64 z) rfl))
  go_ret
  exact ⟨rfl, G2⟩
set_option maxHeartbeats 1000000 in
theorem gdk (k x y t z : Int) (k2 : (k == 2) = false) (k3 : (k == 3) = false) (k4 : (k == 4) = false) (hc : ∀ w, Calls Try.prog 51 #[.agg #[.int .u8 k, .int .i64 x, .int .i64 y, .int .u8 t, .int .i64 z]] w fun e w' => e = .returned (.int .i64 0) ∧ w.grownBy w' none) (w : World) : Calls Try.prog 21 #[.agg #[.int .u8 k, .int .i64 x, .int .i64 y, .int .u8 t, .int .i64 z]] w fun e w' => e = .returned (.bool false) ∧ w.grownBy w' none := by
  obtain ⟨W1, hW1, sz1, g1, B1⟩ := boxn w #[.int .u8 k, .int .i64 x, .int .i64 y, .int .u8 t, .int .i64 z] 23
  have b1_1_0 := B1.cell 0 (v := .int .u8 k) rfl
  have b1_1_1 := B1.cell 1 (v := .int .i64 x) rfl
  have b1_1_2 := B1.cell 2 (v := .int .i64 y) rfl
  have b1_1_3 := B1.cell 3 (v := .int .u8 t) rfl
  have b1_1_4 := B1.cell 4 (v := .int .i64 z) rfl
  go_enter Try.func21, Try.ntmps21
  go_wp2_with (first | (go_at_call 51; (fail_if_success (guard_hyp g2)); refine (hc _).mono ?_; rintro e w2 ⟨rfl, g2⟩; have G2 := gb_trans g1 g2; have B1x := B1.kept g2 (by simp); clear b1_1_0 b1_1_1 b1_1_2 b1_1_3 b1_1_4; have b1_2_0 := B1x.cell 0 (v := .int .u8 k) rfl; have b1_2_1 := B1x.cell 1 (v := .int .i64 x) rfl; have b1_2_2 := B1x.cell 2 (v := .int .i64 y) rfl; have b1_2_3 := B1x.cell 3 (v := .int .u8 t) rfl; have b1_2_4 := B1x.cell 4 (v := .int .i64 z) rfl))
  go_ret
  exact ⟨rfl, G2⟩
set_option maxHeartbeats 1000000 in
theorem gdE (k x y t z E : Int) (hE : (E == 0) = false) (hc : ∀ w, Calls Try.prog 51 #[.agg #[.int .u8 k, .int .i64 x, .int .i64 y, .int .u8 t, .int .i64 z]] w fun e w' => e = .returned (.int .i64 E) ∧ w.grownBy w' none) (w : World) : Calls Try.prog 21 #[.agg #[.int .u8 k, .int .i64 x, .int .i64 y, .int .u8 t, .int .i64 z]] w fun e w' => e = .returned (.bool false) ∧ w.grownBy w' none := by
  obtain ⟨W1, hW1, sz1, g1, B1⟩ := boxn w #[.int .u8 k, .int .i64 x, .int .i64 y, .int .u8 t, .int .i64 z] 23
  have b1_1_0 := B1.cell 0 (v := .int .u8 k) rfl
  have b1_1_1 := B1.cell 1 (v := .int .i64 x) rfl
  have b1_1_2 := B1.cell 2 (v := .int .i64 y) rfl
  have b1_1_3 := B1.cell 3 (v := .int .u8 t) rfl
  have b1_1_4 := B1.cell 4 (v := .int .i64 z) rfl
  go_enter Try.func21, Try.ntmps21
  go_wp2_with (first | (go_at_call 51; (fail_if_success (guard_hyp g2)); refine (hc _).mono ?_; rintro e w2 ⟨rfl, g2⟩; have G2 := gb_trans g1 g2; have B1x := B1.kept g2 (by simp); clear b1_1_0 b1_1_1 b1_1_2 b1_1_3 b1_1_4; have b1_2_0 := B1x.cell 0 (v := .int .u8 k) rfl; have b1_2_1 := B1x.cell 1 (v := .int .i64 x) rfl; have b1_2_2 := B1x.cell 2 (v := .int .i64 y) rfl; have b1_2_3 := B1x.cell 3 (v := .int .u8 t) rfl; have b1_2_4 := B1x.cell 4 (v := .int .i64 z) rfl))
  go_ret
  exact ⟨rfl, G2⟩
theorem gluedLC (k x y t z : Int) (ht : 0 ≤ t) (w : World) : Calls Try.prog 21 #[.agg #[.int .u8 k, .int .i64 x, .int .i64 y, .int .u8 t, .int .i64 z]] w fun e w' => e = .returned (.bool (decide (Tp.chk k x y t z = 0) && glB k)) ∧ w.grownBy w' none := by
  have hc := fun w => To.checkC k x y t z ht w
  by_cases hE : Tp.chk k x y t z = 0
  · rw [hE] at hc ⊢
    by_cases k2 : k = 2
    · subst k2; exact gd2 x y t z hc w
    · by_cases k3 : k = 3
      · subst k3; exact gd3 x y t z hc w
      · by_cases k4 : k = 4
        · subst k4; exact gd4 x y t z hc w
        · have e : glB k = false := by unfold glB; exact decide_eq_false (by omega)
          rw [e]
          exact gdk k x y t z (by simpa using k2) (by simpa using k3) (by simpa using k4) hc w
  · rw [decide_eq_false hE]
    exact gdE k x y t z _ (by simpa using hE) hc w
end Go.Proofs.Ytgiiaokkmnjckaa
