/- FoldBeside: what its walk asks for, of every small grid; the walk whole. -/
import Derived.Test.YtgiiaokkmnjckabF61
import Derived.Test.YtgiiaokkmnjckabF60
import Derived.Test.YtgiiaokkmnjckabF9
import Derived.Test.YtgiiaokkmnjckabF17
namespace Go.Proofs.Ytgiiaokkmnjckab
open Go.RowKit
open Fl
set_option linter.unusedVariables false
set_option linter.unusedSimpArgs false
set_option maxRecDepth 100000

set_option maxHeartbeats 1000000 in
theorem gd2 (x y t z : Int)  (hc : ∀ w, Calls Try.prog 6 #[.agg #[.int .u8 2, .int .i64 x, .int .i64 y, .int .u8 t, .int .i64 z]] w fun e w' => e = .returned (.int .i64 0) ∧ w.grownBy w' none) (w : World) : Calls Try.prog 10 #[.agg #[.int .u8 2, .int .i64 x, .int .i64 y, .int .u8 t, .int .i64 z]] w fun e w' => e = .returned (.bool true) ∧ w.grownBy w' none := by
  obtain ⟨W1, hW1, sz1, g1, B1⟩ := boxn w #[.int .u8 2, .int .i64 x, .int .i64 y, .int .u8 t, .int .i64 z] 23
  have b1_1_0 := B1.cell 0 (v := .int .u8 2) rfl
  have b1_1_1 := B1.cell 1 (v := .int .i64 x) rfl
  have b1_1_2 := B1.cell 2 (v := .int .i64 y) rfl
  have b1_1_3 := B1.cell 3 (v := .int .u8 t) rfl
  have b1_1_4 := B1.cell 4 (v := .int .i64 z) rfl
  go_enter Try.func10, Try.ntmps10
  go_wp2_with (first | (go_at_call 6; (fail_if_success (guard_hyp g2)); refine (hc _).mono ?_; rintro e w2 ⟨rfl, g2⟩; have G2 := gb_trans g1 g2; have B1x := B1.kept g2 (by simp); clear b1_1_0 b1_1_1 b1_1_2 b1_1_3 b1_1_4; have b1_2_0 := B1x.cell 0 (v := .int .u8 2) rfl; have b1_2_1 := B1x.cell 1 (v := .int .i64 x) rfl; have b1_2_2 := B1x.cell 2 (v := .int .i64 y) rfl; have b1_2_3 := B1x.cell 3 (v := .int .u8 t) rfl; have b1_2_4 := B1x.cell 4 (v := .int .i64 z) rfl))
  go_ret
  exact ⟨rfl, G2⟩
set_option maxHeartbeats 1000000 in
theorem gd3 (x y t z : Int)  (hc : ∀ w, Calls Try.prog 6 #[.agg #[.int .u8 3, .int .i64 x, .int .i64 y, .int .u8 t, .int .i64 z]] w fun e w' => e = .returned (.int .i64 0) ∧ w.grownBy w' none) (w : World) : Calls Try.prog 10 #[.agg #[.int .u8 3, .int .i64 x, .int .i64 y, .int .u8 t, .int .i64 z]] w fun e w' => e = .returned (.bool true) ∧ w.grownBy w' none := by
  obtain ⟨W1, hW1, sz1, g1, B1⟩ := boxn w #[.int .u8 3, .int .i64 x, .int .i64 y, .int .u8 t, .int .i64 z] 23
  have b1_1_0 := B1.cell 0 (v := .int .u8 3) rfl
  have b1_1_1 := B1.cell 1 (v := .int .i64 x) rfl
  have b1_1_2 := B1.cell 2 (v := .int .i64 y) rfl
  have b1_1_3 := B1.cell 3 (v := .int .u8 t) rfl
  have b1_1_4 := B1.cell 4 (v := .int .i64 z) rfl
  go_enter Try.func10, Try.ntmps10
  go_wp2_with (first | (go_at_call 6; (fail_if_success (guard_hyp g2)); refine (hc _).mono ?_; rintro e w2 ⟨rfl, g2⟩; have G2 := gb_trans g1 g2; have B1x := B1.kept g2 (by simp); clear b1_1_0 b1_1_1 b1_1_2 b1_1_3 b1_1_4; have b1_2_0 := B1x.cell 0 (v := .int .u8 3) rfl; have b1_2_1 := B1x.cell 1 (v := .int .i64 x) rfl; have b1_2_2 := B1x.cell 2 (v := .int .i64 y) rfl; have b1_2_3 := B1x.cell 3 (v := .int .u8 t) rfl; have b1_2_4 := B1x.cell 4 (v := .int .i64 z) rfl))
  go_ret
  exact ⟨rfl, G2⟩
set_option maxHeartbeats 1000000 in
theorem gd4 (x y t z : Int)  (hc : ∀ w, Calls Try.prog 6 #[.agg #[.int .u8 4, .int .i64 x, .int .i64 y, .int .u8 t, .int .i64 z]] w fun e w' => e = .returned (.int .i64 0) ∧ w.grownBy w' none) (w : World) : Calls Try.prog 10 #[.agg #[.int .u8 4, .int .i64 x, .int .i64 y, .int .u8 t, .int .i64 z]] w fun e w' => e = .returned (.bool true) ∧ w.grownBy w' none := by
  obtain ⟨W1, hW1, sz1, g1, B1⟩ := boxn w #[.int .u8 4, .int .i64 x, .int .i64 y, .int .u8 t, .int .i64 z] 23
  have b1_1_0 := B1.cell 0 (v := .int .u8 4) rfl
  have b1_1_1 := B1.cell 1 (v := .int .i64 x) rfl
  have b1_1_2 := B1.cell 2 (v := .int .i64 y) rfl
  have b1_1_3 := B1.cell 3 (v := .int .u8 t) rfl
  have b1_1_4 := B1.cell 4 (v := .int .i64 z) rfl
  go_enter Try.func10, Try.ntmps10
  go_wp2_with (first | (go_at_call 6; (fail_if_success (guard_hyp g2)); refine (hc _).mono ?_; rintro e w2 ⟨rfl, g2⟩; have G2 := gb_trans g1 g2; have B1x := B1.kept g2 (by simp); clear b1_1_0 b1_1_1 b1_1_2 b1_1_3 b1_1_4; have b1_2_0 := B1x.cell 0 (v := .int .u8 4) rfl; have b1_2_1 := B1x.cell 1 (v := .int .i64 x) rfl; have b1_2_2 := B1x.cell 2 (v := .int .i64 y) rfl; have b1_2_3 := B1x.cell 3 (v := .int .u8 t) rfl; have b1_2_4 := B1x.cell 4 (v := .int .i64 z) rfl))
  go_ret
  exact ⟨rfl, G2⟩
set_option maxHeartbeats 1000000 in
theorem gdk (k x y t z : Int) (k2 : (k == 2) = false) (k3 : (k == 3) = false) (k4 : (k == 4) = false) (hc : ∀ w, Calls Try.prog 6 #[.agg #[.int .u8 k, .int .i64 x, .int .i64 y, .int .u8 t, .int .i64 z]] w fun e w' => e = .returned (.int .i64 0) ∧ w.grownBy w' none) (w : World) : Calls Try.prog 10 #[.agg #[.int .u8 k, .int .i64 x, .int .i64 y, .int .u8 t, .int .i64 z]] w fun e w' => e = .returned (.bool false) ∧ w.grownBy w' none := by
  obtain ⟨W1, hW1, sz1, g1, B1⟩ := boxn w #[.int .u8 k, .int .i64 x, .int .i64 y, .int .u8 t, .int .i64 z] 23
  have b1_1_0 := B1.cell 0 (v := .int .u8 k) rfl
  have b1_1_1 := B1.cell 1 (v := .int .i64 x) rfl
  have b1_1_2 := B1.cell 2 (v := .int .i64 y) rfl
  have b1_1_3 := B1.cell 3 (v := .int .u8 t) rfl
  have b1_1_4 := B1.cell 4 (v := .int .i64 z) rfl
  go_enter Try.func10, Try.ntmps10
  go_wp2_with (first | (go_at_call 6; (fail_if_success (guard_hyp g2)); refine (hc _).mono ?_; rintro e w2 ⟨rfl, g2⟩; have G2 := gb_trans g1 g2; have B1x := B1.kept g2 (by simp); clear b1_1_0 b1_1_1 b1_1_2 b1_1_3 b1_1_4; have b1_2_0 := B1x.cell 0 (v := .int .u8 k) rfl; have b1_2_1 := B1x.cell 1 (v := .int .i64 x) rfl; have b1_2_2 := B1x.cell 2 (v := .int .i64 y) rfl; have b1_2_3 := B1x.cell 3 (v := .int .u8 t) rfl; have b1_2_4 := B1x.cell 4 (v := .int .i64 z) rfl))
  go_ret
  exact ⟨rfl, G2⟩
set_option maxHeartbeats 1000000 in
theorem gdE (k x y t z E : Int) (hE : (E == 0) = false) (hc : ∀ w, Calls Try.prog 6 #[.agg #[.int .u8 k, .int .i64 x, .int .i64 y, .int .u8 t, .int .i64 z]] w fun e w' => e = .returned (.int .i64 E) ∧ w.grownBy w' none) (w : World) : Calls Try.prog 10 #[.agg #[.int .u8 k, .int .i64 x, .int .i64 y, .int .u8 t, .int .i64 z]] w fun e w' => e = .returned (.bool false) ∧ w.grownBy w' none := by
  obtain ⟨W1, hW1, sz1, g1, B1⟩ := boxn w #[.int .u8 k, .int .i64 x, .int .i64 y, .int .u8 t, .int .i64 z] 23
  have b1_1_0 := B1.cell 0 (v := .int .u8 k) rfl
  have b1_1_1 := B1.cell 1 (v := .int .i64 x) rfl
  have b1_1_2 := B1.cell 2 (v := .int .i64 y) rfl
  have b1_1_3 := B1.cell 3 (v := .int .u8 t) rfl
  have b1_1_4 := B1.cell 4 (v := .int .i64 z) rfl
  go_enter Try.func10, Try.ntmps10
  go_wp2_with (first | (go_at_call 6; (fail_if_success (guard_hyp g2)); refine (hc _).mono ?_; rintro e w2 ⟨rfl, g2⟩; have G2 := gb_trans g1 g2; have B1x := B1.kept g2 (by simp); clear b1_1_0 b1_1_1 b1_1_2 b1_1_3 b1_1_4; have b1_2_0 := B1x.cell 0 (v := .int .u8 k) rfl; have b1_2_1 := B1x.cell 1 (v := .int .i64 x) rfl; have b1_2_2 := B1x.cell 2 (v := .int .i64 y) rfl; have b1_2_3 := B1x.cell 3 (v := .int .u8 t) rfl; have b1_2_4 := B1x.cell 4 (v := .int .i64 z) rfl))
  go_ret
  exact ⟨rfl, G2⟩
theorem gluedLC (k x y t z : Int) (ht : 0 ≤ t) (w : World) : Calls Try.prog 10 #[.agg #[.int .u8 k, .int .i64 x, .int .i64 y, .int .u8 t, .int .i64 z]] w fun e w' => e = .returned (.bool (decide (Tp.chk k x y t z = 0) && glB k)) ∧ w.grownBy w' none := by
  have hc := fun w => To.checkC k x y t z ht w
  by_cases hE : Tp.chk k x y t z = 0
  · rw [hE] at hc ⊢
    by_cases k2 : k = 2
    · subst k2; exact gd2 x y t z hc w
    · by_cases k3 : k = 3
      · subst k3; exact gd3 x y t z hc w
      · by_cases k4 : k = 4
        · subst k4; exact gd4 x y t z hc w
        · have e : glB k = false := by unfold glB; exact decide_eq_false (by omega)
          rw [e]
          exact gdk k x y t z (by simpa using k2) (by simpa using k3) (by simpa using k4) hc w
  · rw [decide_eq_false hE]
    exact gdE k x y t z _ (by simpa using hE) hc w
theorem besE (k x y t z : Int) (E : Int) (hE : (E != 0) = true) (ck : ∀ w, Calls Try.prog 6 #[.agg #[.int .u8 k, .int .i64 x, .int .i64 y, .int .u8 t, .int .i64 z]] w fun e w' => e = .returned (.int .i64 E) ∧ w.grownBy w' none) (w : World) : Calls Try.prog 3 #[.agg #[.int .u8 k, .int .i64 x, .int .i64 y, .int .u8 t, .int .i64 z]] w fun e w' => e = .returned (.bool true) ∧ w.grownBy w' none := by
  obtain ⟨W1, hW1, sz1, g1, B1⟩ := boxn w #[.int .u8 k, .int .i64 x, .int .i64 y, .int .u8 t, .int .i64 z] 23
  have b1_1_0 := B1.cell 0 (v := .int .u8 k) rfl
  have b1_1_1 := B1.cell 1 (v := .int .i64 x) rfl
  have b1_1_2 := B1.cell 2 (v := .int .i64 y) rfl
  have b1_1_3 := B1.cell 3 (v := .int .u8 t) rfl
  have b1_1_4 := B1.cell 4 (v := .int .i64 z) rfl
  go_enter Try.func3, Try.ntmps3
  go_wp2_with (first | (go_at_call 5; (fail_if_success (guard_hyp g2)); refine (awakeC _).mono ?_; rintro e w2 ⟨rfl, g2⟩; have G2 := gb_trans g1 g2; have B1x := B1.kept g2 (by simp); clear b1_1_0 b1_1_1 b1_1_2 b1_1_3 b1_1_4; have b1_2_0 := B1x.cell 0 (v := .int .u8 k) rfl; have b1_2_1 := B1x.cell 1 (v := .int .i64 x) rfl; have b1_2_2 := B1x.cell 2 (v := .int .i64 y) rfl; have b1_2_3 := B1x.cell 3 (v := .int .u8 t) rfl; have b1_2_4 := B1x.cell 4 (v := .int .i64 z) rfl) | (go_at_call 6; (fail_if_success (guard_hyp g3)); refine (ck _).mono ?_; rintro e w3 ⟨rfl, g3⟩; have G3 := gb_trans G2 g3; have B1xx := B1x.kept g3 (by simp); clear b1_2_0 b1_2_1 b1_2_2 b1_2_3 b1_2_4; have b1_3_0 := B1xx.cell 0 (v := .int .u8 k) rfl; have b1_3_1 := B1xx.cell 1 (v := .int .i64 x) rfl; have b1_3_2 := B1xx.cell 2 (v := .int .i64 y) rfl; have b1_3_3 := B1xx.cell 3 (v := .int .u8 t) rfl; have b1_3_4 := B1xx.cell 4 (v := .int .i64 z) rfl))
  go_ret
  exact ⟨rfl, G3⟩
theorem bes1 (k x y t z : Int) (ck : ∀ w, Calls Try.prog 6 #[.agg #[.int .u8 k, .int .i64 x, .int .i64 y, .int .u8 t, .int .i64 z]] w fun e w' => e = .returned (.int .i64 0) ∧ w.grownBy w' none) (h1 : decide (x < 1) = true) (w : World) : Calls Try.prog 3 #[.agg #[.int .u8 k, .int .i64 x, .int .i64 y, .int .u8 t, .int .i64 z]] w fun e w' => e = .returned (.bool true) ∧ w.grownBy w' none := by
  obtain ⟨W1, hW1, sz1, g1, B1⟩ := boxn w #[.int .u8 k, .int .i64 x, .int .i64 y, .int .u8 t, .int .i64 z] 23
  have b1_1_0 := B1.cell 0 (v := .int .u8 k) rfl
  have b1_1_1 := B1.cell 1 (v := .int .i64 x) rfl
  have b1_1_2 := B1.cell 2 (v := .int .i64 y) rfl
  have b1_1_3 := B1.cell 3 (v := .int .u8 t) rfl
  have b1_1_4 := B1.cell 4 (v := .int .i64 z) rfl
  go_enter Try.func3, Try.ntmps3
  go_wp2_with (first | (go_at_call 5; (fail_if_success (guard_hyp g2)); refine (awakeC _).mono ?_; rintro e w2 ⟨rfl, g2⟩; have G2 := gb_trans g1 g2; have B1x := B1.kept g2 (by simp); clear b1_1_0 b1_1_1 b1_1_2 b1_1_3 b1_1_4; have b1_2_0 := B1x.cell 0 (v := .int .u8 k) rfl; have b1_2_1 := B1x.cell 1 (v := .int .i64 x) rfl; have b1_2_2 := B1x.cell 2 (v := .int .i64 y) rfl; have b1_2_3 := B1x.cell 3 (v := .int .u8 t) rfl; have b1_2_4 := B1x.cell 4 (v := .int .i64 z) rfl) | (go_at_call 6; (fail_if_success (guard_hyp g3)); refine (ck _).mono ?_; rintro e w3 ⟨rfl, g3⟩; have G3 := gb_trans G2 g3; have B1xx := B1x.kept g3 (by simp); clear b1_2_0 b1_2_1 b1_2_2 b1_2_3 b1_2_4; have b1_3_0 := B1xx.cell 0 (v := .int .u8 k) rfl; have b1_3_1 := B1xx.cell 1 (v := .int .i64 x) rfl; have b1_3_2 := B1xx.cell 2 (v := .int .i64 y) rfl; have b1_3_3 := B1xx.cell 3 (v := .int .u8 t) rfl; have b1_3_4 := B1xx.cell 4 (v := .int .i64 z) rfl))
  go_ret
  exact ⟨rfl, G3⟩
theorem bes2 (k x y t z : Int) (ck : ∀ w, Calls Try.prog 6 #[.agg #[.int .u8 k, .int .i64 x, .int .i64 y, .int .u8 t, .int .i64 z]] w fun e w' => e = .returned (.int .i64 0) ∧ w.grownBy w' none) (h1 : decide (x < 1) = false) (h2 : decide (y < 1) = true) (w : World) : Calls Try.prog 3 #[.agg #[.int .u8 k, .int .i64 x, .int .i64 y, .int .u8 t, .int .i64 z]] w fun e w' => e = .returned (.bool true) ∧ w.grownBy w' none := by
  obtain ⟨W1, hW1, sz1, g1, B1⟩ := boxn w #[.int .u8 k, .int .i64 x, .int .i64 y, .int .u8 t, .int .i64 z] 23
  have b1_1_0 := B1.cell 0 (v := .int .u8 k) rfl
  have b1_1_1 := B1.cell 1 (v := .int .i64 x) rfl
  have b1_1_2 := B1.cell 2 (v := .int .i64 y) rfl
  have b1_1_3 := B1.cell 3 (v := .int .u8 t) rfl
  have b1_1_4 := B1.cell 4 (v := .int .i64 z) rfl
  go_enter Try.func3, Try.ntmps3
  go_wp2_with (first | (go_at_call 5; (fail_if_success (guard_hyp g2)); refine (awakeC _).mono ?_; rintro e w2 ⟨rfl, g2⟩; have G2 := gb_trans g1 g2; have B1x := B1.kept g2 (by simp); clear b1_1_0 b1_1_1 b1_1_2 b1_1_3 b1_1_4; have b1_2_0 := B1x.cell 0 (v := .int .u8 k) rfl; have b1_2_1 := B1x.cell 1 (v := .int .i64 x) rfl; have b1_2_2 := B1x.cell 2 (v := .int .i64 y) rfl; have b1_2_3 := B1x.cell 3 (v := .int .u8 t) rfl; have b1_2_4 := B1x.cell 4 (v := .int .i64 z) rfl) | (go_at_call 6; (fail_if_success (guard_hyp g3)); refine (ck _).mono ?_; rintro e w3 ⟨rfl, g3⟩; have G3 := gb_trans G2 g3; have B1xx := B1x.kept g3 (by simp); clear b1_2_0 b1_2_1 b1_2_2 b1_2_3 b1_2_4; have b1_3_0 := B1xx.cell 0 (v := .int .u8 k) rfl; have b1_3_1 := B1xx.cell 1 (v := .int .i64 x) rfl; have b1_3_2 := B1xx.cell 2 (v := .int .i64 y) rfl; have b1_3_3 := B1xx.cell 3 (v := .int .u8 t) rfl; have b1_3_4 := B1xx.cell 4 (v := .int .i64 z) rfl))
  go_ret
  exact ⟨rfl, G3⟩
theorem bes3 (k x y t z : Int) (ck : ∀ w, Calls Try.prog 6 #[.agg #[.int .u8 k, .int .i64 x, .int .i64 y, .int .u8 t, .int .i64 z]] w fun e w' => e = .returned (.int .i64 0) ∧ w.grownBy w' none) (h1 : decide (x < 1) = false) (h2 : decide (y < 1) = false) (h3 : decide (6 < x) = true) (w : World) : Calls Try.prog 3 #[.agg #[.int .u8 k, .int .i64 x, .int .i64 y, .int .u8 t, .int .i64 z]] w fun e w' => e = .returned (.bool true) ∧ w.grownBy w' none := by
  obtain ⟨W1, hW1, sz1, g1, B1⟩ := boxn w #[.int .u8 k, .int .i64 x, .int .i64 y, .int .u8 t, .int .i64 z] 23
  have b1_1_0 := B1.cell 0 (v := .int .u8 k) rfl
  have b1_1_1 := B1.cell 1 (v := .int .i64 x) rfl
  have b1_1_2 := B1.cell 2 (v := .int .i64 y) rfl
  have b1_1_3 := B1.cell 3 (v := .int .u8 t) rfl
  have b1_1_4 := B1.cell 4 (v := .int .i64 z) rfl
  go_enter Try.func3, Try.ntmps3
  go_wp2_with (first | (go_at_call 5; (fail_if_success (guard_hyp g2)); refine (awakeC _).mono ?_; rintro e w2 ⟨rfl, g2⟩; have G2 := gb_trans g1 g2; have B1x := B1.kept g2 (by simp); clear b1_1_0 b1_1_1 b1_1_2 b1_1_3 b1_1_4; have b1_2_0 := B1x.cell 0 (v := .int .u8 k) rfl; have b1_2_1 := B1x.cell 1 (v := .int .i64 x) rfl; have b1_2_2 := B1x.cell 2 (v := .int .i64 y) rfl; have b1_2_3 := B1x.cell 3 (v := .int .u8 t) rfl; have b1_2_4 := B1x.cell 4 (v := .int .i64 z) rfl) | (go_at_call 6; (fail_if_success (guard_hyp g3)); refine (ck _).mono ?_; rintro e w3 ⟨rfl, g3⟩; have G3 := gb_trans G2 g3; have B1xx := B1x.kept g3 (by simp); clear b1_2_0 b1_2_1 b1_2_2 b1_2_3 b1_2_4; have b1_3_0 := B1xx.cell 0 (v := .int .u8 k) rfl; have b1_3_1 := B1xx.cell 1 (v := .int .i64 x) rfl; have b1_3_2 := B1xx.cell 2 (v := .int .i64 y) rfl; have b1_3_3 := B1xx.cell 3 (v := .int .u8 t) rfl; have b1_3_4 := B1xx.cell 4 (v := .int .i64 z) rfl))
  go_ret
  exact ⟨rfl, G3⟩
theorem bes4 (k x y t z : Int) (ck : ∀ w, Calls Try.prog 6 #[.agg #[.int .u8 k, .int .i64 x, .int .i64 y, .int .u8 t, .int .i64 z]] w fun e w' => e = .returned (.int .i64 0) ∧ w.grownBy w' none) (h1 : decide (x < 1) = false) (h2 : decide (y < 1) = false) (h3 : decide (6 < x) = false) (h4 : decide (6 < y) = true) (w : World) : Calls Try.prog 3 #[.agg #[.int .u8 k, .int .i64 x, .int .i64 y, .int .u8 t, .int .i64 z]] w fun e w' => e = .returned (.bool true) ∧ w.grownBy w' none := by
  obtain ⟨W1, hW1, sz1, g1, B1⟩ := boxn w #[.int .u8 k, .int .i64 x, .int .i64 y, .int .u8 t, .int .i64 z] 23
  have b1_1_0 := B1.cell 0 (v := .int .u8 k) rfl
  have b1_1_1 := B1.cell 1 (v := .int .i64 x) rfl
  have b1_1_2 := B1.cell 2 (v := .int .i64 y) rfl
  have b1_1_3 := B1.cell 3 (v := .int .u8 t) rfl
  have b1_1_4 := B1.cell 4 (v := .int .i64 z) rfl
  go_enter Try.func3, Try.ntmps3
  go_wp2_with (first | (go_at_call 5; (fail_if_success (guard_hyp g2)); refine (awakeC _).mono ?_; rintro e w2 ⟨rfl, g2⟩; have G2 := gb_trans g1 g2; have B1x := B1.kept g2 (by simp); clear b1_1_0 b1_1_1 b1_1_2 b1_1_3 b1_1_4; have b1_2_0 := B1x.cell 0 (v := .int .u8 k) rfl; have b1_2_1 := B1x.cell 1 (v := .int .i64 x) rfl; have b1_2_2 := B1x.cell 2 (v := .int .i64 y) rfl; have b1_2_3 := B1x.cell 3 (v := .int .u8 t) rfl; have b1_2_4 := B1x.cell 4 (v := .int .i64 z) rfl) | (go_at_call 6; (fail_if_success (guard_hyp g3)); refine (ck _).mono ?_; rintro e w3 ⟨rfl, g3⟩; have G3 := gb_trans G2 g3; have B1xx := B1x.kept g3 (by simp); clear b1_2_0 b1_2_1 b1_2_2 b1_2_3 b1_2_4; have b1_3_0 := B1xx.cell 0 (v := .int .u8 k) rfl; have b1_3_1 := B1xx.cell 1 (v := .int .i64 x) rfl; have b1_3_2 := B1xx.cell 2 (v := .int .i64 y) rfl; have b1_3_3 := B1xx.cell 3 (v := .int .u8 t) rfl; have b1_3_4 := B1xx.cell 4 (v := .int .i64 z) rfl))
  go_ret
  exact ⟨rfl, G3⟩

theorem homeB (k x y t z : Int) (ht : 0 ≤ t) (h : Tp.chk k x y t z = 0) (w : World) : Calls Try.prog 7 #[.agg #[.int .u8 k, .int .i64 x, .int .i64 y, .int .u8 t, .int .i64 z]] w fun e w' => e = .returned (.tuple #[.agg #[.int .i64 (To.fi x), .int .i64 (To.fi y), .int .i64 x, .int .i64 y], .int .i64 0]) ∧ w.grownBy w' none := by
  have := To.homeC k x y t z ht w
  unfold To.homeV at this
  rw [if_pos h, h] at this
  exact this
theorem frB_ok {n : Int} (h : -1000 ≤ n ∧ n ≤ 1000) : To.frB n = false := by
  unfold To.frB
  simp
  omega
theorem w64 {n : Int} (h : -1000000 ≤ n ∧ n ≤ 1000000) : IntKind.i64.wrap n = n := by rw [IntKind.wrap_i64]; omega
/-- A place is on the grid just if its home numbers are. -/
theorem gi_in {x y a b : Int} (hx : 1 ≤ x) (hy : 1 ≤ y) : giB x y a b = Bs.inB x y (a - To.fi x) (b - To.fi y) := by
  have e1 : To.liB a x = (decide (0 ≤ a - To.fi x) && decide (a - To.fi x < x)) := by
    cases h : To.liB a x with
    | true =>
      have := li_iff.1 h
      rw [decide_eq_true (by omega), decide_eq_true (by omega)]; rfl
    | false =>
      have : ¬ (x = 0 ∨ (0 ≤ a - To.fi x ∧ a - To.fi x < x)) := fun q => by rw [li_iff.2 q] at h; cases h
      by_cases q : 0 ≤ a - To.fi x
      · rw [decide_eq_true q, decide_eq_false (by omega)]; rfl
      · rw [decide_eq_false q]; rfl
  have e2 : To.liB b y = (decide (0 ≤ b - To.fi y) && decide (b - To.fi y < y)) := by
    cases h : To.liB b y with
    | true =>
      have := li_iff.1 h
      rw [decide_eq_true (by omega), decide_eq_true (by omega)]; rfl
    | false =>
      have : ¬ (y = 0 ∨ (0 ≤ b - To.fi y ∧ b - To.fi y < y)) := fun q => by rw [li_iff.2 q] at h; cases h
      by_cases q : 0 ≤ b - To.fi y
      · rw [decide_eq_true q, decide_eq_false (by omega)]; rfl
      · rw [decide_eq_false q]; rfl
  unfold giB Bs.inB
  rw [e1, e2, Bool.and_assoc]
theorem tu_bd {k x y t z u v : Int} (hx : 1 ≤ x) (hy : 1 ≤ y) (hk : 1 ≤ k ∧ k ≤ 5) (h5 : k = 5 → x = y) (h : Bs.isB k x y t z u v = true) : (0 ≤ Bs.tu k x y t z u v ∧ Bs.tu k x y t z u v < x) ∧ (0 ≤ Bs.tv k x y t z u v ∧ Bs.tv k x y t z u v < y) := by
  unfold Bs.tu Bs.tv
  unfold Bs.isB at h
  cases hi : Bs.inB x y u v with
  | true =>
    rw [if_pos rfl, if_pos rfl]
    unfold Bs.inB at hi
    simp only [Bool.and_eq_true, decide_eq_true_eq] at hi
    omega
  | false =>
    rw [hi] at h
    have k1 : k ≠ 1 := by simpa using h
    rw [if_neg (show ¬ (false = true) by decide), if_neg (show ¬ (false = true) by decide)]
    by_cases k5 : k = 5
    · rw [if_pos k5, if_pos k5]
      have := h5 k5
      unfold Bs.clp
      constructor <;> (repeat' split) <;> omega
    · rw [if_neg k5, if_neg k5]
      exact ⟨Fo.cx_bd k y t z u v hx, Fo.cy_bd k x t z u v hy⟩
theorem kq_lt {x y a b : Int} (hx : 1 ≤ x) (hy : 1 ≤ y) (ha : 0 ≤ a ∧ a < x) (hb : 0 ≤ b ∧ b < y) : 0 ≤ a + x * b ∧ a + x * b < x * y := by
  have h1 : 0 ≤ x * b := Int.mul_nonneg (by omega) hb.1
  have h2 : x * (b + 1) ≤ x * y := Int.mul_le_mul_of_nonneg_left (by omega) (by omega)
  rw [Int.mul_add, Int.mul_one] at h2
  omega
theorem ri_is {k x y t z a b : Int} (hx : 1 ≤ x) (hy : 1 ≤ y) (h : riE k x y t z a b = 0) : riB k x y t z a b = Bs.isB k x y t z (a - To.fi x) (b - To.fi y) := by
  unfold riB Bs.isB
  rw [h, gi_in hx hy]
  simp
theorem ri_x {k x y t z a b : Int} (hx : 1 ≤ x) (hy : 1 ≤ y) : riX k x y t z a b = Bs.tu k x y t z (a - To.fi x) (b - To.fi y) + To.fi x ∧ riY k x y t z a b = Bs.tv k x y t z (a - To.fi x) (b - To.fi y) + To.fi y := by
  unfold riX riY Bs.tu Bs.tv
  rw [gi_in hx hy]
  have n1 : ∀ v, Nm.nearZ v 0 (y - 1) = Bs.clp v 0 (y - 1) := fun v => by unfold Nm.nearZ Bs.clp; split <;> split <;> omega
  have n2 : ∀ v, Nm.nearZ v 0 (x - 1) = Bs.clp v 0 (x - 1) := fun v => by unfold Nm.nearZ Bs.clp; split <;> split <;> omega
  rw [n1, n2]
  constructor <;> (repeat' split) <;> omega
set_option maxHeartbeats 1000000 in
theorem beside_all (k x y t z : Int) (ht : 0 ≤ t) (w : World) : Calls Try.prog 3 #[.agg #[.int .u8 k, .int .i64 x, .int .i64 y, .int .u8 t, .int .i64 z]] w fun e w' => e = .returned (.bool true) ∧ w.grownBy w' none := by
  have ck := To.checkC k x y t z ht
  by_cases h : Tp.chk k x y t z = 0
  · rw [h] at ck
    by_cases a1 : x < 1
    · exact bes1 k x y t z ck (decide_eq_true a1) w
    · by_cases a2 : y < 1
      · exact bes2 k x y t z ck (decide_eq_false a1) (decide_eq_true a2) w
      · by_cases a3 : 6 < x
        · exact bes3 k x y t z ck (decide_eq_false a1) (decide_eq_false a2) (decide_eq_true a3) w
        · by_cases a4 : 6 < y
          · exact bes4 k x y t z ck (decide_eq_false a1) (decide_eq_false a2) (decide_eq_false a3) (decide_eq_true a4) w
          · have ok := Tp.ok_of h
            have hk := ok.kind
            have hx1 : 1 ≤ x := by omega
            have hy1 : 1 ≤ y := by omega
            have h5 := ok.alike
            have htt := ok.turn
            have hz : -6 ≤ z ∧ z ≤ 6 := by
              by_cases q : t = 0
              · have := ok.none q; omega
              · have h1 := ok.near q
                unfold Tp.sd at h1
                split at h1 <;> omega
            have fx : -6 ≤ To.fi x ∧ To.fi x ≤ 0 := by unfold To.fi; omega
            have fy : -6 ≤ To.fi y ∧ To.fi y ≤ 0 := by unfold To.fi; omega
            have sy : Bs.okS k x y t z = true := by
              have q := Bs.all_k k x y t z hk ⟨hx1, by omega⟩ ⟨hy1, by omega⟩ ⟨ht, htt⟩ hz
              unfold Bs.tst at q
              rw [decide_eq_true h] at q
              exact q
            have xy1 : 0 ≤ x * y := Int.mul_nonneg (by omega) (by omega)
            have xy2 : x * y ≤ 36 := by
              have := Int.mul_le_mul (show x ≤ 6 by omega) (show y ≤ 6 by omega) (by omega) (by decide)
              omega
            obtain ⟨n, hn⟩ : ∃ n, (x * y).toNat = n := ⟨_, rfl⟩
            have hnI : (n : Int) = x * y := by rw [← hn]; omega
            -- the place number i
            have ci : ∀ i : Nat, i < n → (0 ≤ (i : Int) % x ∧ (i : Int) % x < x) ∧ (0 ≤ (i : Int) / x ∧ (i : Int) / x < y) := fun i hi => by
              refine ⟨⟨Int.emod_nonneg _ (by omega), Int.emod_lt_of_pos _ (by omega)⟩, Int.ediv_nonneg (by omega) (by omega), Int.ediv_lt_of_lt_mul (by omega) ?_⟩
              rw [Int.mul_comm]
              omega
            have pd : ∀ d : Nat, d < 9 → (0 ≤ (d : Int) % 3 ∧ (d : Int) % 3 < 3) ∧ (0 ≤ (d : Int) / 3 ∧ (d : Int) / 3 < 3) := fun d hd => by omega
            have su_is : ∀ i d : Nat, d < 9 → Bs.su x (9 * i + d) = (i : Int) % x + (d : Int) % 3 - 1 := fun i d hd => by
              unfold Bs.su
              rw [show (9 * i + d) / 9 = i by omega, show (9 * i + d) % 9 = d by omega]
              omega
            have sv_is : ∀ i d : Nat, d < 9 → Bs.sv x (9 * i + d) = (i : Int) / x + (d : Int) / 3 - 1 := fun i d hd => by
              unfold Bs.sv
              rw [show (9 * i + d) / 9 = i by omega, show (9 * i + d) % 9 = d by omega]
              omega
            have mE : ∀ a b : Int, -1 ≤ a - To.fi x → a - To.fi x ≤ x → -1 ≤ b - To.fi y → b - To.fi y ≤ y → riE k x y t z a b = 0 := fun a b q1 q2 q3 q4 => by
              have t1 : toB (a - To.fi x) x = true := by unfold toB; rw [decide_eq_true q1, decide_eq_true q2]; simp
              have t2 : toB (b - To.fi y) y = true := by unfold toB; rw [decide_eq_true q3, decide_eq_true q4]; simp
              unfold riE riN
              rw [if_pos h, frB_ok (by omega), frB_ok (by omega), t1, t2]
              simp
            have pE : ∀ i d : Nat, i < n → d < 9 → riE k x y t z (To.fi x + (i : Int) % x + (d : Int) % 3 - 1) (To.fi y + (i : Int) / x + (d : Int) / 3 - 1) = 0 := fun i d hi hd => by
              have c := ci i hi; have p := pd d hd
              exact mE _ _ (by omega) (by omega) (by omega) (by omega)
            have pI : ∀ i d : Nat, i < n → d < 9 → riB k x y t z (To.fi x + (i : Int) % x + (d : Int) % 3 - 1) (To.fi y + (i : Int) / x + (d : Int) / 3 - 1) = Bs.isB k x y t z (Bs.su x (9 * i + d)) (Bs.sv x (9 * i + d)) := fun i d hi hd => by
              rw [ri_is hx1 hy1 (pE i d hi hd), su_is i d hd, sv_is i d hd]
              congr 1 <;> omega
            have pV : ∀ i d : Nat, i < n → d < 9 → riX k x y t z (To.fi x + (i : Int) % x + (d : Int) % 3 - 1) (To.fi y + (i : Int) / x + (d : Int) / 3 - 1) = Bs.tu k x y t z (Bs.su x (9 * i + d)) (Bs.sv x (9 * i + d)) + To.fi x ∧ riY k x y t z (To.fi x + (i : Int) % x + (d : Int) % 3 - 1) (To.fi y + (i : Int) / x + (d : Int) / 3 - 1) = Bs.tv k x y t z (Bs.su x (9 * i + d)) (Bs.sv x (9 * i + d)) + To.fi y := fun i d hi hd => by
              have e := @ri_x k x y t z (To.fi x + (i : Int) % x + (d : Int) % 3 - 1) (To.fi y + (i : Int) / x + (d : Int) / 3 - 1) hx1 hy1
              rw [show To.fi x + (i : Int) % x + (d : Int) % 3 - 1 - To.fi x = Bs.su x (9 * i + d) by rw [su_is i d hd]; omega, show To.fi y + (i : Int) / x + (d : Int) / 3 - 1 - To.fi y = Bs.sv x (9 * i + d) by rw [sv_is i d hd]; omega] at e
              exact e
            have tb := fun i d (q : Bs.isB k x y t z (Bs.su x (9 * i + d)) (Bs.sv x (9 * i + d)) = true) => tu_bd hx1 hy1 hk h5 q
            have ed_is : ∀ i d : Nat, d < 9 → Bs.ed k x y t z (9 * i + d) = if Bs.isB k x y t z (Bs.su x (9 * i + d)) (Bs.sv x (9 * i + d)) = true ∧ d ≠ 4 then some (n * i + (Bs.tu k x y t z (Bs.su x (9 * i + d)) (Bs.sv x (9 * i + d)) + x * Bs.tv k x y t z (Bs.su x (9 * i + d)) (Bs.sv x (9 * i + d))).toNat) else none := fun i d hd => by
              unfold Bs.ed
              rw [hn, show (9 * i + d) / 9 = i by omega, show (9 * i + d) % 9 = d by omega]
              by_cases q : Bs.isB k x y t z (Bs.su x (9 * i + d)) (Bs.sv x (9 * i + d)) = true ∧ d ≠ 4
              · rw [if_pos q, if_pos (by rw [q.1]; simp [q.2])]
              · rw [if_neg q, if_neg (fun r => q (by simpa using r))]
            have kqb : ∀ i d : Nat, Bs.isB k x y t z (Bs.su x (9 * i + d)) (Bs.sv x (9 * i + d)) = true → (Bs.tu k x y t z (Bs.su x (9 * i + d)) (Bs.sv x (9 * i + d)) + x * Bs.tv k x y t z (Bs.su x (9 * i + d)) (Bs.sv x (9 * i + d))).toNat < n := fun i d q => by
              have b := tb i d q
              have := kq_lt hx1 hy1 b.1 b.2
              omega
            have gd := gluedLC k x y t z ht
            rw [decide_eq_true h, Bool.true_and] at gd
            have ce := fun a b w => cellC k x y t z a b ht w
            refine beside_core k x y t z n (n * n) rfl (by omega) awakeC ck (decide_eq_false a1) (decide_eq_false a2) (decide_eq_false a3) (decide_eq_false a4) (by omega) (homeB k x y t z ht h)
              (by rw [w64 (by omega)]; exact hnI.symm) ?_
              (fun i => To.fi x + (i : Int) % x) (fun i => To.fi y + (i : Int) / x) (fun i d => To.fi x + (i : Int) % x + (d : Int) % 3 - 1) (fun i d => To.fi y + (i : Int) / x + (d : Int) / 3 - 1)
              (fun i d => if riB k x y t z (To.fi x + (i : Int) % x + (d : Int) % 3 - 1) (To.fi y + (i : Int) / x + (d : Int) / 3 - 1) = true then riX k x y t z (To.fi x + (i : Int) % x + (d : Int) % 3 - 1) (To.fi y + (i : Int) / x + (d : Int) / 3 - 1) else 0)
              (fun i d => if riB k x y t z (To.fi x + (i : Int) % x + (d : Int) % 3 - 1) (To.fi y + (i : Int) / x + (d : Int) / 3 - 1) = true then riY k x y t z (To.fi x + (i : Int) % x + (d : Int) % 3 - 1) (To.fi y + (i : Int) / x + (d : Int) / 3 - 1) else 0)
              (fun i d => if ceE k x y t z (To.fi x + (i : Int) % x + (d : Int) % 3 - 1) (To.fi y + (i : Int) / x + (d : Int) / 3 - 1) = 0 then ceX k x y t z (To.fi x + (i : Int) % x + (d : Int) % 3 - 1) (To.fi y + (i : Int) / x + (d : Int) / 3 - 1) else 0)
              (fun i d => if ceE k x y t z (To.fi x + (i : Int) % x + (d : Int) % 3 - 1) (To.fi y + (i : Int) / x + (d : Int) / 3 - 1) = 0 then ceY k x y t z (To.fi x + (i : Int) % x + (d : Int) % 3 - 1) (To.fi y + (i : Int) / x + (d : Int) / 3 - 1) else 0)
              (fun i d => ceE k x y t z (To.fi x + (i : Int) % x + (d : Int) % 3 - 1) (To.fi y + (i : Int) / x + (d : Int) / 3 - 1))
              (fun i d => riB k x y t z (To.fi x + (i : Int) % x + (d : Int) % 3 - 1) (To.fi y + (i : Int) / x + (d : Int) / 3 - 1))
              (fun i d => (Bs.tu k x y t z (Bs.su x (9 * i + d)) (Bs.sv x (9 * i + d)) + x * Bs.tv k x y t z (Bs.su x (9 * i + d)) (Bs.sv x (9 * i + d))).toNat)
              ?_ ?_ ?_ ?_ ?_ (glB k) gd ?_ ?_ ?_ (fun s r => (Bs.El k x y t z s).count r) (fun r => rfl) ?_ (fun s r => Nat.le_trans List.count_le_length (Bs.El_len k x y t z s)) ?_ w
            · have : n * n ≤ 36 * 36 := Nat.mul_le_mul (by omega) (by omega)
              rw [show (n : Int) * (n : Int) = ((n * n : Nat) : Int) by simp]
              exact w64 (by omega)
            · intro i hi
              have c := ci i hi
              refine ⟨⟨_, rfl, ?_⟩, _, rfl, ?_⟩
              · rw [Int.tmod_eq_emod_of_nonneg (by omega)]
                exact w64 (by omega)
              · rw [w64 (n := (i : Int) / x) (by omega)]
                exact w64 (by omega)
            · intro i d hi hd
              have c := ci i hi; have p := pd d hd
              refine ⟨_, _, w64 (by omega), w64 (by omega), w64 (by omega), w64 (by omega)⟩
            · intro i hi w
              have c := ci i hi
              have e0 := mE (To.fi x + (i : Int) % x) (To.fi y + (i : Int) / x) (by omega) (by omega) (by omega) (by omega)
              have g : giB x y (To.fi x + (i : Int) % x) (To.fi y + (i : Int) / x) = true := by
                unfold giB
                rw [li_iff.2 (.inr (by omega)), li_iff.2 (.inr (by omega))]; rfl
              have b : riB k x y t z (To.fi x + (i : Int) % x) (To.fi y + (i : Int) / x) = true := by unfold riB; rw [e0, g]; simp
              have q := ringC k x y t z (To.fi x + (i : Int) % x) (To.fi y + (i : Int) / x) ht w
              rw [riV_yes b, b, e0] at q
              have e1 : riX k x y t z (To.fi x + (i : Int) % x) (To.fi y + (i : Int) / x) = To.fi x + (i : Int) % x := by unfold riX; rw [g]; rfl
              have e2 : riY k x y t z (To.fi x + (i : Int) % x) (To.fi y + (i : Int) / x) = To.fi y + (i : Int) / x := by unfold riY; rw [g]; rfl
              rw [e1, e2] at q
              exact q
            · intro i d hi hd w
              have q := ringC k x y t z (To.fi x + (i : Int) % x + (d : Int) % 3 - 1) (To.fi y + (i : Int) / x + (d : Int) / 3 - 1) ht w
              rw [pE i d hi hd] at q
              cases b : riB k x y t z (To.fi x + (i : Int) % x + (d : Int) % 3 - 1) (To.fi y + (i : Int) / x + (d : Int) / 3 - 1) with
              | true =>
                rw [riV_yes b, b] at q
                exact q
              | false =>
                rw [riV_no b, b] at q
                exact q
            · intro i d hi hd w
              have q := ce (To.fi x + (i : Int) % x + (d : Int) % 3 - 1) (To.fi y + (i : Int) / x + (d : Int) / 3 - 1) w
              by_cases b : ceE k x y t z (To.fi x + (i : Int) % x + (d : Int) % 3 - 1) (To.fi y + (i : Int) / x + (d : Int) / 3 - 1) = 0
              · rw [ce_yes b] at q
                show Calls _ _ _ _ _
                simp only [if_pos b]
                exact q
              · rw [ce_zero b] at q
                simp only [if_neg b]
                exact q
            · intro hg i d hi hd
              have c := ci i hi; have p := pd d hd
              have hk3 := gl_iff.1 hg
              have b : riB k x y t z (To.fi x + (i : Int) % x + (d : Int) % 3 - 1) (To.fi y + (i : Int) / x + (d : Int) / 3 - 1) = true := by
                unfold riB
                rw [pE i d hi hd]
                have k1 : k ≠ 1 := by omega
                simp [k1]
              have e : ceE k x y t z (To.fi x + (i : Int) % x + (d : Int) % 3 - 1) (To.fi y + (i : Int) / x + (d : Int) / 3 - 1) = 0 := by
                unfold ceE
                rw [if_pos h, frB_ok (by omega), frB_ok (by omega), hg]
                simp
              refine ⟨b, e, ?_, ?_⟩
              · simp only [if_pos b, if_pos e]
                unfold ceX riX
                rw [hg, if_pos rfl]
                cases g : giB x y (To.fi x + (i : Int) % x + (d : Int) % 3 - 1) (To.fi y + (i : Int) / x + (d : Int) / 3 - 1) with
                | true =>
                  unfold giB at g
                  rw [if_pos rfl, Fo.cx_in k t z (li_iff.1 (Bool.and_eq_true_iff.1 g).1) (li_iff.1 (Bool.and_eq_true_iff.1 g).2)]
                  omega
                | false => rw [if_neg (by decide), if_neg (by omega)]
              · simp only [if_pos b, if_pos e]
                unfold ceY riY
                rw [hg, if_pos rfl]
                cases g : giB x y (To.fi x + (i : Int) % x + (d : Int) % 3 - 1) (To.fi y + (i : Int) / x + (d : Int) / 3 - 1) with
                | true =>
                  unfold giB at g
                  rw [if_pos rfl, Fo.cy_in k t z (li_iff.1 (Bool.and_eq_true_iff.1 g).1) (li_iff.1 (Bool.and_eq_true_iff.1 g).2)]
                  omega
                | false => rw [if_neg (by decide), if_neg (by omega)]
            · intro i d hi hd q
              rw [pI i d hi hd] at q
              unfold Bs.isB at q
              simpa using (Bool.or_eq_false_iff.1 q).2
            · intro i d hi hd q
              have q' := q
              rw [pI i d hi hd] at q'
              have b := tb i d q'
              have kl := kq_lt hx1 hy1 b.1 b.2
              have xb : 0 ≤ x * Bs.tv k x y t z (Bs.su x (9 * i + d)) (Bs.sv x (9 * i + d)) := Int.mul_nonneg (by omega) b.2.1
              refine ⟨_, _, _, _, rfl, rfl, rfl, ?_, kqb i d q', ?_, rfl, ?_⟩
              · simp only [if_pos q, (pV i d hi hd).1, (pV i d hi hd).2, Int.add_sub_cancel]
                rw [w64 (n := Bs.tu k x y t z (Bs.su x (9 * i + d)) (Bs.sv x (9 * i + d))) (by omega), w64 (n := Bs.tv k x y t z (Bs.su x (9 * i + d)) (Bs.sv x (9 * i + d))) (by omega), w64 (n := x * Bs.tv k x y t z (Bs.su x (9 * i + d)) (Bs.sv x (9 * i + d))) (by omega), w64 (by omega)]
                omega
              · simp only [if_pos q, (pV i d hi hd).1]
                omega
              · rw [w64 (n := To.fi x + x) (by omega)]
                simp only [if_pos q, (pV i d hi hd).1]
                omega
            · intro i d hi hd r
              show (Bs.El k x y t z (9 * i + d + 1)).count r = _
              rw [Bs.El_succ, ed_is i d hd, List.count_append]
              by_cases q : Bs.isB k x y t z (Bs.su x (9 * i + d)) (Bs.sv x (9 * i + d)) = true ∧ d ≠ 4
              · rw [if_pos q]
                congr 1
                by_cases e : r = n * i + (Bs.tu k x y t z (Bs.su x (9 * i + d)) (Bs.sv x (9 * i + d)) + x * Bs.tv k x y t z (Bs.su x (9 * i + d)) (Bs.sv x (9 * i + d))).toNat
                · rw [if_pos ⟨⟨by rw [pI i d hi hd]; exact q.1, q.2⟩, e⟩, e]
                  simp
                · rw [if_neg (fun z => e z.2)]
                  simp only [List.count_singleton]
                  rw [if_neg]
                  simpa using fun z => e z.symm
              · rw [if_neg q, if_neg (fun z => q ⟨by rw [← pI i d hi hd]; exact z.1.1, z.1.2⟩)]
                rfl
            · intro i j hi hj
              refine Bs.both_ways n hn (by omega) sy (fun e he => ?_) i j hi hj
              unfold Bs.El at he
              obtain ⟨s, hs, hse⟩ := List.mem_filterMap.1 he
              have hs' := List.mem_range.1 hs
              have es : s = 9 * (s / 9) + s % 9 := by omega
              rw [es, ed_is (s / 9) (s % 9) (by omega)] at hse
              split at hse
              · rename_i q
                injection hse with hse
                rw [← hse]
                exact sq_lt (by omega) (kqb _ _ q.1)
              · cases hse
  · exact besE k x y t z _ (by simpa using h) ck w
theorem beside_top (k x y t z : Int) (_ : 0 ≤ k ∧ k ≤ 255) (_ : -9223372036854775808 ≤ x ∧ x ≤ 9223372036854775807) (_ : -9223372036854775808 ≤ y ∧ y ≤ 9223372036854775807) (ht : 0 ≤ t ∧ t ≤ 255) (_ : -9223372036854775808 ≤ z ∧ z ≤ 9223372036854775807) (w : World) : Calls Try.prog 3 #[.agg #[.int .u8 k, .int .i64 x, .int .i64 y, .int .u8 t, .int .i64 z]] w fun e w' => e = .returned (.bool true) ∧ Below w.heap.size w w' := (beside_all k x y t z ht.1 w).mono fun e w' ⟨p, q⟩ => ⟨p, gb_below q⟩
end Go.Proofs.Ytgiiaokkmnjckab
