/- TopGlued: what its walk asks for, of every glued grid; the walk whole. -/
import Derived.Test.YtgiiaokkmnjckabF50
import Derived.Test.YtgiiaokkmnjckabF45
import Derived.Test.YtgiiaokkmnjckabT8
namespace Go.Proofs.Ytgiiaokkmnjckab
open Go.RowKit
open Fl
set_option linter.unusedVariables false
set_option linter.unusedSimpArgs false
set_option maxRecDepth 100000

def nrF (a b : Int) : Bool := decide (-1099510579200 ≤ a) && (decide (a ≤ 1099510579200) && (decide (-1099510579200 ≤ b) && decide (b ≤ 1099510579200)))
theorem nrF_iff {a b : Int} : nrF a b = true ↔ (-1099510579200 ≤ a ∧ a ≤ 1099510579200) ∧ -1099510579200 ≤ b ∧ b ≤ 1099510579200 := by
  unfold nrF
  simp only [Bool.and_eq_true, decide_eq_true_eq]
  omega
theorem nr1 (a b : Int) (h : ¬ -1099510579200 ≤ a) (w : World) : Calls Try.prog 14 #[.agg #[.int .i64 a, .int .i64 b]] w fun e w' => e = .returned (.bool false) ∧ w.grownBy w' none := by
  obtain ⟨W1, hW1, sz1, g1, B1⟩ := boxn w #[.int .i64 a, .int .i64 b] 33
  have b1_1_0 := B1.cell 0 (v := .int .i64 a) rfl
  have b1_1_1 := B1.cell 1 (v := .int .i64 b) rfl
  go_enter Try.func14, Try.ntmps14
  go_wp2
  go_ret
  exact ⟨rfl, g1⟩
theorem nr2 (a b : Int) (h : -1099510579200 ≤ a) (h2 : ¬ a ≤ 1099510579200) (w : World) : Calls Try.prog 14 #[.agg #[.int .i64 a, .int .i64 b]] w fun e w' => e = .returned (.bool false) ∧ w.grownBy w' none := by
  obtain ⟨W1, hW1, sz1, g1, B1⟩ := boxn w #[.int .i64 a, .int .i64 b] 33
  have b1_1_0 := B1.cell 0 (v := .int .i64 a) rfl
  have b1_1_1 := B1.cell 1 (v := .int .i64 b) rfl
  go_enter Try.func14, Try.ntmps14
  go_wp2
  go_ret
  exact ⟨rfl, g1⟩
theorem nr3 (a b : Int) (h : -1099510579200 ≤ a) (h2 : a ≤ 1099510579200) (h3 : ¬ -1099510579200 ≤ b) (w : World) : Calls Try.prog 14 #[.agg #[.int .i64 a, .int .i64 b]] w fun e w' => e = .returned (.bool false) ∧ w.grownBy w' none := by
  obtain ⟨W1, hW1, sz1, g1, B1⟩ := boxn w #[.int .i64 a, .int .i64 b] 33
  have b1_1_0 := B1.cell 0 (v := .int .i64 a) rfl
  have b1_1_1 := B1.cell 1 (v := .int .i64 b) rfl
  go_enter Try.func14, Try.ntmps14
  go_wp2
  go_ret
  exact ⟨rfl, g1⟩
theorem nr4 (a b : Int) (h : -1099510579200 ≤ a) (h2 : a ≤ 1099510579200) (h3 : -1099510579200 ≤ b) (h4 : ¬ b ≤ 1099510579200) (w : World) : Calls Try.prog 14 #[.agg #[.int .i64 a, .int .i64 b]] w fun e w' => e = .returned (.bool false) ∧ w.grownBy w' none := by
  obtain ⟨W1, hW1, sz1, g1, B1⟩ := boxn w #[.int .i64 a, .int .i64 b] 33
  have b1_1_0 := B1.cell 0 (v := .int .i64 a) rfl
  have b1_1_1 := B1.cell 1 (v := .int .i64 b) rfl
  go_enter Try.func14, Try.ntmps14
  go_wp2
  go_ret
  exact ⟨rfl, g1⟩
theorem nr5 (a b : Int) (h : -1099510579200 ≤ a) (h2 : a ≤ 1099510579200) (h3 : -1099510579200 ≤ b) (h4 : b ≤ 1099510579200) (w : World) : Calls Try.prog 14 #[.agg #[.int .i64 a, .int .i64 b]] w fun e w' => e = .returned (.bool true) ∧ w.grownBy w' none := by
  obtain ⟨W1, hW1, sz1, g1, B1⟩ := boxn w #[.int .i64 a, .int .i64 b] 33
  have b1_1_0 := B1.cell 0 (v := .int .i64 a) rfl
  have b1_1_1 := B1.cell 1 (v := .int .i64 b) rfl
  go_enter Try.func14, Try.ntmps14
  go_wp2
  go_ret
  exact ⟨rfl, g1⟩
theorem nrC (a b : Int) (w : World) : Calls Try.prog 14 #[.agg #[.int .i64 a, .int .i64 b]] w fun e w' => e = .returned (.bool (nrF a b)) ∧ w.grownBy w' none := by
  unfold nrF
  by_cases h : -1099510579200 ≤ a
  · by_cases h2 : a ≤ 1099510579200
    · by_cases h3 : -1099510579200 ≤ b
      · by_cases h4 : b ≤ 1099510579200
        · rw [decide_eq_true h, decide_eq_true h2, decide_eq_true h3, decide_eq_true h4]; exact nr5 a b h h2 h3 h4 w
        · rw [decide_eq_true h, decide_eq_true h2, decide_eq_true h3, decide_eq_false h4]; exact nr4 a b h h2 h3 h4 w
      · rw [decide_eq_true h, decide_eq_true h2, decide_eq_false h3]; exact nr3 a b h h2 h3 w
    · rw [decide_eq_true h, decide_eq_false h2]; exact nr2 a b h h2 w
  · rw [decide_eq_false h]; exact nr1 a b h w

theorem glue_ex : ceV 2 3 2 0 0 2 1 = #[.int .i64 (-1), .int .i64 (-1)] ∧ ceE 2 3 2 0 0 2 1 = 0 := by
  have e : ceE 2 3 2 0 0 2 1 = 0 := by decide
  have ex : ceX 2 3 2 0 0 2 1 = -1 := by decide
  have ey : ceY 2 3 2 0 0 2 1 = -1 := by decide
  exact ⟨by rw [ce_yes e, ex, ey], e⟩
theorem gluesC (w : World) : Calls Try.prog 11 #[] w fun e w' => e = .returned (.bool true) ∧ w.grownBy w' none := by
  have hc : ∀ w, Calls Try.prog 9 #[.agg #[.int .u8 2, .int .i64 3, .int .i64 2, .int .u8 0, .int .i64 0], .agg #[.int .i64 2, .int .i64 1]] w fun e w' => e = .returned (.tuple #[.agg #[.int .i64 (-1), .int .i64 (-1)], .int .i64 0]) ∧ w.grownBy w' none := fun w => by
    have := cellC 2 3 2 0 0 2 1 (by decide) w
    rw [glue_ex.1, glue_ex.2] at this
    exact this
  go_enter Try.func11, Try.ntmps11
  go_wp2_with (first | (go_at_call 9; (fail_if_success (guard_hyp g1)); refine (hc _).mono ?_; rintro e w1 ⟨rfl, g1⟩; obtain ⟨W2, hW2, sz2, g2, B2⟩ := boxn w1 #[.int .i64 (-1), .int .i64 (-1)] 33; have G2 := gb_trans g1 g2; have b2_2_0 := B2.cell 0 (v := .int .i64 (-1)) rfl; have b2_2_1 := B2.cell 1 (v := .int .i64 (-1)) rfl))
  go_ret
  exact ⟨rfl, G2⟩
theorem topE (k x y t z a b : Int) (sp : Option Addr) (nt ct : Nat) (E : Int) (hE : (E != 0) = true) (ck : ∀ w, Calls Try.prog 12 #[.agg #[.int .u8 k, .int .i64 x, .int .i64 y, .int .u8 t, .int .i64 z]] w fun e w' => e = .returned (.int .i64 E) ∧ w.grownBy w' none) (w : World) : Calls Try.prog 4 #[.agg #[.int .u8 k, .int .i64 x, .int .i64 y, .int .u8 t, .int .i64 z], .agg #[.int .i64 a, .int .i64 b], .slice sp nt ct] w fun e w' => e = .returned (.bool true) ∧ w.grownBy w' none := by
  obtain ⟨W1, hW1, sz1, g1, B1⟩ := boxn w #[.int .u8 k, .int .i64 x, .int .i64 y, .int .u8 t, .int .i64 z] 23
  obtain ⟨W2, hW2, sz2, g2, B2⟩ := boxn W1 #[.int .i64 a, .int .i64 b] 33
  have G2 := gb_trans g1 g2
  have B1x := B1.kept g2 (by simp)
  have b1_2_0 := B1x.cell 0 (v := .int .u8 k) rfl
  have b1_2_1 := B1x.cell 1 (v := .int .i64 x) rfl
  have b1_2_2 := B1x.cell 2 (v := .int .i64 y) rfl
  have b1_2_3 := B1x.cell 3 (v := .int .u8 t) rfl
  have b1_2_4 := B1x.cell 4 (v := .int .i64 z) rfl
  have b2_2_0 := B2.cell 0 (v := .int .i64 a) rfl
  have b2_2_1 := B2.cell 1 (v := .int .i64 b) rfl
  go_enter Try.func4, Try.ntmps4
  go_wp2_with (first | (go_at_call 11; (fail_if_success (guard_hyp g3)); refine (gluesC _).mono ?_; rintro e w3 ⟨rfl, g3⟩; have G3 := gb_trans G2 g3; have B1xx := B1x.kept g3 (by simp); have B2x := B2.kept g3 (by simp); clear b1_2_0 b1_2_1 b1_2_2 b1_2_3 b1_2_4 b2_2_0 b2_2_1; have b1_3_0 := B1xx.cell 0 (v := .int .u8 k) rfl; have b1_3_1 := B1xx.cell 1 (v := .int .i64 x) rfl; have b1_3_2 := B1xx.cell 2 (v := .int .i64 y) rfl; have b1_3_3 := B1xx.cell 3 (v := .int .u8 t) rfl; have b1_3_4 := B1xx.cell 4 (v := .int .i64 z) rfl; have b2_3_0 := B2x.cell 0 (v := .int .i64 a) rfl; have b2_3_1 := B2x.cell 1 (v := .int .i64 b) rfl) | (go_at_call 12; (fail_if_success (guard_hyp g4)); refine (ck _).mono ?_; rintro e w4 ⟨rfl, g4⟩; have G4 := gb_trans G3 g4; have B1xxx := B1xx.kept g4 (by simp); have B2xx := B2x.kept g4 (by simp); clear b1_3_0 b1_3_1 b1_3_2 b1_3_3 b1_3_4 b2_3_0 b2_3_1; have b1_4_0 := B1xxx.cell 0 (v := .int .u8 k) rfl; have b1_4_1 := B1xxx.cell 1 (v := .int .i64 x) rfl; have b1_4_2 := B1xxx.cell 2 (v := .int .i64 y) rfl; have b1_4_3 := B1xxx.cell 3 (v := .int .u8 t) rfl; have b1_4_4 := B1xxx.cell 4 (v := .int .i64 z) rfl; have b2_4_0 := B2xx.cell 0 (v := .int .i64 a) rfl; have b2_4_1 := B2xx.cell 1 (v := .int .i64 b) rfl))
  go_ret
  exact ⟨rfl, G4⟩
theorem topN (k x y t z a b : Int) (sp : Option Addr) (nt ct : Nat) (ck : ∀ w, Calls Try.prog 12 #[.agg #[.int .u8 k, .int .i64 x, .int .i64 y, .int .u8 t, .int .i64 z]] w fun e w' => e = .returned (.int .i64 0) ∧ w.grownBy w' none) (gd : ∀ w, Calls Try.prog 13 #[.agg #[.int .u8 k, .int .i64 x, .int .i64 y, .int .u8 t, .int .i64 z]] w fun e w' => e = .returned (.bool false) ∧ w.grownBy w' none) (w : World) : Calls Try.prog 4 #[.agg #[.int .u8 k, .int .i64 x, .int .i64 y, .int .u8 t, .int .i64 z], .agg #[.int .i64 a, .int .i64 b], .slice sp nt ct] w fun e w' => e = .returned (.bool true) ∧ w.grownBy w' none := by
  obtain ⟨W1, hW1, sz1, g1, B1⟩ := boxn w #[.int .u8 k, .int .i64 x, .int .i64 y, .int .u8 t, .int .i64 z] 23
  obtain ⟨W2, hW2, sz2, g2, B2⟩ := boxn W1 #[.int .i64 a, .int .i64 b] 33
  have G2 := gb_trans g1 g2
  have B1x := B1.kept g2 (by simp)
  have b1_2_0 := B1x.cell 0 (v := .int .u8 k) rfl
  have b1_2_1 := B1x.cell 1 (v := .int .i64 x) rfl
  have b1_2_2 := B1x.cell 2 (v := .int .i64 y) rfl
  have b1_2_3 := B1x.cell 3 (v := .int .u8 t) rfl
  have b1_2_4 := B1x.cell 4 (v := .int .i64 z) rfl
  have b2_2_0 := B2.cell 0 (v := .int .i64 a) rfl
  have b2_2_1 := B2.cell 1 (v := .int .i64 b) rfl
  go_enter Try.func4, Try.ntmps4
  go_wp2_with (first | (go_at_call 11; (fail_if_success (guard_hyp g3)); refine (gluesC _).mono ?_; rintro e w3 ⟨rfl, g3⟩; have G3 := gb_trans G2 g3; have B1xx := B1x.kept g3 (by simp); have B2x := B2.kept g3 (by simp); clear b1_2_0 b1_2_1 b1_2_2 b1_2_3 b1_2_4 b2_2_0 b2_2_1; have b1_3_0 := B1xx.cell 0 (v := .int .u8 k) rfl; have b1_3_1 := B1xx.cell 1 (v := .int .i64 x) rfl; have b1_3_2 := B1xx.cell 2 (v := .int .i64 y) rfl; have b1_3_3 := B1xx.cell 3 (v := .int .u8 t) rfl; have b1_3_4 := B1xx.cell 4 (v := .int .i64 z) rfl; have b2_3_0 := B2x.cell 0 (v := .int .i64 a) rfl; have b2_3_1 := B2x.cell 1 (v := .int .i64 b) rfl) | (go_at_call 12; (fail_if_success (guard_hyp g4)); refine (ck _).mono ?_; rintro e w4 ⟨rfl, g4⟩; have G4 := gb_trans G3 g4; have B1xxx := B1xx.kept g4 (by simp); have B2xx := B2x.kept g4 (by simp); clear b1_3_0 b1_3_1 b1_3_2 b1_3_3 b1_3_4 b2_3_0 b2_3_1; have b1_4_0 := B1xxx.cell 0 (v := .int .u8 k) rfl; have b1_4_1 := B1xxx.cell 1 (v := .int .i64 x) rfl; have b1_4_2 := B1xxx.cell 2 (v := .int .i64 y) rfl; have b1_4_3 := B1xxx.cell 3 (v := .int .u8 t) rfl; have b1_4_4 := B1xxx.cell 4 (v := .int .i64 z) rfl; have b2_4_0 := B2xx.cell 0 (v := .int .i64 a) rfl; have b2_4_1 := B2xx.cell 1 (v := .int .i64 b) rfl) | (go_at_call 13; (fail_if_success (guard_hyp g5)); refine (gd _).mono ?_; rintro e w5 ⟨rfl, g5⟩; have G5 := gb_trans G4 g5; have B1xxxx := B1xxx.kept g5 (by simp); have B2xxx := B2xx.kept g5 (by simp); clear b1_4_0 b1_4_1 b1_4_2 b1_4_3 b1_4_4 b2_4_0 b2_4_1; have b1_5_0 := B1xxxx.cell 0 (v := .int .u8 k) rfl; have b1_5_1 := B1xxxx.cell 1 (v := .int .i64 x) rfl; have b1_5_2 := B1xxxx.cell 2 (v := .int .i64 y) rfl; have b1_5_3 := B1xxxx.cell 3 (v := .int .u8 t) rfl; have b1_5_4 := B1xxxx.cell 4 (v := .int .i64 z) rfl; have b2_5_0 := B2xxx.cell 0 (v := .int .i64 a) rfl; have b2_5_1 := B2xxx.cell 1 (v := .int .i64 b) rfl))
  go_ret
  exact ⟨rfl, G5⟩
theorem topF (k x y t z a b : Int) (sp : Option Addr) (nt ct : Nat) (ck : ∀ w, Calls Try.prog 12 #[.agg #[.int .u8 k, .int .i64 x, .int .i64 y, .int .u8 t, .int .i64 z]] w fun e w' => e = .returned (.int .i64 0) ∧ w.grownBy w' none) (gd : ∀ w, Calls Try.prog 13 #[.agg #[.int .u8 k, .int .i64 x, .int .i64 y, .int .u8 t, .int .i64 z]] w fun e w' => e = .returned (.bool true) ∧ w.grownBy w' none) (hf : nrF a b = false) (w : World) : Calls Try.prog 4 #[.agg #[.int .u8 k, .int .i64 x, .int .i64 y, .int .u8 t, .int .i64 z], .agg #[.int .i64 a, .int .i64 b], .slice sp nt ct] w fun e w' => e = .returned (.bool true) ∧ w.grownBy w' none := by
  obtain ⟨W1, hW1, sz1, g1, B1⟩ := boxn w #[.int .u8 k, .int .i64 x, .int .i64 y, .int .u8 t, .int .i64 z] 23
  obtain ⟨W2, hW2, sz2, g2, B2⟩ := boxn W1 #[.int .i64 a, .int .i64 b] 33
  have G2 := gb_trans g1 g2
  have B1x := B1.kept g2 (by simp)
  have b1_2_0 := B1x.cell 0 (v := .int .u8 k) rfl
  have b1_2_1 := B1x.cell 1 (v := .int .i64 x) rfl
  have b1_2_2 := B1x.cell 2 (v := .int .i64 y) rfl
  have b1_2_3 := B1x.cell 3 (v := .int .u8 t) rfl
  have b1_2_4 := B1x.cell 4 (v := .int .i64 z) rfl
  have b2_2_0 := B2.cell 0 (v := .int .i64 a) rfl
  have b2_2_1 := B2.cell 1 (v := .int .i64 b) rfl
  go_enter Try.func4, Try.ntmps4
  go_wp2_with (first | (go_at_call 11; (fail_if_success (guard_hyp g3)); refine (gluesC _).mono ?_; rintro e w3 ⟨rfl, g3⟩; have G3 := gb_trans G2 g3; have B1xx := B1x.kept g3 (by simp); have B2x := B2.kept g3 (by simp); clear b1_2_0 b1_2_1 b1_2_2 b1_2_3 b1_2_4 b2_2_0 b2_2_1; have b1_3_0 := B1xx.cell 0 (v := .int .u8 k) rfl; have b1_3_1 := B1xx.cell 1 (v := .int .i64 x) rfl; have b1_3_2 := B1xx.cell 2 (v := .int .i64 y) rfl; have b1_3_3 := B1xx.cell 3 (v := .int .u8 t) rfl; have b1_3_4 := B1xx.cell 4 (v := .int .i64 z) rfl; have b2_3_0 := B2x.cell 0 (v := .int .i64 a) rfl; have b2_3_1 := B2x.cell 1 (v := .int .i64 b) rfl) | (go_at_call 12; (fail_if_success (guard_hyp g4)); refine (ck _).mono ?_; rintro e w4 ⟨rfl, g4⟩; have G4 := gb_trans G3 g4; have B1xxx := B1xx.kept g4 (by simp); have B2xx := B2x.kept g4 (by simp); clear b1_3_0 b1_3_1 b1_3_2 b1_3_3 b1_3_4 b2_3_0 b2_3_1; have b1_4_0 := B1xxx.cell 0 (v := .int .u8 k) rfl; have b1_4_1 := B1xxx.cell 1 (v := .int .i64 x) rfl; have b1_4_2 := B1xxx.cell 2 (v := .int .i64 y) rfl; have b1_4_3 := B1xxx.cell 3 (v := .int .u8 t) rfl; have b1_4_4 := B1xxx.cell 4 (v := .int .i64 z) rfl; have b2_4_0 := B2xx.cell 0 (v := .int .i64 a) rfl; have b2_4_1 := B2xx.cell 1 (v := .int .i64 b) rfl) | (go_at_call 13; (fail_if_success (guard_hyp g5)); refine (gd _).mono ?_; rintro e w5 ⟨rfl, g5⟩; have G5 := gb_trans G4 g5; have B1xxxx := B1xxx.kept g5 (by simp); have B2xxx := B2xx.kept g5 (by simp); clear b1_4_0 b1_4_1 b1_4_2 b1_4_3 b1_4_4 b2_4_0 b2_4_1; have b1_5_0 := B1xxxx.cell 0 (v := .int .u8 k) rfl; have b1_5_1 := B1xxxx.cell 1 (v := .int .i64 x) rfl; have b1_5_2 := B1xxxx.cell 2 (v := .int .i64 y) rfl; have b1_5_3 := B1xxxx.cell 3 (v := .int .u8 t) rfl; have b1_5_4 := B1xxxx.cell 4 (v := .int .i64 z) rfl; have b2_5_0 := B2xxx.cell 0 (v := .int .i64 a) rfl; have b2_5_1 := B2xxx.cell 1 (v := .int .i64 b) rfl) | (go_at_call 14; (fail_if_success (guard_hyp g6)); refine (nrC _ _ _).mono ?_; rintro e w6 ⟨rfl, g6⟩; have G6 := gb_trans G5 g6; have B1xxxxx := B1xxxx.kept g6 (by simp); have B2xxxx := B2xxx.kept g6 (by simp); clear b1_5_0 b1_5_1 b1_5_2 b1_5_3 b1_5_4 b2_5_0 b2_5_1; have b1_6_0 := B1xxxxx.cell 0 (v := .int .u8 k) rfl; have b1_6_1 := B1xxxxx.cell 1 (v := .int .i64 x) rfl; have b1_6_2 := B1xxxxx.cell 2 (v := .int .i64 y) rfl; have b1_6_3 := B1xxxxx.cell 3 (v := .int .u8 t) rfl; have b1_6_4 := B1xxxxx.cell 4 (v := .int .i64 z) rfl; have b2_6_0 := B2xxxx.cell 0 (v := .int .i64 a) rfl; have b2_6_1 := B2xxxx.cell 1 (v := .int .i64 b) rfl))
  go_ret
  exact ⟨rfl, G6⟩

def fXd (k x y t z : Int) (i : Nat) (A B : Int) : Int := (if 0 < x ∧ i = 0 then A + x else Fo.gv k x (3 - t) z (A - To.fi x) + To.fi x)
def fYd (k x y t z : Int) (i : Nat) (A B : Int) : Int := (if 0 < x ∧ i = 0 then Fo.gv k y t z (B - To.fi y) + To.fi y else B + y)
def gXd (k x y t z : Int) (i : Nat) (A B : Int) : Int := (if 0 < x ∧ i = 0 then A - x else Fo.gw k x (3 - t) z (A - To.fi x) + To.fi x)
def gYd (k x y t z : Int) (i : Nat) (A B : Int) : Int := (if 0 < x ∧ i = 0 then Fo.gw k y t z (B - To.fi y) + To.fi y else B - y)
theorem glu_at (k x y t z : Int) (hx : 0 ≤ x) (hy : 0 ≤ y) (i P : Nat) (X Y : Int) (h : (gluL k x y t z)[i]? = some (P, X, Y)) : (0 < x ∧ i = 0 ∧ gluA k x y t z = (P, X, Y)) ∨ (¬ (0 < x ∧ i = 0) ∧ 0 < y ∧ gluB k x y t z = (P, X, Y)) := by
  unfold gluL at h
  by_cases x0 : 0 < x
  · by_cases y0 : 0 < y
    · rw [if_pos x0, if_pos y0] at h
      match i, h with
      | 0, h => exact .inl ⟨x0, rfl, by simpa using h⟩
      | 1, h => exact .inr ⟨by simp, y0, by simpa using h⟩
      | n + 2, h => simp at h
    · rw [if_pos x0, if_neg y0] at h
      match i, h with
      | 0, h => exact .inl ⟨x0, rfl, by simpa using h⟩
      | n + 1, h => simp at h
  · by_cases y0 : 0 < y
    · rw [if_neg x0, if_pos y0] at h
      match i, h with
      | 0, h => exact .inr ⟨fun q => x0 q.1, y0, by simpa using h⟩
      | n + 1, h => simp at h
    · rw [if_neg x0, if_neg y0] at h
      simp at h
theorem glu_len (k x y t z : Int) : ((gluL k x y t z).length : Int) = (if 0 < x then 1 else 0) + (if 0 < y then 1 else 0) := by
  unfold gluL
  split <;> split <;> simp
theorem glu_act (k x y t z : Int) (hk : k = 2 ∨ k = 3 ∨ k = 4) (hx : 0 ≤ x) (hy : 0 ≤ y) (i P : Nat) (X Y : Int) (h : (gluL k x y t z)[i]? = some (P, X, Y)) (a b : Int) : lx P a b + X = fXd k x y t z i a b ∧ ly P a b + Y = fYd k x y t z i a b ∧ lx (back P) a b + -(lx (back P) X Y) = gXd k x y t z i a b ∧ ly (back P) a b + -(ly (back P) X Y) = gYd k x y t z i a b := by
  unfold fXd fYd gXd gYd
  rcases glu_at k x y t z hx hy i P X Y h with ⟨h1, h2, h3⟩ | ⟨h1, h2, h3⟩
  · have := actA k x y t z hk a b
    rw [h3] at this
    rw [if_pos ⟨h1, h2⟩, if_pos ⟨h1, h2⟩, if_pos ⟨h1, h2⟩, if_pos ⟨h1, h2⟩]
    exact this
  · have := actB k x y t z hk a b
    rw [h3] at this
    rw [if_neg h1, if_neg h1, if_neg h1, if_neg h1]
    exact this

theorem fr_ofT {n : Int} (h : -1099511627776 ≤ n ∧ n ≤ 1099511627776) : To.frB n = false := by
  unfold To.frB
  simp
  omega
theorem same_oneT (k x y t z a b a2 b2 : Int) (ht : 0 ≤ t) (h : Tp.chk k x y t z = 0) (hg : glB k = true) (f1 : -1099511627776 ≤ a ∧ a ≤ 1099511627776) (f2 : -1099511627776 ≤ b ∧ b ≤ 1099511627776) (f3 : -1099511627776 ≤ a2 ∧ a2 ≤ 1099511627776) (f4 : -1099511627776 ≤ b2 ∧ b2 ≤ 1099511627776)
    (e1 : Fo.cx k x y t z (a - To.fi x) (b - To.fi y) = Fo.cx k x y t z (a2 - To.fi x) (b2 - To.fi y)) (e2 : Fo.cy k x y t z (a - To.fi x) (b - To.fi y) = Fo.cy k x y t z (a2 - To.fi x) (b2 - To.fi y)) (w : World) :
    Calls Try.prog 19 #[.agg #[.int .u8 k, .int .i64 x, .int .i64 y, .int .u8 t, .int .i64 z], .agg #[.int .i64 a, .int .i64 b], .agg #[.int .i64 a2, .int .i64 b2]] w fun e w' => e = .returned (.tuple #[.bool true, .int .i64 0]) ∧ w.grownBy w' none := by
  have z1 : ceE k x y t z a b = 0 := by unfold ceE; rw [if_pos h, fr_ofT f1, fr_ofT f2, hg]; simp
  have z2 : ceE k x y t z a2 b2 = 0 := by unfold ceE; rw [if_pos h, fr_ofT f3, fr_ofT f4, hg]; simp
  have z3 : saE k x y t z a b a2 b2 = 0 := by unfold saE; rw [if_pos h, fr_ofT f1, fr_ofT f2, fr_ofT f3, fr_ofT f4, if_pos z1, z2]; simp
  have z4 : saB k x y t z a b a2 b2 = true := by
    unfold saB
    rw [z3, ceX_gl hg, ceX_gl hg, ceY_gl hg, ceY_gl hg, e1, e2]
    simp
  have := sameC k x y t z a b a2 b2 ht w
  rw [z3, z4] at this
  exact this
theorem cell_oneT (k x y t z a b : Int) (ht : 0 ≤ t) (h : Tp.chk k x y t z = 0) (hg : glB k = true) (f1 : -1099511627776 ≤ a ∧ a ≤ 1099511627776) (f2 : -1099511627776 ≤ b ∧ b ≤ 1099511627776) (CX CY : Int) (e1 : Fo.cx k x y t z (a - To.fi x) (b - To.fi y) = CX) (e2 : Fo.cy k x y t z (a - To.fi x) (b - To.fi y) = CY) (w : World) :
    Calls Try.prog 9 #[.agg #[.int .u8 k, .int .i64 x, .int .i64 y, .int .u8 t, .int .i64 z], .agg #[.int .i64 a, .int .i64 b]] w fun e w' => e = .returned (.tuple #[.agg #[.int .i64 (CX + To.fi x), .int .i64 (CY + To.fi y)], .int .i64 0]) ∧ w.grownBy w' none := by
  have z1 : ceE k x y t z a b = 0 := by unfold ceE; rw [if_pos h, fr_ofT f1, fr_ofT f2, hg]; simp
  have := cellC k x y t z a b ht w
  rw [ce_yes z1, z1, ceX_gl hg, ceY_gl hg, e1, e2] at this
  exact this
theorem cx_smT {k x y t z u v : Int} (G : Fo.Gl k x y t) (sx : x ≤ 65536) : (0 ≤ Fo.cx k x y t z u v ∧ Fo.cx k x y t z u v ≤ 65536) ∨ (x = 0 ∧ Fo.cx k x y t z u v = u) := by
  by_cases hx : 1 ≤ x
  · have := Fo.cx_bd k y t z u v hx
    omega
  · have a := G.ended; have b := G.torus; have c := G.kind; have d := G.wide
    have hk : k = 2 := by rcases c with q | q | q <;> first | exact q | (have := a (by omega); omega)
    have t1 : ¬ t = 1 := fun q => by have := b hk (.inl q); omega
    have x0 : x = 0 := by omega
    subst hk x0
    rw [Fo.cx_2 t1, Fo.wi_zero]
    exact .inr ⟨rfl, rfl⟩
set_option maxHeartbeats 1000000 in
theorem top_all (k x y t z a b : Int) (ht : 0 ≤ t) (sp : Option Addr) (nt ct : Nat) (w : World) (f : Nat → Nat) (rb : Rb w sp nt f) : Calls Try.prog 4 #[.agg #[.int .u8 k, .int .i64 x, .int .i64 y, .int .u8 t, .int .i64 z], .agg #[.int .i64 a, .int .i64 b], .slice sp nt ct] w fun e w' => e = .returned (.bool true) ∧ w.grownBy w' none := by
  have ck := To.refCheckC k x y t z ht
  have gd := refGluedC k x y t z
  by_cases h : Tp.chk k x y t z = 0
  · rw [h] at ck
    cases hg : glB k with
    | false => rw [hg] at gd; exact topN k x y t z a b sp nt ct ck gd w
    | true =>
      rw [hg] at gd
      cases hnr : nrF a b with
      | false => exact topF k x y t z a b sp nt ct ck gd hnr w
      | true =>
        have ok := Tp.ok_of h
        have hk := gl_iff.1 hg
        have G := Fo.gl_of ht ok hk
        have hx := ok.wide
        have hy := ok.high
        have fx := fi_bd hx
        have fy := fi_bd hy
        have nb := nrF_iff.1 hnr
        obtain ⟨CX, hCX⟩ : ∃ c, Fo.cx k x y t z (a - To.fi x) (b - To.fi y) = c := ⟨_, rfl⟩
        obtain ⟨CY, hCY⟩ : ∃ c, Fo.cy k x y t z (a - To.fi x) (b - To.fi y) = c := ⟨_, rfl⟩
        have cb : -1099511627776 ≤ (CX + To.fi x) ∧ (CX + To.fi x) ≤ 1099511627776 := by
          have := cx_smT (z := z) (u := a - To.fi x) (v := b - To.fi y) G hx.2
          rw [hCX] at this
          omega
        have cb2 : -1099511627776 ≤ (CY + To.fi y) ∧ (CY + To.fi y) ≤ 1099511627776 := by
          have : (0 ≤ CY ∧ CY ≤ 65536) ∨ (y = 0 ∧ CY = b - To.fi y) := by
            have q := cx_smT (z := z) (u := b - To.fi y) (v := a - To.fi x) G.swap hy.2
            have e : Fo.cx k y x (3 - t) z (b - To.fi y) (a - To.fi x) = CY := hCY
            rw [e] at q
            exact q
          omega
        have iX : x = 0 ∨ (0 ≤ CX ∧ CX < x) := by
          by_cases q : 1 ≤ x
          · right; rw [← hCX]; exact Fo.cx_bd k y t z _ _ q
          · left; omega
        have iY : y = 0 ∨ (0 ≤ CY ∧ CY < y) := by
          by_cases q : 1 ≤ y
          · right; rw [← hCY]; exact Fo.cy_bd k x t z _ _ q
          · left; omega
        have hn := glu_len k x y t z
        have eX : ∀ (i : Nat) (A B : Int), fXd k x y t z i A B - To.fi x = (if 0 < x ∧ i = 0 then (A - To.fi x) + x else Fo.gv k x (3 - t) z (A - To.fi x)) := fun i A B => by unfold fXd; split <;> omega
        have eY : ∀ (i : Nat) (A B : Int), fYd k x y t z i A B - To.fi y = (if 0 < x ∧ i = 0 then Fo.gv k y t z (B - To.fi y) else (B - To.fi y) + y) := fun i A B => by unfold fYd; split <;> omega
        have eX' : ∀ (i : Nat) (A B : Int), gXd k x y t z i A B - To.fi x = (if 0 < x ∧ i = 0 then (A - To.fi x) - x else Fo.gw k x (3 - t) z (A - To.fi x)) := fun i A B => by unfold gXd; split <;> omega
        have eY' : ∀ (i : Nat) (A B : Int), gYd k x y t z i A B - To.fi y = (if 0 < x ∧ i = 0 then Fo.gw k y t z (B - To.fi y) else (B - To.fi y) - y) := fun i A B => by unfold gYd; split <;> omega
        have cl : ∀ i : Nat, i < (gluL k x y t z).length → ∀ A B : Int, (Fo.cx k x y t z (fXd k x y t z i A B - To.fi x) (fYd k x y t z i A B - To.fi y) = Fo.cx k x y t z (A - To.fi x) (B - To.fi y) ∧ Fo.cy k x y t z (fXd k x y t z i A B - To.fi x) (fYd k x y t z i A B - To.fi y) = Fo.cy k x y t z (A - To.fi x) (B - To.fi y)) ∧ (Fo.cx k x y t z (gXd k x y t z i A B - To.fi x) (gYd k x y t z i A B - To.fi y) = Fo.cx k x y t z (A - To.fi x) (B - To.fi y) ∧ Fo.cy k x y t z (gXd k x y t z i A B - To.fi x) (gYd k x y t z i A B - To.fi y) = Fo.cy k x y t z (A - To.fi x) (B - To.fi y)) := fun i hi A B => by
          rw [eX, eY, eX', eY']
          by_cases q : 0 < x ∧ i = 0
          · rw [if_pos q, if_pos q, if_pos q, if_pos q]
            exact ⟨Fo.gl_a z _ _ G (by omega), Fo.gl_a' z _ _ G (by omega)⟩
          · have y0 : 0 < y := by
              obtain ⟨⟨P, X, Y⟩, hP⟩ : ∃ m, (gluL k x y t z)[i]? = some m := ⟨_, List.getElem?_eq_getElem hi⟩
              rcases glu_at k x y t z hx.1 hy.1 i P X Y hP with r | r
              · exact absurd ⟨r.1, r.2.1⟩ q
              · exact r.2.1
            rw [if_neg q, if_neg q, if_neg q, if_neg q]
            exact ⟨Fo.gl_b z _ _ G (by omega), Fo.gl_b' z _ _ G (by omega)⟩
        have gl := fun w => glueP k x y t z ht h hk w
        have hhas : ∀ w, Calls Try.prog 16 #[.agg #[.int .u8 k, .int .i64 x, .int .i64 y, .int .u8 t, .int .i64 z], .agg #[.int .i64 (CX + To.fi x), .int .i64 (CY + To.fi y)]] w fun e w' => e = .returned (.tuple #[.bool true, .int .i64 0]) ∧ w.grownBy w' none := fun w => by
          have q := To.refHasYes k x y t z (CX + To.fi x) (CY + To.fi y) ht h (fr_ofT cb) (fr_ofT cb2) hx hy w
          have l1 : To.liB (CX + To.fi x) x = true := li_iff.2 (by omega)
          have l2 : To.liB (CY + To.fi y) y = true := li_iff.2 (by omega)
          rw [l1, l2] at q
          exact q
        obtain ⟨RX, RY, ris, RE, hri, hR⟩ : ∃ RX RY ris RE, (∀ w, Calls Try.prog 8 #[.agg #[.int .u8 k, .int .i64 x, .int .i64 y, .int .u8 t, .int .i64 z], .agg #[.int .i64 a, .int .i64 b]] w fun e w' => e = .returned (.tuple #[.agg #[.int .i64 RX, .int .i64 RY], .bool ris, .int .i64 RE]) ∧ w.grownBy w' none) ∧ ((RE == 0) = false ∨ ((RE == 0) = true ∧ ris = true ∧ CX + To.fi x = RX ∧ CY + To.fi y = RY)) := by
          by_cases e : riE k x y t z a b = 0
          · have rbT : riB k x y t z a b = true := by
              unfold riB
              rw [e]
              have k1 : k ≠ 1 := by omega
              simp [k1]
            refine ⟨riX k x y t z a b, riY k x y t z a b, true, 0, fun w => ?_, .inr ⟨rfl, rfl, ?_, ?_⟩⟩
            · have q := ringC k x y t z a b ht w
              rw [riV_yes rbT, rbT, e] at q
              exact q
            · unfold riX
              cases g : giB x y a b with
              | true =>
                unfold giB at g
                have g1 := li_iff.1 (Bool.and_eq_true_iff.1 g).1
                have g2 := li_iff.1 (Bool.and_eq_true_iff.1 g).2
                rw [if_pos rfl, ← hCX, Fo.cx_in k t z g1 g2]
                omega
              | false => rw [if_neg (by decide), if_neg (by omega), hCX]
            · unfold riY
              cases g : giB x y a b with
              | true =>
                unfold giB at g
                have g1 := li_iff.1 (Bool.and_eq_true_iff.1 g).1
                have g2 := li_iff.1 (Bool.and_eq_true_iff.1 g).2
                rw [if_pos rfl, ← hCY, Fo.cy_in k t z g1 g2]
                omega
              | false => rw [if_neg (by decide), if_neg (by omega), hCY]
          · have rbF : riB k x y t z a b = false := by
              unfold riB
              simp [e]
            refine ⟨0, 0, false, riE k x y t z a b, fun w => ?_, .inl (by simpa using e)⟩
            have q := ringC k x y t z a b ht w
            rw [riV_no rbF, rbF] at q
            exact q
        refine top_core k x y t z a b (CX + To.fi x) (CY + To.fi y) RX RY RE ris sp nt ct gluesC ck gd nrF nrC hnr (gluL k x y t z) (gluL k x y t z).length rfl (by split at hn <;> split at hn <;> omega) gl
            (cell_oneT k x y t z a b ht h hg (by omega) (by omega) CX CY hCX hCY)
            (cell_oneT k x y t z (CX + To.fi x) (CY + To.fi y) ht h hg cb cb2 CX CY (by rw [Int.add_sub_cancel, Int.add_sub_cancel]; exact Fo.cx_in k t z iX iY) (by rw [Int.add_sub_cancel, Int.add_sub_cancel]; exact Fo.cy_in k t z iX iY))
            hhas hri hR w f (fun w' g => rb.kept g) (by decide)
            (fun A B => nrF A B = true ∧ Fo.cx k x y t z (A - To.fi x) (B - To.fi y) = CX ∧ Fo.cy k x y t z (A - To.fi x) (B - To.fi y) = CY)
            (fXd k x y t z) (fYd k x y t z) (gXd k x y t z) (gYd k x y t z) (glu_act k x y t z hk hx.1 hy.1) ⟨hnr, hCX, hCY⟩
            (fun A B q => by have := nrF_iff.1 q.1; exact ⟨decide_eq_true (by omega), decide_eq_true (by omega)⟩)
            (fun j A B hj q r => ⟨r, (cl j hj A B).1.1.trans q.2.1, (cl j hj A B).1.2.trans q.2.2⟩)
            (fun j A B hj q r => ⟨r, (cl j hj A B).2.1.trans q.2.1, (cl j hj A B).2.2.trans q.2.2⟩)
            (fun A B q => by have := nrF_iff.1 q.1; exact cell_oneT k x y t z A B ht h hg (by omega) (by omega) CX CY q.2.1 q.2.2)
            (fun A B q => by have := nrF_iff.1 q.1; exact same_oneT k x y t z a b A B ht h hg (by omega) (by omega) (by omega) (by omega) (hCX.trans q.2.1.symm) (hCY.trans q.2.2.symm))
  · exact topE k x y t z a b sp nt ct _ (by simpa using h) ck w
theorem top_top (k x y t z a b : Int) (nt ct : Nat) (sp : Option Addr) (f : Nat → Nat) (_ : 0 ≤ k ∧ k ≤ 255) (_ : -9223372036854775808 ≤ x ∧ x ≤ 9223372036854775807) (_ : -9223372036854775808 ≤ y ∧ y ≤ 9223372036854775807) (ht : 0 ≤ t ∧ t ≤ 255) (_ : -9223372036854775808 ≤ z ∧ z ≤ 9223372036854775807) (_ : -9223372036854775808 ≤ a ∧ a ≤ 9223372036854775807) (_ : -9223372036854775808 ≤ b ∧ b ≤ 9223372036854775807) (w : World) (rb : Rb w sp nt f) : Calls Try.prog 4 #[.agg #[.int .u8 k, .int .i64 x, .int .i64 y, .int .u8 t, .int .i64 z], .agg #[.int .i64 a, .int .i64 b], .slice sp nt ct] w fun e w' => e = .returned (.bool true) ∧ Below w.heap.size w w' := (top_all k x y t z a b ht.1 sp nt ct w f rb).mono fun e w' ⟨p, q⟩ => ⟨p, gb_below q⟩
end Go.Proofs.Ytgiiaokkmnjckab
