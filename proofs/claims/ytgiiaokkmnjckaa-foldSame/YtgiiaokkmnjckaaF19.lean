/- The walk of FoldSame. -/
import Derived.Test.YtgiiaokkmnjckaaF17
import Derived.Test.YtgiiaokkmnjckaaF18
namespace Go.Proofs.Ytgiiaokkmnjckaa
open Go.RowKit
open Fl
set_option linter.unusedVariables false
set_option linter.unusedSimpArgs false
set_option maxRecDepth 100000

set_option maxHeartbeats 1000000 in
theorem same_walk (k x y t z a b a2 b2 : Int) (ht : 0 ≤ t) (w : World) : Calls Try.prog 6 #[.agg #[.int .u8 k, .int .i64 x, .int .i64 y, .int .u8 t, .int .i64 z], .agg #[.int .i64 a, .int .i64 b], .agg #[.int .i64 a2, .int .i64 b2]] w fun e w' => e = .returned (.bool true) ∧ Below w.heap.size w w' := by
  obtain ⟨W1, hW1, sz1, g1, B1⟩ := boxn w #[.int .u8 k, .int .i64 x, .int .i64 y, .int .u8 t, .int .i64 z] 23
  obtain ⟨W2, hW2, sz2, g2, B2⟩ := boxn W1 #[.int .i64 a, .int .i64 b] 25
  have G2 := gb_trans g1 g2
  have B1x := B1.kept g2 (by simp)
  obtain ⟨W3, hW3, sz3, g3, B3⟩ := boxn W2 #[.int .i64 a2, .int .i64 b2] 25
  have G3 := gb_trans G2 g3
  have B1xx := B1x.kept g3 (by simp)
  have B2x := B2.kept g3 (by simp)
  have b1_3_0 := B1xx.cell 0 (v := .int .u8 k) rfl
  have b1_3_1 := B1xx.cell 1 (v := .int .i64 x) rfl
  have b1_3_2 := B1xx.cell 2 (v := .int .i64 y) rfl
  have b1_3_3 := B1xx.cell 3 (v := .int .u8 t) rfl
  have b1_3_4 := B1xx.cell 4 (v := .int .i64 z) rfl
  have b2_3_0 := B2x.cell 0 (v := .int .i64 a) rfl
  have b2_3_1 := B2x.cell 1 (v := .int .i64 b) rfl
  have b3_3_0 := B3.cell 0 (v := .int .i64 a2) rfl
  have b3_3_1 := B3.cell 1 (v := .int .i64 b2) rfl
  go_enter Try.func6, Try.ntmps6
  go_wp2_with (first | (go_at_call 9; (fail_if_success (guard_hyp g4)); refine (awakeC _).mono ?_; rintro e w4 ⟨rfl, g4⟩; have G4 := gb_trans G3 g4; have B1xxx := B1xx.kept g4 (by simp); have B2xx := B2x.kept g4 (by simp); have B3x := B3.kept g4 (by simp); clear b1_3_0 b1_3_1 b1_3_2 b1_3_3 b1_3_4 b2_3_0 b2_3_1 b3_3_0 b3_3_1; have b1_4_0 := B1xxx.cell 0 (v := .int .u8 k) rfl; have b1_4_1 := B1xxx.cell 1 (v := .int .i64 x) rfl; have b1_4_2 := B1xxx.cell 2 (v := .int .i64 y) rfl; have b1_4_3 := B1xxx.cell 3 (v := .int .u8 t) rfl; have b1_4_4 := B1xxx.cell 4 (v := .int .i64 z) rfl; have b2_4_0 := B2xx.cell 0 (v := .int .i64 a) rfl; have b2_4_1 := B2xx.cell 1 (v := .int .i64 b) rfl; have b3_4_0 := B3x.cell 0 (v := .int .i64 a2) rfl; have b3_4_1 := B3x.cell 1 (v := .int .i64 b2) rfl) | (go_at_call 19; (fail_if_success (guard_hyp g5)); refine (sameC _ _ _ _ _ _ _ _ _ ht _).mono ?_; rintro e w5 ⟨rfl, g5⟩; have G5 := gb_trans G4 g5; have B1xxxx := B1xxx.kept g5 (by simp); have B2xxx := B2xx.kept g5 (by simp); have B3xx := B3x.kept g5 (by simp); clear b1_4_0 b1_4_1 b1_4_2 b1_4_3 b1_4_4 b2_4_0 b2_4_1 b3_4_0 b3_4_1; have b1_5_0 := B1xxxx.cell 0 (v := .int .u8 k) rfl; have b1_5_1 := B1xxxx.cell 1 (v := .int .i64 x) rfl; have b1_5_2 := B1xxxx.cell 2 (v := .int .i64 y) rfl; have b1_5_3 := B1xxxx.cell 3 (v := .int .u8 t) rfl; have b1_5_4 := B1xxxx.cell 4 (v := .int .i64 z) rfl; have b2_5_0 := B2xxx.cell 0 (v := .int .i64 a) rfl; have b2_5_1 := B2xxx.cell 1 (v := .int .i64 b) rfl; have b3_5_0 := B3xx.cell 0 (v := .int .i64 a2) rfl; have b3_5_1 := B3xx.cell 1 (v := .int .i64 b2) rfl) | (go_at_call 20; (fail_if_success (guard_hyp g6)); refine (refSameC _ _ _ _ _ _ _ _ _ ht _).mono ?_; rintro e w6 ⟨rfl, g6⟩; have G6 := gb_trans G5 g6; have B1xxxxx := B1xxxx.kept g6 (by simp); have B2xxxx := B2xxx.kept g6 (by simp); have B3xxx := B3xx.kept g6 (by simp); clear b1_5_0 b1_5_1 b1_5_2 b1_5_3 b1_5_4 b2_5_0 b2_5_1 b3_5_0 b3_5_1; have b1_6_0 := B1xxxxx.cell 0 (v := .int .u8 k) rfl; have b1_6_1 := B1xxxxx.cell 1 (v := .int .i64 x) rfl; have b1_6_2 := B1xxxxx.cell 2 (v := .int .i64 y) rfl; have b1_6_3 := B1xxxxx.cell 3 (v := .int .u8 t) rfl; have b1_6_4 := B1xxxxx.cell 4 (v := .int .i64 z) rfl; have b2_6_0 := B2xxxx.cell 0 (v := .int .i64 a) rfl; have b2_6_1 := B2xxxx.cell 1 (v := .int .i64 b) rfl; have b3_6_0 := B3xxx.cell 0 (v := .int .i64 a2) rfl; have b3_6_1 := B3xxx.cell 1 (v := .int .i64 b2) rfl) | (go_at_call 19; (fail_if_success (guard_hyp g7)); refine (sameC _ _ _ _ _ _ _ _ _ ht _).mono ?_; rintro e w7 ⟨rfl, g7⟩; have G7 := gb_trans G6 g7; have B1xxxxxx := B1xxxxx.kept g7 (by simp); have B2xxxxx := B2xxxx.kept g7 (by simp); have B3xxxx := B3xxx.kept g7 (by simp); clear b1_6_0 b1_6_1 b1_6_2 b1_6_3 b1_6_4 b2_6_0 b2_6_1 b3_6_0 b3_6_1; have b1_7_0 := B1xxxxxx.cell 0 (v := .int .u8 k) rfl; have b1_7_1 := B1xxxxxx.cell 1 (v := .int .i64 x) rfl; have b1_7_2 := B1xxxxxx.cell 2 (v := .int .i64 y) rfl; have b1_7_3 := B1xxxxxx.cell 3 (v := .int .u8 t) rfl; have b1_7_4 := B1xxxxxx.cell 4 (v := .int .i64 z) rfl; have b2_7_0 := B2xxxxx.cell 0 (v := .int .i64 a) rfl; have b2_7_1 := B2xxxxx.cell 1 (v := .int .i64 b) rfl; have b3_7_0 := B3xxxx.cell 0 (v := .int .i64 a2) rfl; have b3_7_1 := B3xxxx.cell 1 (v := .int .i64 b2) rfl) | (go_at_call 20; (fail_if_success (guard_hyp g8)); refine (refSameC _ _ _ _ _ _ _ _ _ ht _).mono ?_; rintro e w8 ⟨rfl, g8⟩; have G8 := gb_trans G7 g8; have B1xxxxxxx := B1xxxxxx.kept g8 (by simp); have B2xxxxxx := B2xxxxx.kept g8 (by simp); have B3xxxxx := B3xxxx.kept g8 (by simp); clear b1_7_0 b1_7_1 b1_7_2 b1_7_3 b1_7_4 b2_7_0 b2_7_1 b3_7_0 b3_7_1; have b1_8_0 := B1xxxxxxx.cell 0 (v := .int .u8 k) rfl; have b1_8_1 := B1xxxxxxx.cell 1 (v := .int .i64 x) rfl; have b1_8_2 := B1xxxxxxx.cell 2 (v := .int .i64 y) rfl; have b1_8_3 := B1xxxxxxx.cell 3 (v := .int .u8 t) rfl; have b1_8_4 := B1xxxxxxx.cell 4 (v := .int .i64 z) rfl; have b2_8_0 := B2xxxxxx.cell 0 (v := .int .i64 a) rfl; have b2_8_1 := B2xxxxxx.cell 1 (v := .int .i64 b) rfl; have b3_8_0 := B3xxxxx.cell 0 (v := .int .i64 a2) rfl; have b3_8_1 := B3xxxxx.cell 1 (v := .int .i64 b2) rfl))
  go_ret
  refine ⟨retB ?_, gb_below G8⟩
  simp
theorem same_top (k x y t z a b a2 b2 : Int) (_ : 0 ≤ k ∧ k ≤ 255) (_ : -9223372036854775808 ≤ x ∧ x ≤ 9223372036854775807) (_ : -9223372036854775808 ≤ y ∧ y ≤ 9223372036854775807) (ht : 0 ≤ t ∧ t ≤ 255) (_ : -9223372036854775808 ≤ z ∧ z ≤ 9223372036854775807) (_ : -9223372036854775808 ≤ a ∧ a ≤ 9223372036854775807) (_ : -9223372036854775808 ≤ b ∧ b ≤ 9223372036854775807) (_ : -9223372036854775808 ≤ a2 ∧ a2 ≤ 9223372036854775807) (_ : -9223372036854775808 ≤ b2 ∧ b2 ≤ 9223372036854775807) (w : World) : Calls Try.prog 6 #[.agg #[.int .u8 k, .int .i64 x, .int .i64 y, .int .u8 t, .int .i64 z], .agg #[.int .i64 a, .int .i64 b], .agg #[.int .i64 a2, .int .i64 b2]] w fun e w' => e = .returned (.bool true) ∧ Below w.heap.size w w' := same_walk k x y t z a b a2 b2 ht.1 w
end Go.Proofs.Ytgiiaokkmnjckaa
