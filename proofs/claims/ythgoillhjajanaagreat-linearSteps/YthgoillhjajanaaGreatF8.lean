/- What Cell, Ring and Same of package fold answer, of every topology and place. -/
import Derived.Test.YthgoillhjajanaaGreatF2y
import Derived.Test.YthgoillhjajanaaGreatF5
import Derived.Test.YthgoillhjajanaaGreatF6
namespace Go.Proofs.YthgoillhjajanaaGreat.Fd
open Go.RowKit
set_option linter.unusedVariables false
set_option linter.unusedSimpArgs false
set_option maxRecDepth 100000

set_option maxHeartbeats 1000000 in
theorem cellX (k x y t z a b E : Int) (hE : (E == 0) = false) (hl : ∀ w, Calls Tryz.prog 90 #[.agg #[.int .u8 k, .int .i64 x, .int .i64 y, .int .u8 t, .int .i64 z], .agg #[.int .i64 a, .int .i64 b]] w fun e w' => e = .returned (.tuple #[.agg #[.int .u8 0, .int .i64 0, .int .i64 0, .int .u8 0, .int .i64 0, .int .i64 0, .int .i64 0, .int .i64 0, .int .i64 0, .int .i64 0, .int .i64 0, .int .i64 0, .int .i64 0, .bool false], .int .i64 E]) ∧ w.grownBy w' none) (w : World) : Calls Tryz.prog 76 #[.agg #[.int .u8 k, .int .i64 x, .int .i64 y, .int .u8 t, .int .i64 z], .agg #[.int .i64 a, .int .i64 b]] w fun e w' => e = .returned (.tuple #[.agg #[.int .i64 0, .int .i64 0], .int .i64 E]) ∧ w.grownBy w' none := by
  obtain ⟨fs, hfs⟩ := underP
  obtain ⟨W1, hW1, sz1, g1, B1⟩ := boxn w #[.int .u8 k, .int .i64 x, .int .i64 y, .int .u8 t, .int .i64 z] 27
  obtain ⟨W2, hW2, sz2, g2, B2⟩ := boxn W1 #[.int .i64 a, .int .i64 b] 42
  have G2 := gb_trans g1 g2
  have B1x := B1.kept g2 (by simp)
  obtain ⟨W3, hW3, sz3, g3, B3⟩ := boxn W2 #[.int .i64 0, .int .i64 0] 42
  have G3 := gb_trans G2 g3
  have B1xx := B1x.kept g3 (by simp)
  have B2x := B2.kept g3 (by simp)
  have b1_3_0 := B1xx.cell 0 (v := .int .u8 k) rfl
  have b1_3_1 := B1xx.cell 1 (v := .int .i64 x) rfl
  have b1_3_2 := B1xx.cell 2 (v := .int .i64 y) rfl
  have b1_3_3 := B1xx.cell 3 (v := .int .u8 t) rfl
  have b1_3_4 := B1xx.cell 4 (v := .int .i64 z) rfl
  have b2_3_0 := B2x.cell 0 (v := .int .i64 a) rfl
  have b2_3_1 := B2x.cell 1 (v := .int .i64 b) rfl
  have b3_3_0 := B3.cell 0 (v := .int .i64 0) rfl
  have b3_3_1 := B3.cell 1 (v := .int .i64 0) rfl
  have zb3_3_0 := B3.frozen 0
  have zb3_3_1 := B3.frozen 1
  go_enter Tryz.func76, Tryz.ntmps76
  go_wp2_with (first | (go_at_call 90; (fail_if_success (guard_hyp g4)); refine (hl _).mono ?_; rintro e w4 ⟨rfl, g4⟩; have G4 := gb_trans G3 g4; have B1xxx := B1xx.kept g4 (by simp); have B2xx := B2x.kept g4 (by simp); have B3x := B3.kept g4 (by simp); obtain ⟨W5, hW5, sz5, g5, B5⟩ := boxn w4 #[.int .u8 0, .int .i64 0, .int .i64 0, .int .u8 0, .int .i64 0, .int .i64 0, .int .i64 0, .int .i64 0, .int .i64 0, .int .i64 0, .int .i64 0, .int .i64 0, .int .i64 0, .bool false] 131; have G5 := gb_trans G4 g5; have B1xxxx := B1xxx.kept g5 (by simp); have B2xxx := B2xx.kept g5 (by simp); have B3xx := B3x.kept g5 (by simp); have sm5_0 := Bo.same B5 0 (v := .int .u8 0) rfl; have sm5_1 := Bo.same B5 1 (v := .int .i64 0) rfl; have sm5_2 := Bo.same B5 2 (v := .int .i64 0) rfl; have sm5_3 := Bo.same B5 3 (v := .int .u8 0) rfl; have sm5_4 := Bo.same B5 4 (v := .int .i64 0) rfl; have sm5_5 := Bo.same B5 5 (v := .int .i64 0) rfl; have sm5_6 := Bo.same B5 6 (v := .int .i64 0) rfl; have sm5_7 := Bo.same B5 7 (v := .int .i64 0) rfl; have sm5_8 := Bo.same B5 8 (v := .int .i64 0) rfl; have sm5_9 := Bo.same B5 9 (v := .int .i64 0) rfl; have sm5_10 := Bo.same B5 10 (v := .int .i64 0) rfl; have sm5_11 := Bo.same B5 11 (v := .int .i64 0) rfl; have sm5_12 := Bo.same B5 12 (v := .int .i64 0) rfl; have sm5_13 := Bo.same B5 13 (v := .bool false) rfl; have fz5_0 := B5.frozen 0; have fz5_1 := B5.frozen 1; have fz5_2 := B5.frozen 2; have fz5_3 := B5.frozen 3; have fz5_4 := B5.frozen 4; have fz5_5 := B5.frozen 5; have fz5_6 := B5.frozen 6; have fz5_7 := B5.frozen 7; have fz5_8 := B5.frozen 8; have fz5_9 := B5.frozen 9; have fz5_10 := B5.frozen 10; have fz5_11 := B5.frozen 11; have fz5_12 := B5.frozen 12; have fz5_13 := B5.frozen 13; clear b1_3_0 b1_3_1 b1_3_2 b1_3_3 b1_3_4 b2_3_0 b2_3_1 b3_3_0 b3_3_1 zb3_3_0 zb3_3_1; have b1_5_0 := B1xxxx.cell 0 (v := .int .u8 k) rfl; have b1_5_1 := B1xxxx.cell 1 (v := .int .i64 x) rfl; have b1_5_2 := B1xxxx.cell 2 (v := .int .i64 y) rfl; have b1_5_3 := B1xxxx.cell 3 (v := .int .u8 t) rfl; have b1_5_4 := B1xxxx.cell 4 (v := .int .i64 z) rfl; have b2_5_0 := B2xxx.cell 0 (v := .int .i64 a) rfl; have b2_5_1 := B2xxx.cell 1 (v := .int .i64 b) rfl; have b3_5_0 := B3xx.cell 0 (v := .int .i64 0) rfl; have b3_5_1 := B3xx.cell 1 (v := .int .i64 0) rfl; have zb3_5_0 := B3xx.frozen 0; have zb3_5_1 := B3xx.frozen 1; have b5_5_0 := B5.cell 0 (v := .int .u8 0) rfl; have b5_5_1 := B5.cell 1 (v := .int .i64 0) rfl; have b5_5_2 := B5.cell 2 (v := .int .i64 0) rfl; have b5_5_3 := B5.cell 3 (v := .int .u8 0) rfl; have b5_5_4 := B5.cell 4 (v := .int .i64 0) rfl; have b5_5_5 := B5.cell 5 (v := .int .i64 0) rfl; have b5_5_6 := B5.cell 6 (v := .int .i64 0) rfl; have b5_5_7 := B5.cell 7 (v := .int .i64 0) rfl; have b5_5_8 := B5.cell 8 (v := .int .i64 0) rfl; have b5_5_9 := B5.cell 9 (v := .int .i64 0) rfl; have b5_5_10 := B5.cell 10 (v := .int .i64 0) rfl; have b5_5_11 := B5.cell 11 (v := .int .i64 0) rfl; have b5_5_12 := B5.cell 12 (v := .int .i64 0) rfl; have b5_5_13 := B5.cell 13 (v := .bool false) rfl))
  refine ret_c2 (g := W2.heap.size) (cs := #[.int .i64 0, .int .i64 0]) rfl hfs infoP rfl (bo2 B3xx) rfl ⟨rfl, gb2 G5 G2.size⟩

set_option maxHeartbeats 1000000 in
theorem cellY (k x y t z a b : Int) (u v i j : Int) (ib : Bool) (hl : ∀ w, Calls Tryz.prog 90 #[.agg #[.int .u8 k, .int .i64 x, .int .i64 y, .int .u8 t, .int .i64 z], .agg #[.int .i64 a, .int .i64 b]] w fun e w' => e = .returned (.tuple #[.agg #[.int .u8 k, .int .i64 x, .int .i64 y, .int .u8 t, .int .i64 z, .int .i64 (To.fi x), .int .i64 (To.fi y), .int .i64 x, .int .i64 y, .int .i64 u, .int .i64 v, .int .i64 i, .int .i64 j, .bool ib], .int .i64 0]) ∧ w.grownBy w' none) (P Q er : Int) (hc : ∀ w, Calls Tryz.prog 91 #[.agg #[.int .u8 k, .int .i64 x, .int .i64 y, .int .u8 t, .int .i64 z, .int .i64 (To.fi x), .int .i64 (To.fi y), .int .i64 x, .int .i64 y, .int .i64 u, .int .i64 v, .int .i64 i, .int .i64 j, .bool ib]] w fun e w' => e = .returned (.tuple #[.agg #[.int .i64 P, .int .i64 Q], .int .i64 er]) ∧ w.grownBy w' none) (w : World) : Calls Tryz.prog 76 #[.agg #[.int .u8 k, .int .i64 x, .int .i64 y, .int .u8 t, .int .i64 z], .agg #[.int .i64 a, .int .i64 b]] w fun e w' => e = .returned (.tuple #[.agg #[.int .i64 P, .int .i64 Q], .int .i64 er]) ∧ w.grownBy w' none := by
  obtain ⟨fs, hfs⟩ := underP
  obtain ⟨W1, hW1, sz1, g1, B1⟩ := boxn w #[.int .u8 k, .int .i64 x, .int .i64 y, .int .u8 t, .int .i64 z] 27
  obtain ⟨W2, hW2, sz2, g2, B2⟩ := boxn W1 #[.int .i64 a, .int .i64 b] 42
  have G2 := gb_trans g1 g2
  have B1x := B1.kept g2 (by simp)
  obtain ⟨W3, hW3, sz3, g3, B3⟩ := boxn W2 #[.int .i64 0, .int .i64 0] 42
  have G3 := gb_trans G2 g3
  have B1xx := B1x.kept g3 (by simp)
  have B2x := B2.kept g3 (by simp)
  have b1_3_0 := B1xx.cell 0 (v := .int .u8 k) rfl
  have b1_3_1 := B1xx.cell 1 (v := .int .i64 x) rfl
  have b1_3_2 := B1xx.cell 2 (v := .int .i64 y) rfl
  have b1_3_3 := B1xx.cell 3 (v := .int .u8 t) rfl
  have b1_3_4 := B1xx.cell 4 (v := .int .i64 z) rfl
  have b2_3_0 := B2x.cell 0 (v := .int .i64 a) rfl
  have b2_3_1 := B2x.cell 1 (v := .int .i64 b) rfl
  have b3_3_0 := B3.cell 0 (v := .int .i64 0) rfl
  have b3_3_1 := B3.cell 1 (v := .int .i64 0) rfl
  have zb3_3_0 := B3.frozen 0
  have zb3_3_1 := B3.frozen 1
  go_enter Tryz.func76, Tryz.ntmps76
  go_wp2_with (first | (go_at_call 90; (fail_if_success (guard_hyp g4)); refine (hl _).mono ?_; rintro e w4 ⟨rfl, g4⟩; have G4 := gb_trans G3 g4; have B1xxx := B1xx.kept g4 (by simp); have B2xx := B2x.kept g4 (by simp); have B3x := B3.kept g4 (by simp); obtain ⟨W5, hW5, sz5, g5, B5⟩ := boxn w4 #[.int .u8 k, .int .i64 x, .int .i64 y, .int .u8 t, .int .i64 z, .int .i64 (To.fi x), .int .i64 (To.fi y), .int .i64 x, .int .i64 y, .int .i64 u, .int .i64 v, .int .i64 i, .int .i64 j, .bool ib] 131; have G5 := gb_trans G4 g5; have B1xxxx := B1xxx.kept g5 (by simp); have B2xxx := B2xx.kept g5 (by simp); have B3xx := B3x.kept g5 (by simp); clear b1_3_0 b1_3_1 b1_3_2 b1_3_3 b1_3_4 b2_3_0 b2_3_1 b3_3_0 b3_3_1 zb3_3_0 zb3_3_1; have b1_5_0 := B1xxxx.cell 0 (v := .int .u8 k) rfl; have b1_5_1 := B1xxxx.cell 1 (v := .int .i64 x) rfl; have b1_5_2 := B1xxxx.cell 2 (v := .int .i64 y) rfl; have b1_5_3 := B1xxxx.cell 3 (v := .int .u8 t) rfl; have b1_5_4 := B1xxxx.cell 4 (v := .int .i64 z) rfl; have b2_5_0 := B2xxx.cell 0 (v := .int .i64 a) rfl; have b2_5_1 := B2xxx.cell 1 (v := .int .i64 b) rfl; have b3_5_0 := B3xx.cell 0 (v := .int .i64 0) rfl; have b3_5_1 := B3xx.cell 1 (v := .int .i64 0) rfl; have zb3_5_0 := B3xx.frozen 0; have zb3_5_1 := B3xx.frozen 1; have b5_5_0 := B5.cell 0 (v := .int .u8 k) rfl; have b5_5_1 := B5.cell 1 (v := .int .i64 x) rfl; have b5_5_2 := B5.cell 2 (v := .int .i64 y) rfl; have b5_5_3 := B5.cell 3 (v := .int .u8 t) rfl; have b5_5_4 := B5.cell 4 (v := .int .i64 z) rfl; have b5_5_5 := B5.cell 5 (v := .int .i64 (To.fi x)) rfl; have b5_5_6 := B5.cell 6 (v := .int .i64 (To.fi y)) rfl; have b5_5_7 := B5.cell 7 (v := .int .i64 x) rfl; have b5_5_8 := B5.cell 8 (v := .int .i64 y) rfl; have b5_5_9 := B5.cell 9 (v := .int .i64 u) rfl; have b5_5_10 := B5.cell 10 (v := .int .i64 v) rfl; have b5_5_11 := B5.cell 11 (v := .int .i64 i) rfl; have b5_5_12 := B5.cell 12 (v := .int .i64 j) rfl; have b5_5_13 := B5.cell 13 (v := .bool ib) rfl) | (go_at_call 91; (fail_if_success (guard_hyp g6)); refine (hc _).mono ?_; rintro e w6 ⟨rfl, g6⟩; have G6 := gb_trans G5 g6; have B1xxxxx := B1xxxx.kept g6 (by simp); have B2xxxx := B2xxx.kept g6 (by simp); have B3xxx := B3xx.kept g6 (by simp); have B5x := B5.kept g6 (by simp); clear b1_5_0 b1_5_1 b1_5_2 b1_5_3 b1_5_4 b2_5_0 b2_5_1 b3_5_0 b3_5_1 zb3_5_0 zb3_5_1 b5_5_0 b5_5_1 b5_5_2 b5_5_3 b5_5_4 b5_5_5 b5_5_6 b5_5_7 b5_5_8 b5_5_9 b5_5_10 b5_5_11 b5_5_12 b5_5_13; have b1_6_0 := B1xxxxx.cell 0 (v := .int .u8 k) rfl; have b1_6_1 := B1xxxxx.cell 1 (v := .int .i64 x) rfl; have b1_6_2 := B1xxxxx.cell 2 (v := .int .i64 y) rfl; have b1_6_3 := B1xxxxx.cell 3 (v := .int .u8 t) rfl; have b1_6_4 := B1xxxxx.cell 4 (v := .int .i64 z) rfl; have b2_6_0 := B2xxxx.cell 0 (v := .int .i64 a) rfl; have b2_6_1 := B2xxxx.cell 1 (v := .int .i64 b) rfl; have b3_6_0 := B3xxx.cell 0 (v := .int .i64 0) rfl; have b3_6_1 := B3xxx.cell 1 (v := .int .i64 0) rfl; have zb3_6_0 := B3xxx.frozen 0; have zb3_6_1 := B3xxx.frozen 1; have b5_6_0 := B5x.cell 0 (v := .int .u8 k) rfl; have b5_6_1 := B5x.cell 1 (v := .int .i64 x) rfl; have b5_6_2 := B5x.cell 2 (v := .int .i64 y) rfl; have b5_6_3 := B5x.cell 3 (v := .int .u8 t) rfl; have b5_6_4 := B5x.cell 4 (v := .int .i64 z) rfl; have b5_6_5 := B5x.cell 5 (v := .int .i64 (To.fi x)) rfl; have b5_6_6 := B5x.cell 6 (v := .int .i64 (To.fi y)) rfl; have b5_6_7 := B5x.cell 7 (v := .int .i64 x) rfl; have b5_6_8 := B5x.cell 8 (v := .int .i64 y) rfl; have b5_6_9 := B5x.cell 9 (v := .int .i64 u) rfl; have b5_6_10 := B5x.cell 10 (v := .int .i64 v) rfl; have b5_6_11 := B5x.cell 11 (v := .int .i64 i) rfl; have b5_6_12 := B5x.cell 12 (v := .int .i64 j) rfl; have b5_6_13 := B5x.cell 13 (v := .bool ib) rfl))
  refine ret_c2 (g := W2.heap.size) (cs := #[.int .i64 P, .int .i64 Q]) rfl hfs infoP rfl (bo2 B3xxx) rfl ⟨rfl, gb2 G6 G2.size⟩
end Go.Proofs.YthgoillhjajanaaGreat.Fd
