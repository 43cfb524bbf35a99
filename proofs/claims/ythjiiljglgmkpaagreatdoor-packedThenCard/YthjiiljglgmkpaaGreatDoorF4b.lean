/- What a Cross does with a place outside of the grid. -/
import Derived.Test.YthjiiljglgmkpaaGreatDoorFa
namespace Go.Proofs.YthjiiljglgmkpaaGreatDoor.Fd
open Go.RowKit
set_option linter.unusedVariables false
set_option linter.unusedSimpArgs false
set_option maxRecDepth 100000

set_option maxHeartbeats 1000000 in
theorem cross00 (k x y t z u v i j : Int) (b : Bool) (hj : odB j = false) (hi : odB i = false) (P Q : Int) (hf : ∀ w, Calls Tryz.prog 149 #[.agg #[.int .u8 k, .int .i64 x, .int .i64 y, .int .u8 t, .int .i64 z, .int .i64 (To.fi x), .int .i64 (To.fi y), .int .i64 x, .int .i64 y, .int .i64 u, .int .i64 v, .int .i64 i, .int .i64 j, .bool b], .int .i64 u, .int .i64 v] w fun e w' => e = .returned (.agg #[.int .i64 P, .int .i64 Q]) ∧ w.grownBy w' none) (w : World) : Calls Tryz.prog 147 #[.agg #[.int .u8 k, .int .i64 x, .int .i64 y, .int .u8 t, .int .i64 z, .int .i64 (To.fi x), .int .i64 (To.fi y), .int .i64 x, .int .i64 y, .int .i64 u, .int .i64 v, .int .i64 i, .int .i64 j, .bool b]] w fun e w' => e = .returned (.tuple #[.agg #[.int .i64 P, .int .i64 Q], .bool true]) ∧ w.grownBy w' none := by
  obtain ⟨fs, hfs⟩ := underP
  obtain ⟨W1, hW1, sz1, g1, B1⟩ := boxn w #[.int .u8 k, .int .i64 x, .int .i64 y, .int .u8 t, .int .i64 z, .int .i64 (To.fi x), .int .i64 (To.fi y), .int .i64 x, .int .i64 y, .int .i64 u, .int .i64 v, .int .i64 i, .int .i64 j, .bool b] 200
  obtain ⟨W2, hW2, sz2, g2, B2⟩ := boxn W1 #[.int .i64 0, .int .i64 0] 135
  have G2 := gb_trans g1 g2
  have B1x := B1.kept g2 (by simp)
  have b1_2_0 := B1x.cell 0 (v := .int .u8 k) rfl
  have b1_2_1 := B1x.cell 1 (v := .int .i64 x) rfl
  have b1_2_2 := B1x.cell 2 (v := .int .i64 y) rfl
  have b1_2_3 := B1x.cell 3 (v := .int .u8 t) rfl
  have b1_2_4 := B1x.cell 4 (v := .int .i64 z) rfl
  have b1_2_5 := B1x.cell 5 (v := .int .i64 (To.fi x)) rfl
  have b1_2_6 := B1x.cell 6 (v := .int .i64 (To.fi y)) rfl
  have b1_2_7 := B1x.cell 7 (v := .int .i64 x) rfl
  have b1_2_8 := B1x.cell 8 (v := .int .i64 y) rfl
  have b1_2_9 := B1x.cell 9 (v := .int .i64 u) rfl
  have b1_2_10 := B1x.cell 10 (v := .int .i64 v) rfl
  have b1_2_11 := B1x.cell 11 (v := .int .i64 i) rfl
  have b1_2_12 := B1x.cell 12 (v := .int .i64 j) rfl
  have b1_2_13 := B1x.cell 13 (v := .bool b) rfl
  have b2_2_0 := B2.cell 0 (v := .int .i64 0) rfl
  have b2_2_1 := B2.cell 1 (v := .int .i64 0) rfl
  have zb2_2_0 := B2.frozen 0
  have zb2_2_1 := B2.frozen 1
  go_enter Tryz.func147, Tryz.ntmps147
  go_wp2
  go_region_held2 (fun w' => w'.cell? ⟨w.heap.size, 0, none⟩ = some (.int .u8 k) ∧ w'.cell? ⟨w.heap.size, 1, none⟩ = some (.int .i64 x) ∧ w'.cell? ⟨w.heap.size, 2, none⟩ = some (.int .i64 y) ∧ w'.cell? ⟨w.heap.size, 3, none⟩ = some (.int .u8 t) ∧ w'.cell? ⟨w.heap.size, 4, none⟩ = some (.int .i64 z) ∧ w'.cell? ⟨w.heap.size, 5, none⟩ = some (.int .i64 (To.fi x)) ∧ w'.cell? ⟨w.heap.size, 6, none⟩ = some (.int .i64 (To.fi y)) ∧ w'.cell? ⟨w.heap.size, 7, none⟩ = some (.int .i64 x) ∧ w'.cell? ⟨w.heap.size, 8, none⟩ = some (.int .i64 y) ∧ w'.cell? ⟨w.heap.size, 9, none⟩ = some (.int .i64 u) ∧ w'.cell? ⟨w.heap.size, 10, none⟩ = some (.int .i64 v) ∧ w'.cell? ⟨w.heap.size, 11, none⟩ = some (.int .i64 i) ∧ w'.cell? ⟨w.heap.size, 12, none⟩ = some (.int .i64 j) ∧ w'.cell? ⟨w.heap.size, 13, none⟩ = some (.bool b)) (go_keep) (fail)
  have B1xd := B1x.dr
  have B2d := B2.dr
  have G2d := gb_drew G2
  clear b1_2_0 b1_2_1 b1_2_2 b1_2_3 b1_2_4 b1_2_5 b1_2_6 b1_2_7 b1_2_8 b1_2_9 b1_2_10 b1_2_11 b1_2_12 b1_2_13 b2_2_0 b2_2_1 zb2_2_0 zb2_2_1
  have b1_3_0 := B1xd.cell 0 (v := .int .u8 k) rfl
  have b1_3_1 := B1xd.cell 1 (v := .int .i64 x) rfl
  have b1_3_2 := B1xd.cell 2 (v := .int .i64 y) rfl
  have b1_3_3 := B1xd.cell 3 (v := .int .u8 t) rfl
  have b1_3_4 := B1xd.cell 4 (v := .int .i64 z) rfl
  have b1_3_5 := B1xd.cell 5 (v := .int .i64 (To.fi x)) rfl
  have b1_3_6 := B1xd.cell 6 (v := .int .i64 (To.fi y)) rfl
  have b1_3_7 := B1xd.cell 7 (v := .int .i64 x) rfl
  have b1_3_8 := B1xd.cell 8 (v := .int .i64 y) rfl
  have b1_3_9 := B1xd.cell 9 (v := .int .i64 u) rfl
  have b1_3_10 := B1xd.cell 10 (v := .int .i64 v) rfl
  have b1_3_11 := B1xd.cell 11 (v := .int .i64 i) rfl
  have b1_3_12 := B1xd.cell 12 (v := .int .i64 j) rfl
  have b1_3_13 := B1xd.cell 13 (v := .bool b) rfl
  have b2_3_0 := B2d.cell 0 (v := .int .i64 0) rfl
  have b2_3_1 := B2d.cell 1 (v := .int .i64 0) rfl
  have zb2_3_0 := B2d.frozen 0
  have zb2_3_1 := B2d.frozen 1
  go_wp2_with (first | (go_at_call 149; (fail_if_success (guard_hyp g4)); refine (hf _).mono ?_; rintro e w4 ⟨rfl, g4⟩; have G4 := gb_trans G2d g4; have B1xdx := B1xd.kept g4 (by simp); have B2dx := B2d.kept g4 (by simp); clear b1_3_0 b1_3_1 b1_3_2 b1_3_3 b1_3_4 b1_3_5 b1_3_6 b1_3_7 b1_3_8 b1_3_9 b1_3_10 b1_3_11 b1_3_12 b1_3_13 b2_3_0 b2_3_1 zb2_3_0 zb2_3_1; have b1_4_0 := B1xdx.cell 0 (v := .int .u8 k) rfl; have b1_4_1 := B1xdx.cell 1 (v := .int .i64 x) rfl; have b1_4_2 := B1xdx.cell 2 (v := .int .i64 y) rfl; have b1_4_3 := B1xdx.cell 3 (v := .int .u8 t) rfl; have b1_4_4 := B1xdx.cell 4 (v := .int .i64 z) rfl; have b1_4_5 := B1xdx.cell 5 (v := .int .i64 (To.fi x)) rfl; have b1_4_6 := B1xdx.cell 6 (v := .int .i64 (To.fi y)) rfl; have b1_4_7 := B1xdx.cell 7 (v := .int .i64 x) rfl; have b1_4_8 := B1xdx.cell 8 (v := .int .i64 y) rfl; have b1_4_9 := B1xdx.cell 9 (v := .int .i64 u) rfl; have b1_4_10 := B1xdx.cell 10 (v := .int .i64 v) rfl; have b1_4_11 := B1xdx.cell 11 (v := .int .i64 i) rfl; have b1_4_12 := B1xdx.cell 12 (v := .int .i64 j) rfl; have b1_4_13 := B1xdx.cell 13 (v := .bool b) rfl; have b2_4_0 := B2dx.cell 0 (v := .int .i64 0) rfl; have b2_4_1 := B2dx.cell 1 (v := .int .i64 0) rfl; have zb2_4_0 := B2dx.frozen 0; have zb2_4_1 := B2dx.frozen 1) | (go_at_call 150; refine (isOddC _ _).mono ?_; rintro e w' ⟨rfl, hw'⟩; subst w'))
  all_goals refine ret_c2 (g := W1.heap.size) (cs := #[.int .i64 P, .int .i64 Q]) rfl hfs infoP rfl (bo2 B2dx) rfl ⟨rfl, gb2 G4 g1.size⟩

set_option maxHeartbeats 1000000 in
theorem cross01 (k x y t z u v i j : Int) (b : Bool) (hj : odB j = false) (hi : odB i = true) (ly : -65536 ≤ y) (my : y ≤ 65536) (lv : -2199023255552 ≤ v) (mv : v ≤ 2199023255552) (P Q : Int) (hf : ∀ w, Calls Tryz.prog 149 #[.agg #[.int .u8 k, .int .i64 x, .int .i64 y, .int .u8 t, .int .i64 z, .int .i64 (To.fi x), .int .i64 (To.fi y), .int .i64 x, .int .i64 y, .int .i64 u, .int .i64 v, .int .i64 i, .int .i64 j, .bool b], .int .i64 u, .int .i64 (y - 1 - v)] w fun e w' => e = .returned (.agg #[.int .i64 P, .int .i64 Q]) ∧ w.grownBy w' none) (w : World) : Calls Tryz.prog 147 #[.agg #[.int .u8 k, .int .i64 x, .int .i64 y, .int .u8 t, .int .i64 z, .int .i64 (To.fi x), .int .i64 (To.fi y), .int .i64 x, .int .i64 y, .int .i64 u, .int .i64 v, .int .i64 i, .int .i64 j, .bool b]] w fun e w' => e = .returned (.tuple #[.agg #[.int .i64 P, .int .i64 Q], .bool true]) ∧ w.grownBy w' none := by
  obtain ⟨fs, hfs⟩ := underP
  obtain ⟨W1, hW1, sz1, g1, B1⟩ := boxn w #[.int .u8 k, .int .i64 x, .int .i64 y, .int .u8 t, .int .i64 z, .int .i64 (To.fi x), .int .i64 (To.fi y), .int .i64 x, .int .i64 y, .int .i64 u, .int .i64 v, .int .i64 i, .int .i64 j, .bool b] 200
  obtain ⟨W2, hW2, sz2, g2, B2⟩ := boxn W1 #[.int .i64 0, .int .i64 0] 135
  have G2 := gb_trans g1 g2
  have B1x := B1.kept g2 (by simp)
  have b1_2_0 := B1x.cell 0 (v := .int .u8 k) rfl
  have b1_2_1 := B1x.cell 1 (v := .int .i64 x) rfl
  have b1_2_2 := B1x.cell 2 (v := .int .i64 y) rfl
  have b1_2_3 := B1x.cell 3 (v := .int .u8 t) rfl
  have b1_2_4 := B1x.cell 4 (v := .int .i64 z) rfl
  have b1_2_5 := B1x.cell 5 (v := .int .i64 (To.fi x)) rfl
  have b1_2_6 := B1x.cell 6 (v := .int .i64 (To.fi y)) rfl
  have b1_2_7 := B1x.cell 7 (v := .int .i64 x) rfl
  have b1_2_8 := B1x.cell 8 (v := .int .i64 y) rfl
  have b1_2_9 := B1x.cell 9 (v := .int .i64 u) rfl
  have b1_2_10 := B1x.cell 10 (v := .int .i64 v) rfl
  have b1_2_11 := B1x.cell 11 (v := .int .i64 i) rfl
  have b1_2_12 := B1x.cell 12 (v := .int .i64 j) rfl
  have b1_2_13 := B1x.cell 13 (v := .bool b) rfl
  have b2_2_0 := B2.cell 0 (v := .int .i64 0) rfl
  have b2_2_1 := B2.cell 1 (v := .int .i64 0) rfl
  have zb2_2_0 := B2.frozen 0
  have zb2_2_1 := B2.frozen 1
  go_enter Tryz.func147, Tryz.ntmps147
  go_wp2
  go_region_held2 (fun w' => w'.cell? ⟨w.heap.size, 0, none⟩ = some (.int .u8 k) ∧ w'.cell? ⟨w.heap.size, 1, none⟩ = some (.int .i64 x) ∧ w'.cell? ⟨w.heap.size, 2, none⟩ = some (.int .i64 y) ∧ w'.cell? ⟨w.heap.size, 3, none⟩ = some (.int .u8 t) ∧ w'.cell? ⟨w.heap.size, 4, none⟩ = some (.int .i64 z) ∧ w'.cell? ⟨w.heap.size, 5, none⟩ = some (.int .i64 (To.fi x)) ∧ w'.cell? ⟨w.heap.size, 6, none⟩ = some (.int .i64 (To.fi y)) ∧ w'.cell? ⟨w.heap.size, 7, none⟩ = some (.int .i64 x) ∧ w'.cell? ⟨w.heap.size, 8, none⟩ = some (.int .i64 y) ∧ w'.cell? ⟨w.heap.size, 9, none⟩ = some (.int .i64 u) ∧ w'.cell? ⟨w.heap.size, 10, none⟩ = some (.int .i64 v) ∧ w'.cell? ⟨w.heap.size, 11, none⟩ = some (.int .i64 i) ∧ w'.cell? ⟨w.heap.size, 12, none⟩ = some (.int .i64 j) ∧ w'.cell? ⟨w.heap.size, 13, none⟩ = some (.bool b)) (go_keep) (fail)
  have B1xd := B1x.dr
  have B2d := B2.dr
  have G2d := gb_drew G2
  clear b1_2_0 b1_2_1 b1_2_2 b1_2_3 b1_2_4 b1_2_5 b1_2_6 b1_2_7 b1_2_8 b1_2_9 b1_2_10 b1_2_11 b1_2_12 b1_2_13 b2_2_0 b2_2_1 zb2_2_0 zb2_2_1
  have b1_3_0 := B1xd.cell 0 (v := .int .u8 k) rfl
  have b1_3_1 := B1xd.cell 1 (v := .int .i64 x) rfl
  have b1_3_2 := B1xd.cell 2 (v := .int .i64 y) rfl
  have b1_3_3 := B1xd.cell 3 (v := .int .u8 t) rfl
  have b1_3_4 := B1xd.cell 4 (v := .int .i64 z) rfl
  have b1_3_5 := B1xd.cell 5 (v := .int .i64 (To.fi x)) rfl
  have b1_3_6 := B1xd.cell 6 (v := .int .i64 (To.fi y)) rfl
  have b1_3_7 := B1xd.cell 7 (v := .int .i64 x) rfl
  have b1_3_8 := B1xd.cell 8 (v := .int .i64 y) rfl
  have b1_3_9 := B1xd.cell 9 (v := .int .i64 u) rfl
  have b1_3_10 := B1xd.cell 10 (v := .int .i64 v) rfl
  have b1_3_11 := B1xd.cell 11 (v := .int .i64 i) rfl
  have b1_3_12 := B1xd.cell 12 (v := .int .i64 j) rfl
  have b1_3_13 := B1xd.cell 13 (v := .bool b) rfl
  have b2_3_0 := B2d.cell 0 (v := .int .i64 0) rfl
  have b2_3_1 := B2d.cell 1 (v := .int .i64 0) rfl
  have zb2_3_0 := B2d.frozen 0
  have zb2_3_1 := B2d.frozen 1
  go_wp2_with (first | (go_at_call 149; (fail_if_success (guard_hyp g4)); refine (hf _).mono ?_; rintro e w4 ⟨rfl, g4⟩; have G4 := gb_trans G2d g4; have B1xdx := B1xd.kept g4 (by simp); have B2dx := B2d.kept g4 (by simp); clear b1_3_0 b1_3_1 b1_3_2 b1_3_3 b1_3_4 b1_3_5 b1_3_6 b1_3_7 b1_3_8 b1_3_9 b1_3_10 b1_3_11 b1_3_12 b1_3_13 b2_3_0 b2_3_1 zb2_3_0 zb2_3_1; have b1_4_0 := B1xdx.cell 0 (v := .int .u8 k) rfl; have b1_4_1 := B1xdx.cell 1 (v := .int .i64 x) rfl; have b1_4_2 := B1xdx.cell 2 (v := .int .i64 y) rfl; have b1_4_3 := B1xdx.cell 3 (v := .int .u8 t) rfl; have b1_4_4 := B1xdx.cell 4 (v := .int .i64 z) rfl; have b1_4_5 := B1xdx.cell 5 (v := .int .i64 (To.fi x)) rfl; have b1_4_6 := B1xdx.cell 6 (v := .int .i64 (To.fi y)) rfl; have b1_4_7 := B1xdx.cell 7 (v := .int .i64 x) rfl; have b1_4_8 := B1xdx.cell 8 (v := .int .i64 y) rfl; have b1_4_9 := B1xdx.cell 9 (v := .int .i64 u) rfl; have b1_4_10 := B1xdx.cell 10 (v := .int .i64 v) rfl; have b1_4_11 := B1xdx.cell 11 (v := .int .i64 i) rfl; have b1_4_12 := B1xdx.cell 12 (v := .int .i64 j) rfl; have b1_4_13 := B1xdx.cell 13 (v := .bool b) rfl; have b2_4_0 := B2dx.cell 0 (v := .int .i64 0) rfl; have b2_4_1 := B2dx.cell 1 (v := .int .i64 0) rfl; have zb2_4_0 := B2dx.frozen 0; have zb2_4_1 := B2dx.frozen 1) | (go_at_call 150; refine (isOddC _ _).mono ?_; rintro e w' ⟨rfl, hw'⟩; subst w'))
  all_goals refine ret_c2 (g := W1.heap.size) (cs := #[.int .i64 P, .int .i64 Q]) rfl hfs infoP rfl (bo2 B2dx) rfl ⟨rfl, gb2 G4 g1.size⟩

set_option maxHeartbeats 1000000 in
theorem cross10 (k x y t z u v i j : Int) (b : Bool) (hj : odB j = true) (hi : odB i = false) (lx : -65536 ≤ x) (mx : x ≤ 65536) (lu : -2199023255552 ≤ u) (mu : u ≤ 2199023255552) (P Q : Int) (hf : ∀ w, Calls Tryz.prog 149 #[.agg #[.int .u8 k, .int .i64 x, .int .i64 y, .int .u8 t, .int .i64 z, .int .i64 (To.fi x), .int .i64 (To.fi y), .int .i64 x, .int .i64 y, .int .i64 u, .int .i64 v, .int .i64 i, .int .i64 j, .bool b], .int .i64 (x - 1 - u), .int .i64 v] w fun e w' => e = .returned (.agg #[.int .i64 P, .int .i64 Q]) ∧ w.grownBy w' none) (w : World) : Calls Tryz.prog 147 #[.agg #[.int .u8 k, .int .i64 x, .int .i64 y, .int .u8 t, .int .i64 z, .int .i64 (To.fi x), .int .i64 (To.fi y), .int .i64 x, .int .i64 y, .int .i64 u, .int .i64 v, .int .i64 i, .int .i64 j, .bool b]] w fun e w' => e = .returned (.tuple #[.agg #[.int .i64 P, .int .i64 Q], .bool true]) ∧ w.grownBy w' none := by
  obtain ⟨fs, hfs⟩ := underP
  obtain ⟨W1, hW1, sz1, g1, B1⟩ := boxn w #[.int .u8 k, .int .i64 x, .int .i64 y, .int .u8 t, .int .i64 z, .int .i64 (To.fi x), .int .i64 (To.fi y), .int .i64 x, .int .i64 y, .int .i64 u, .int .i64 v, .int .i64 i, .int .i64 j, .bool b] 200
  obtain ⟨W2, hW2, sz2, g2, B2⟩ := boxn W1 #[.int .i64 0, .int .i64 0] 135
  have G2 := gb_trans g1 g2
  have B1x := B1.kept g2 (by simp)
  have b1_2_0 := B1x.cell 0 (v := .int .u8 k) rfl
  have b1_2_1 := B1x.cell 1 (v := .int .i64 x) rfl
  have b1_2_2 := B1x.cell 2 (v := .int .i64 y) rfl
  have b1_2_3 := B1x.cell 3 (v := .int .u8 t) rfl
  have b1_2_4 := B1x.cell 4 (v := .int .i64 z) rfl
  have b1_2_5 := B1x.cell 5 (v := .int .i64 (To.fi x)) rfl
  have b1_2_6 := B1x.cell 6 (v := .int .i64 (To.fi y)) rfl
  have b1_2_7 := B1x.cell 7 (v := .int .i64 x) rfl
  have b1_2_8 := B1x.cell 8 (v := .int .i64 y) rfl
  have b1_2_9 := B1x.cell 9 (v := .int .i64 u) rfl
  have b1_2_10 := B1x.cell 10 (v := .int .i64 v) rfl
  have b1_2_11 := B1x.cell 11 (v := .int .i64 i) rfl
  have b1_2_12 := B1x.cell 12 (v := .int .i64 j) rfl
  have b1_2_13 := B1x.cell 13 (v := .bool b) rfl
  have b2_2_0 := B2.cell 0 (v := .int .i64 0) rfl
  have b2_2_1 := B2.cell 1 (v := .int .i64 0) rfl
  have zb2_2_0 := B2.frozen 0
  have zb2_2_1 := B2.frozen 1
  go_enter Tryz.func147, Tryz.ntmps147
  go_wp2
  go_region_held2 (fun w' => w'.cell? ⟨w.heap.size, 0, none⟩ = some (.int .u8 k) ∧ w'.cell? ⟨w.heap.size, 1, none⟩ = some (.int .i64 x) ∧ w'.cell? ⟨w.heap.size, 2, none⟩ = some (.int .i64 y) ∧ w'.cell? ⟨w.heap.size, 3, none⟩ = some (.int .u8 t) ∧ w'.cell? ⟨w.heap.size, 4, none⟩ = some (.int .i64 z) ∧ w'.cell? ⟨w.heap.size, 5, none⟩ = some (.int .i64 (To.fi x)) ∧ w'.cell? ⟨w.heap.size, 6, none⟩ = some (.int .i64 (To.fi y)) ∧ w'.cell? ⟨w.heap.size, 7, none⟩ = some (.int .i64 x) ∧ w'.cell? ⟨w.heap.size, 8, none⟩ = some (.int .i64 y) ∧ w'.cell? ⟨w.heap.size, 9, none⟩ = some (.int .i64 u) ∧ w'.cell? ⟨w.heap.size, 10, none⟩ = some (.int .i64 v) ∧ w'.cell? ⟨w.heap.size, 11, none⟩ = some (.int .i64 i) ∧ w'.cell? ⟨w.heap.size, 12, none⟩ = some (.int .i64 j) ∧ w'.cell? ⟨w.heap.size, 13, none⟩ = some (.bool b)) (go_keep) (fail)
  have B1xd := B1x.dr
  have B2d := B2.dr
  have G2d := gb_drew G2
  clear b1_2_0 b1_2_1 b1_2_2 b1_2_3 b1_2_4 b1_2_5 b1_2_6 b1_2_7 b1_2_8 b1_2_9 b1_2_10 b1_2_11 b1_2_12 b1_2_13 b2_2_0 b2_2_1 zb2_2_0 zb2_2_1
  have b1_3_0 := B1xd.cell 0 (v := .int .u8 k) rfl
  have b1_3_1 := B1xd.cell 1 (v := .int .i64 x) rfl
  have b1_3_2 := B1xd.cell 2 (v := .int .i64 y) rfl
  have b1_3_3 := B1xd.cell 3 (v := .int .u8 t) rfl
  have b1_3_4 := B1xd.cell 4 (v := .int .i64 z) rfl
  have b1_3_5 := B1xd.cell 5 (v := .int .i64 (To.fi x)) rfl
  have b1_3_6 := B1xd.cell 6 (v := .int .i64 (To.fi y)) rfl
  have b1_3_7 := B1xd.cell 7 (v := .int .i64 x) rfl
  have b1_3_8 := B1xd.cell 8 (v := .int .i64 y) rfl
  have b1_3_9 := B1xd.cell 9 (v := .int .i64 u) rfl
  have b1_3_10 := B1xd.cell 10 (v := .int .i64 v) rfl
  have b1_3_11 := B1xd.cell 11 (v := .int .i64 i) rfl
  have b1_3_12 := B1xd.cell 12 (v := .int .i64 j) rfl
  have b1_3_13 := B1xd.cell 13 (v := .bool b) rfl
  have b2_3_0 := B2d.cell 0 (v := .int .i64 0) rfl
  have b2_3_1 := B2d.cell 1 (v := .int .i64 0) rfl
  have zb2_3_0 := B2d.frozen 0
  have zb2_3_1 := B2d.frozen 1
  go_wp2_with (first | (go_at_call 149; (fail_if_success (guard_hyp g4)); refine (hf _).mono ?_; rintro e w4 ⟨rfl, g4⟩; have G4 := gb_trans G2d g4; have B1xdx := B1xd.kept g4 (by simp); have B2dx := B2d.kept g4 (by simp); clear b1_3_0 b1_3_1 b1_3_2 b1_3_3 b1_3_4 b1_3_5 b1_3_6 b1_3_7 b1_3_8 b1_3_9 b1_3_10 b1_3_11 b1_3_12 b1_3_13 b2_3_0 b2_3_1 zb2_3_0 zb2_3_1; have b1_4_0 := B1xdx.cell 0 (v := .int .u8 k) rfl; have b1_4_1 := B1xdx.cell 1 (v := .int .i64 x) rfl; have b1_4_2 := B1xdx.cell 2 (v := .int .i64 y) rfl; have b1_4_3 := B1xdx.cell 3 (v := .int .u8 t) rfl; have b1_4_4 := B1xdx.cell 4 (v := .int .i64 z) rfl; have b1_4_5 := B1xdx.cell 5 (v := .int .i64 (To.fi x)) rfl; have b1_4_6 := B1xdx.cell 6 (v := .int .i64 (To.fi y)) rfl; have b1_4_7 := B1xdx.cell 7 (v := .int .i64 x) rfl; have b1_4_8 := B1xdx.cell 8 (v := .int .i64 y) rfl; have b1_4_9 := B1xdx.cell 9 (v := .int .i64 u) rfl; have b1_4_10 := B1xdx.cell 10 (v := .int .i64 v) rfl; have b1_4_11 := B1xdx.cell 11 (v := .int .i64 i) rfl; have b1_4_12 := B1xdx.cell 12 (v := .int .i64 j) rfl; have b1_4_13 := B1xdx.cell 13 (v := .bool b) rfl; have b2_4_0 := B2dx.cell 0 (v := .int .i64 0) rfl; have b2_4_1 := B2dx.cell 1 (v := .int .i64 0) rfl; have zb2_4_0 := B2dx.frozen 0; have zb2_4_1 := B2dx.frozen 1) | (go_at_call 150; refine (isOddC _ _).mono ?_; rintro e w' ⟨rfl, hw'⟩; subst w'))
  all_goals refine ret_c2 (g := W1.heap.size) (cs := #[.int .i64 P, .int .i64 Q]) rfl hfs infoP rfl (bo2 B2dx) rfl ⟨rfl, gb2 G4 g1.size⟩

set_option maxHeartbeats 1000000 in
theorem cross11 (k x y t z u v i j : Int) (b : Bool) (hj : odB j = true) (hi : odB i = true) (lx : -65536 ≤ x) (mx : x ≤ 65536) (lu : -2199023255552 ≤ u) (mu : u ≤ 2199023255552) (ly : -65536 ≤ y) (my : y ≤ 65536) (lv : -2199023255552 ≤ v) (mv : v ≤ 2199023255552) (P Q : Int) (hf : ∀ w, Calls Tryz.prog 149 #[.agg #[.int .u8 k, .int .i64 x, .int .i64 y, .int .u8 t, .int .i64 z, .int .i64 (To.fi x), .int .i64 (To.fi y), .int .i64 x, .int .i64 y, .int .i64 u, .int .i64 v, .int .i64 i, .int .i64 j, .bool b], .int .i64 (x - 1 - u), .int .i64 (y - 1 - v)] w fun e w' => e = .returned (.agg #[.int .i64 P, .int .i64 Q]) ∧ w.grownBy w' none) (w : World) : Calls Tryz.prog 147 #[.agg #[.int .u8 k, .int .i64 x, .int .i64 y, .int .u8 t, .int .i64 z, .int .i64 (To.fi x), .int .i64 (To.fi y), .int .i64 x, .int .i64 y, .int .i64 u, .int .i64 v, .int .i64 i, .int .i64 j, .bool b]] w fun e w' => e = .returned (.tuple #[.agg #[.int .i64 P, .int .i64 Q], .bool true]) ∧ w.grownBy w' none := by
  obtain ⟨fs, hfs⟩ := underP
  obtain ⟨W1, hW1, sz1, g1, B1⟩ := boxn w #[.int .u8 k, .int .i64 x, .int .i64 y, .int .u8 t, .int .i64 z, .int .i64 (To.fi x), .int .i64 (To.fi y), .int .i64 x, .int .i64 y, .int .i64 u, .int .i64 v, .int .i64 i, .int .i64 j, .bool b] 200
  obtain ⟨W2, hW2, sz2, g2, B2⟩ := boxn W1 #[.int .i64 0, .int .i64 0] 135
  have G2 := gb_trans g1 g2
  have B1x := B1.kept g2 (by simp)
  have b1_2_0 := B1x.cell 0 (v := .int .u8 k) rfl
  have b1_2_1 := B1x.cell 1 (v := .int .i64 x) rfl
  have b1_2_2 := B1x.cell 2 (v := .int .i64 y) rfl
  have b1_2_3 := B1x.cell 3 (v := .int .u8 t) rfl
  have b1_2_4 := B1x.cell 4 (v := .int .i64 z) rfl
  have b1_2_5 := B1x.cell 5 (v := .int .i64 (To.fi x)) rfl
  have b1_2_6 := B1x.cell 6 (v := .int .i64 (To.fi y)) rfl
  have b1_2_7 := B1x.cell 7 (v := .int .i64 x) rfl
  have b1_2_8 := B1x.cell 8 (v := .int .i64 y) rfl
  have b1_2_9 := B1x.cell 9 (v := .int .i64 u) rfl
  have b1_2_10 := B1x.cell 10 (v := .int .i64 v) rfl
  have b1_2_11 := B1x.cell 11 (v := .int .i64 i) rfl
  have b1_2_12 := B1x.cell 12 (v := .int .i64 j) rfl
  have b1_2_13 := B1x.cell 13 (v := .bool b) rfl
  have b2_2_0 := B2.cell 0 (v := .int .i64 0) rfl
  have b2_2_1 := B2.cell 1 (v := .int .i64 0) rfl
  have zb2_2_0 := B2.frozen 0
  have zb2_2_1 := B2.frozen 1
  go_enter Tryz.func147, Tryz.ntmps147
  go_wp2
  go_region_held2 (fun w' => w'.cell? ⟨w.heap.size, 0, none⟩ = some (.int .u8 k) ∧ w'.cell? ⟨w.heap.size, 1, none⟩ = some (.int .i64 x) ∧ w'.cell? ⟨w.heap.size, 2, none⟩ = some (.int .i64 y) ∧ w'.cell? ⟨w.heap.size, 3, none⟩ = some (.int .u8 t) ∧ w'.cell? ⟨w.heap.size, 4, none⟩ = some (.int .i64 z) ∧ w'.cell? ⟨w.heap.size, 5, none⟩ = some (.int .i64 (To.fi x)) ∧ w'.cell? ⟨w.heap.size, 6, none⟩ = some (.int .i64 (To.fi y)) ∧ w'.cell? ⟨w.heap.size, 7, none⟩ = some (.int .i64 x) ∧ w'.cell? ⟨w.heap.size, 8, none⟩ = some (.int .i64 y) ∧ w'.cell? ⟨w.heap.size, 9, none⟩ = some (.int .i64 u) ∧ w'.cell? ⟨w.heap.size, 10, none⟩ = some (.int .i64 v) ∧ w'.cell? ⟨w.heap.size, 11, none⟩ = some (.int .i64 i) ∧ w'.cell? ⟨w.heap.size, 12, none⟩ = some (.int .i64 j) ∧ w'.cell? ⟨w.heap.size, 13, none⟩ = some (.bool b)) (go_keep) (fail)
  have B1xd := B1x.dr
  have B2d := B2.dr
  have G2d := gb_drew G2
  clear b1_2_0 b1_2_1 b1_2_2 b1_2_3 b1_2_4 b1_2_5 b1_2_6 b1_2_7 b1_2_8 b1_2_9 b1_2_10 b1_2_11 b1_2_12 b1_2_13 b2_2_0 b2_2_1 zb2_2_0 zb2_2_1
  have b1_3_0 := B1xd.cell 0 (v := .int .u8 k) rfl
  have b1_3_1 := B1xd.cell 1 (v := .int .i64 x) rfl
  have b1_3_2 := B1xd.cell 2 (v := .int .i64 y) rfl
  have b1_3_3 := B1xd.cell 3 (v := .int .u8 t) rfl
  have b1_3_4 := B1xd.cell 4 (v := .int .i64 z) rfl
  have b1_3_5 := B1xd.cell 5 (v := .int .i64 (To.fi x)) rfl
  have b1_3_6 := B1xd.cell 6 (v := .int .i64 (To.fi y)) rfl
  have b1_3_7 := B1xd.cell 7 (v := .int .i64 x) rfl
  have b1_3_8 := B1xd.cell 8 (v := .int .i64 y) rfl
  have b1_3_9 := B1xd.cell 9 (v := .int .i64 u) rfl
  have b1_3_10 := B1xd.cell 10 (v := .int .i64 v) rfl
  have b1_3_11 := B1xd.cell 11 (v := .int .i64 i) rfl
  have b1_3_12 := B1xd.cell 12 (v := .int .i64 j) rfl
  have b1_3_13 := B1xd.cell 13 (v := .bool b) rfl
  have b2_3_0 := B2d.cell 0 (v := .int .i64 0) rfl
  have b2_3_1 := B2d.cell 1 (v := .int .i64 0) rfl
  have zb2_3_0 := B2d.frozen 0
  have zb2_3_1 := B2d.frozen 1
  go_wp2_with (first | (go_at_call 149; (fail_if_success (guard_hyp g4)); refine (hf _).mono ?_; rintro e w4 ⟨rfl, g4⟩; have G4 := gb_trans G2d g4; have B1xdx := B1xd.kept g4 (by simp); have B2dx := B2d.kept g4 (by simp); clear b1_3_0 b1_3_1 b1_3_2 b1_3_3 b1_3_4 b1_3_5 b1_3_6 b1_3_7 b1_3_8 b1_3_9 b1_3_10 b1_3_11 b1_3_12 b1_3_13 b2_3_0 b2_3_1 zb2_3_0 zb2_3_1; have b1_4_0 := B1xdx.cell 0 (v := .int .u8 k) rfl; have b1_4_1 := B1xdx.cell 1 (v := .int .i64 x) rfl; have b1_4_2 := B1xdx.cell 2 (v := .int .i64 y) rfl; have b1_4_3 := B1xdx.cell 3 (v := .int .u8 t) rfl; have b1_4_4 := B1xdx.cell 4 (v := .int .i64 z) rfl; have b1_4_5 := B1xdx.cell 5 (v := .int .i64 (To.fi x)) rfl; have b1_4_6 := B1xdx.cell 6 (v := .int .i64 (To.fi y)) rfl; have b1_4_7 := B1xdx.cell 7 (v := .int .i64 x) rfl; have b1_4_8 := B1xdx.cell 8 (v := .int .i64 y) rfl; have b1_4_9 := B1xdx.cell 9 (v := .int .i64 u) rfl; have b1_4_10 := B1xdx.cell 10 (v := .int .i64 v) rfl; have b1_4_11 := B1xdx.cell 11 (v := .int .i64 i) rfl; have b1_4_12 := B1xdx.cell 12 (v := .int .i64 j) rfl; have b1_4_13 := B1xdx.cell 13 (v := .bool b) rfl; have b2_4_0 := B2dx.cell 0 (v := .int .i64 0) rfl; have b2_4_1 := B2dx.cell 1 (v := .int .i64 0) rfl; have zb2_4_0 := B2dx.frozen 0; have zb2_4_1 := B2dx.frozen 1) | (go_at_call 150; refine (isOddC _ _).mono ?_; rintro e w' ⟨rfl, hw'⟩; subst w'))
  all_goals refine ret_c2 (g := W1.heap.size) (cs := #[.int .i64 P, .int .i64 Q]) rfl hfs infoP rfl (bo2 B2dx) rfl ⟨rfl, gb2 G4 g1.size⟩
end Go.Proofs.YthjiiljglgmkpaaGreatDoor.Fd
