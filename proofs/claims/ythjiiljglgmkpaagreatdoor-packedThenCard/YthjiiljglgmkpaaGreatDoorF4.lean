/- What each kind of topology does with a place, and their table; the cell of a place. -/
import Derived.Test.YthjiiljglgmkpaaGreatDoorFa
namespace Go.Proofs.YthjiiljglgmkpaaGreatDoor.Fd
open Go.RowKit
set_option linter.unusedVariables false
set_option linter.unusedSimpArgs false
set_option maxRecDepth 100000

theorem underK : ∃ n el, Tryz.prog.underlying 213 = some (.array n el) := by
  first | exact ⟨_, _, Tryz.underlying213⟩ | exact ⟨_, _, by kernel_rfl⟩
theorem infoK : (Tryz.prog.info? 213).map (·.size) = some 6 := by kernel_rfl
theorem stN (w : World) (a : Addr) (m : Mode) : (store a .nilFunc m).run Tryz.prog w = stored Tryz.prog w a .nilFunc m := run_store _ _ _ _ _ rfl
theorem stF (w : World) (a : Addr) (f : Fn) (x y : Array Value) (m : Mode) : (store a (.func f x y) m).run Tryz.prog w = stored Tryz.prog w a (.func f x y) m := run_store _ _ _ _ _ rfl
theorem bo6 {w : World} {g : Nat} {t : TypeId} {x0 x1 x2 x3 x4 x5 u0 u1 u2 u3 u4 u5 : Value} (h : Bo w g t #[x0, x1, x2, x3, x4, x5]) : Bo ((((((w.setCell ⟨g, 0, none⟩ u0).setCell ⟨g, 1, none⟩ u1).setCell ⟨g, 2, none⟩ u2).setCell ⟨g, 3, none⟩ u3).setCell ⟨g, 4, none⟩ u4).setCell ⟨g, 5, none⟩ u5) g t #[u0, u1, u2, u3, u4, u5] := by
  simpa using ((((((h.set 0 u0).set 1 u1).set 2 u2).set 3 u3).set 4 u4).set 5 u5)
theorem gb6 {w w' : World} {g : Nat} {u0 u1 u2 u3 u4 u5 : Value} (h : w.grownBy w' none) (hb : w.heap.size ≤ g) : w.grownBy ((((((w'.setCell ⟨g, 0, none⟩ u0).setCell ⟨g, 1, none⟩ u1).setCell ⟨g, 2, none⟩ u2).setCell ⟨g, 3, none⟩ u3).setCell ⟨g, 4, none⟩ u4).setCell ⟨g, 5, none⟩ u5) none := (gb_new (gb_new (gb_new (gb_new (gb_new (gb_new h hb _) hb _) hb _) hb _) hb _) hb _)


theorem kindsC (w : World) : Calls Tryz.prog 139 #[] w fun e w' => e = .returned (.agg #[.nilFunc, .func (.func 144) #[] #[], .func (.func 145) #[] #[], .func (.func 146) #[] #[], .func (.func 147) #[] #[], .func (.func 148) #[] #[]]) ∧ w.grownBy w' none := by
  obtain ⟨n, el, hu⟩ := underK
  have st := stN
  have sf := stF
  obtain ⟨W1, hW1, sz1, g1, B1⟩ := boxn w #[.nilFunc, .nilFunc, .nilFunc, .nilFunc, .nilFunc, .nilFunc] 213
  have b1_1_0 := B1.cell 0 (v := .nilFunc) rfl
  have b1_1_1 := B1.cell 1 (v := .nilFunc) rfl
  have b1_1_2 := B1.cell 2 (v := .nilFunc) rfl
  have b1_1_3 := B1.cell 3 (v := .nilFunc) rfl
  have b1_1_4 := B1.cell 4 (v := .nilFunc) rfl
  have b1_1_5 := B1.cell 5 (v := .nilFunc) rfl
  have zb1_1_0 := B1.frozen 0
  have zb1_1_1 := B1.frozen 1
  have zb1_1_2 := B1.frozen 2
  have zb1_1_3 := B1.frozen 3
  have zb1_1_4 := B1.frozen 4
  have zb1_1_5 := B1.frozen 5
  go_enter Tryz.func139, Tryz.ntmps139
  go_wp2
  refine ret_a1 (g := w.heap.size) (cs := #[.nilFunc, .func (.func 144) #[] #[], .func (.func 145) #[] #[], .func (.func 146) #[] #[], .func (.func 147) #[] #[], .func (.func 148) #[] #[]]) rfl hu infoK rfl (bo6 B1) rfl ⟨rfl, gb6 g1 (Nat.le_refl _)⟩
theorem kx1 (x0 x1 x2 x3 x4 x5 : Value) (w : World) : (Instr.index 213 (.agg #[x0, x1, x2, x3, x4, x5]) (.int .u8 1)).run Tryz.prog w = .ok x1 w := by kernel_rfl
theorem kx2 (x0 x1 x2 x3 x4 x5 : Value) (w : World) : (Instr.index 213 (.agg #[x0, x1, x2, x3, x4, x5]) (.int .u8 2)).run Tryz.prog w = .ok x2 w := by kernel_rfl
theorem kx3 (x0 x1 x2 x3 x4 x5 : Value) (w : World) : (Instr.index 213 (.agg #[x0, x1, x2, x3, x4, x5]) (.int .u8 3)).run Tryz.prog w = .ok x3 w := by kernel_rfl
theorem kx4 (x0 x1 x2 x3 x4 x5 : Value) (w : World) : (Instr.index 213 (.agg #[x0, x1, x2, x3, x4, x5]) (.int .u8 4)).run Tryz.prog w = .ok x4 w := by kernel_rfl
theorem kx5 (x0 x1 x2 x3 x4 x5 : Value) (w : World) : (Instr.index 213 (.agg #[x0, x1, x2, x3, x4, x5]) (.int .u8 5)).run Tryz.prog w = .ok x5 w := by kernel_rfl

set_option maxHeartbeats 1000000 in
theorem sphereC (k x y t z u v i j : Int) (b : Bool) (hx : 0 ≤ x ∧ x ≤ 65536) (hy : 0 ≤ y ∧ y ≤ 65536) (P Q : Int) (hf : ∀ w, Calls Tryz.prog 152 #[.agg #[.int .u8 k, .int .i64 x, .int .i64 y, .int .u8 t, .int .i64 z, .int .i64 (To.fi x), .int .i64 (To.fi y), .int .i64 x, .int .i64 y], .int .i64 (Nm.nearZ v 0 (y - 1)), .int .i64 (Nm.nearZ u 0 (x - 1))] w fun e w' => e = .returned (.agg #[.int .i64 P, .int .i64 Q]) ∧ w.grownBy w' none) (w : World) : Calls Tryz.prog 148 #[.agg #[.int .u8 k, .int .i64 x, .int .i64 y, .int .u8 t, .int .i64 z, .int .i64 (To.fi x), .int .i64 (To.fi y), .int .i64 x, .int .i64 y, .int .i64 u, .int .i64 v, .int .i64 i, .int .i64 j, .bool b]] w fun e w' => e = .returned (.tuple #[.agg #[.int .i64 P, .int .i64 Q], .bool true]) ∧ w.grownBy w' none := by
  obtain ⟨fs, hfs⟩ := underP
  have hx1 : IntKind.i64.wrap (x - 1) = x - 1 := by rw [IntKind.wrap_i64]; omega
  have hy1 : IntKind.i64.wrap (y - 1) = y - 1 := by rw [IntKind.wrap_i64]; omega
  clear hx hy
  obtain ⟨W1, hW1, sz1, g1, B1⟩ := boxn w #[.int .u8 k, .int .i64 x, .int .i64 y, .int .u8 t, .int .i64 z, .int .i64 (To.fi x), .int .i64 (To.fi y), .int .i64 x, .int .i64 y, .int .i64 u, .int .i64 v, .int .i64 i, .int .i64 j, .bool b] 200
  obtain ⟨W2, hW2, sz2, g2, B2⟩ := boxn W1 #[.int .i64 0, .int .i64 0] 135
  have G2 := gb_trans g1 g2
  have B1x := B1.kept g2 (by simp)
  have b1_2_0 := B1x.cell 0 (v := .int .u8 k) rfl
  have b1_2_1 := B1x.cell 1 (v := .int .i64 x) rfl
  have b1_2_2 := B1x.cell 2 (v := .int .i64 y) rfl
  have b1_2_3 := B1x.cell 3 (v := .int .u8 t) rfl
  have b1_2_4 := B1x.cell 4 (v := .int .i64 z) rfl
  have b1_2_5 := B1x.cell 5 (v := .int .i64 (To.fi x)) rfl
  have b1_2_6 := B1x.cell 6 (v := .int .i64 (To.fi y)) rfl
  have b1_2_7 := B1x.cell 7 (v := .int .i64 x) rfl
  have b1_2_8 := B1x.cell 8 (v := .int .i64 y) rfl
  have b1_2_9 := B1x.cell 9 (v := .int .i64 u) rfl
  have b1_2_10 := B1x.cell 10 (v := .int .i64 v) rfl
  have b1_2_11 := B1x.cell 11 (v := .int .i64 i) rfl
  have b1_2_12 := B1x.cell 12 (v := .int .i64 j) rfl
  have b1_2_13 := B1x.cell 13 (v := .bool b) rfl
  have b2_2_0 := B2.cell 0 (v := .int .i64 0) rfl
  have b2_2_1 := B2.cell 1 (v := .int .i64 0) rfl
  have zb2_2_0 := B2.frozen 0
  have zb2_2_1 := B2.frozen 1
  go_enter Tryz.func148, Tryz.ntmps148
  go_wp2
  go_region_held2 (fun w' => w'.cell? ⟨w.heap.size, 0, none⟩ = some (.int .u8 k) ∧ w'.cell? ⟨w.heap.size, 1, none⟩ = some (.int .i64 x) ∧ w'.cell? ⟨w.heap.size, 2, none⟩ = some (.int .i64 y) ∧ w'.cell? ⟨w.heap.size, 3, none⟩ = some (.int .u8 t) ∧ w'.cell? ⟨w.heap.size, 4, none⟩ = some (.int .i64 z) ∧ w'.cell? ⟨w.heap.size, 5, none⟩ = some (.int .i64 (To.fi x)) ∧ w'.cell? ⟨w.heap.size, 6, none⟩ = some (.int .i64 (To.fi y)) ∧ w'.cell? ⟨w.heap.size, 7, none⟩ = some (.int .i64 x) ∧ w'.cell? ⟨w.heap.size, 8, none⟩ = some (.int .i64 y) ∧ w'.cell? ⟨w.heap.size, 9, none⟩ = some (.int .i64 u) ∧ w'.cell? ⟨w.heap.size, 10, none⟩ = some (.int .i64 v) ∧ w'.cell? ⟨w.heap.size, 11, none⟩ = some (.int .i64 i) ∧ w'.cell? ⟨w.heap.size, 12, none⟩ = some (.int .i64 j) ∧ w'.cell? ⟨w.heap.size, 13, none⟩ = some (.bool b)) (go_keep) (first | (go_at_call 151; refine (nearC _ _ _ _).mono ?_; rintro e w' ⟨rfl, hw'⟩; subst w'))
  have B1xd := B1x.dr
  have B2d := B2.dr
  have G2d := gb_drew G2
  clear b1_2_0 b1_2_1 b1_2_2 b1_2_3 b1_2_4 b1_2_5 b1_2_6 b1_2_7 b1_2_8 b1_2_9 b1_2_10 b1_2_11 b1_2_12 b1_2_13 b2_2_0 b2_2_1 zb2_2_0 zb2_2_1
  have b1_3_0 := B1xd.cell 0 (v := .int .u8 k) rfl
  have b1_3_1 := B1xd.cell 1 (v := .int .i64 x) rfl
  have b1_3_2 := B1xd.cell 2 (v := .int .i64 y) rfl
  have b1_3_3 := B1xd.cell 3 (v := .int .u8 t) rfl
  have b1_3_4 := B1xd.cell 4 (v := .int .i64 z) rfl
  have b1_3_5 := B1xd.cell 5 (v := .int .i64 (To.fi x)) rfl
  have b1_3_6 := B1xd.cell 6 (v := .int .i64 (To.fi y)) rfl
  have b1_3_7 := B1xd.cell 7 (v := .int .i64 x) rfl
  have b1_3_8 := B1xd.cell 8 (v := .int .i64 y) rfl
  have b1_3_9 := B1xd.cell 9 (v := .int .i64 u) rfl
  have b1_3_10 := B1xd.cell 10 (v := .int .i64 v) rfl
  have b1_3_11 := B1xd.cell 11 (v := .int .i64 i) rfl
  have b1_3_12 := B1xd.cell 12 (v := .int .i64 j) rfl
  have b1_3_13 := B1xd.cell 13 (v := .bool b) rfl
  have b2_3_0 := B2d.cell 0 (v := .int .i64 0) rfl
  have b2_3_1 := B2d.cell 1 (v := .int .i64 0) rfl
  have zb2_3_0 := B2d.frozen 0
  have zb2_3_1 := B2d.frozen 1
  go_wp2_with (first | (go_at_call 152; (fail_if_success (guard_hyp g4)); refine (hf _).mono ?_; rintro e w4 ⟨rfl, g4⟩; have G4 := gb_trans G2d g4; have B1xdx := B1xd.kept g4 (by simp); have B2dx := B2d.kept g4 (by simp); clear b1_3_0 b1_3_1 b1_3_2 b1_3_3 b1_3_4 b1_3_5 b1_3_6 b1_3_7 b1_3_8 b1_3_9 b1_3_10 b1_3_11 b1_3_12 b1_3_13 b2_3_0 b2_3_1 zb2_3_0 zb2_3_1; have b1_4_0 := B1xdx.cell 0 (v := .int .u8 k) rfl; have b1_4_1 := B1xdx.cell 1 (v := .int .i64 x) rfl; have b1_4_2 := B1xdx.cell 2 (v := .int .i64 y) rfl; have b1_4_3 := B1xdx.cell 3 (v := .int .u8 t) rfl; have b1_4_4 := B1xdx.cell 4 (v := .int .i64 z) rfl; have b1_4_5 := B1xdx.cell 5 (v := .int .i64 (To.fi x)) rfl; have b1_4_6 := B1xdx.cell 6 (v := .int .i64 (To.fi y)) rfl; have b1_4_7 := B1xdx.cell 7 (v := .int .i64 x) rfl; have b1_4_8 := B1xdx.cell 8 (v := .int .i64 y) rfl; have b1_4_9 := B1xdx.cell 9 (v := .int .i64 u) rfl; have b1_4_10 := B1xdx.cell 10 (v := .int .i64 v) rfl; have b1_4_11 := B1xdx.cell 11 (v := .int .i64 i) rfl; have b1_4_12 := B1xdx.cell 12 (v := .int .i64 j) rfl; have b1_4_13 := B1xdx.cell 13 (v := .bool b) rfl; have b2_4_0 := B2dx.cell 0 (v := .int .i64 0) rfl; have b2_4_1 := B2dx.cell 1 (v := .int .i64 0) rfl; have zb2_4_0 := B2dx.frozen 0; have zb2_4_1 := B2dx.frozen 1))
  all_goals refine ret_c2 (g := W1.heap.size) (cs := #[.int .i64 P, .int .i64 Q]) rfl hfs infoP rfl (bo2 B2dx) rfl ⟨rfl, gb2 G4 g1.size⟩

theorem planeC (k x y t z u v i j : Int) (b : Bool) (w : World) : Calls Tryz.prog 144 #[.agg #[.int .u8 k, .int .i64 x, .int .i64 y, .int .u8 t, .int .i64 z, .int .i64 (To.fi x), .int .i64 (To.fi y), .int .i64 x, .int .i64 y, .int .i64 u, .int .i64 v, .int .i64 i, .int .i64 j, .bool b]] w fun e w' => e = .returned (.tuple #[.agg #[.int .i64 0, .int .i64 0], .bool false]) ∧ w.grownBy w' none := by
  obtain ⟨fs, hfs⟩ := underP
  obtain ⟨W1, hW1, sz1, g1, B1⟩ := boxn w #[.int .u8 k, .int .i64 x, .int .i64 y, .int .u8 t, .int .i64 z, .int .i64 (To.fi x), .int .i64 (To.fi y), .int .i64 x, .int .i64 y, .int .i64 u, .int .i64 v, .int .i64 i, .int .i64 j, .bool b] 200
  obtain ⟨W2, hW2, sz2, g2, B2⟩ := boxn W1 #[.int .i64 0, .int .i64 0] 135
  have G2 := gb_trans g1 g2
  have B1x := B1.kept g2 (by simp)
  have b1_2_0 := B1x.cell 0 (v := .int .u8 k) rfl
  have b1_2_1 := B1x.cell 1 (v := .int .i64 x) rfl
  have b1_2_2 := B1x.cell 2 (v := .int .i64 y) rfl
  have b1_2_3 := B1x.cell 3 (v := .int .u8 t) rfl
  have b1_2_4 := B1x.cell 4 (v := .int .i64 z) rfl
  have b1_2_5 := B1x.cell 5 (v := .int .i64 (To.fi x)) rfl
  have b1_2_6 := B1x.cell 6 (v := .int .i64 (To.fi y)) rfl
  have b1_2_7 := B1x.cell 7 (v := .int .i64 x) rfl
  have b1_2_8 := B1x.cell 8 (v := .int .i64 y) rfl
  have b1_2_9 := B1x.cell 9 (v := .int .i64 u) rfl
  have b1_2_10 := B1x.cell 10 (v := .int .i64 v) rfl
  have b1_2_11 := B1x.cell 11 (v := .int .i64 i) rfl
  have b1_2_12 := B1x.cell 12 (v := .int .i64 j) rfl
  have b1_2_13 := B1x.cell 13 (v := .bool b) rfl
  have b2_2_0 := B2.cell 0 (v := .int .i64 0) rfl
  have b2_2_1 := B2.cell 1 (v := .int .i64 0) rfl
  have zb2_2_0 := B2.frozen 0
  have zb2_2_1 := B2.frozen 1
  go_enter Tryz.func144, Tryz.ntmps144
  go_wp2
  refine ret_c2 (g := W1.heap.size) (cs := #[.int .i64 0, .int .i64 0]) rfl hfs infoP rfl (bo2 B2) rfl ⟨rfl, gb2 G2 g1.size⟩

set_option maxHeartbeats 2000000 in
theorem beyond1 (x y t z u v i j : Int) (b : Bool) (P Q : Int) (B : Bool) (hf : ∀ w, Calls Tryz.prog 144 #[.agg #[.int .u8 1, .int .i64 x, .int .i64 y, .int .u8 t, .int .i64 z, .int .i64 (To.fi x), .int .i64 (To.fi y), .int .i64 x, .int .i64 y, .int .i64 u, .int .i64 v, .int .i64 i, .int .i64 j, .bool b]] w fun e w' => e = .returned (.tuple #[.agg #[.int .i64 P, .int .i64 Q], .bool B]) ∧ w.grownBy w' none) (w : World) : Calls Tryz.prog 126 #[.agg #[.int .u8 1, .int .i64 x, .int .i64 y, .int .u8 t, .int .i64 z, .int .i64 (To.fi x), .int .i64 (To.fi y), .int .i64 x, .int .i64 y, .int .i64 u, .int .i64 v, .int .i64 i, .int .i64 j, .bool b]] w fun e w' => e = .returned (.tuple #[.agg #[.int .i64 P, .int .i64 Q], .bool B]) ∧ w.grownBy w' none := by
  obtain ⟨fs, hfs⟩ := underP
  have kx := kx1
  obtain ⟨W1, hW1, sz1, g1, B1⟩ := boxn w #[.int .u8 1, .int .i64 x, .int .i64 y, .int .u8 t, .int .i64 z, .int .i64 (To.fi x), .int .i64 (To.fi y), .int .i64 x, .int .i64 y, .int .i64 u, .int .i64 v, .int .i64 i, .int .i64 j, .bool b] 200
  obtain ⟨W2, hW2, sz2, g2, B2⟩ := boxn W1 #[.int .i64 0, .int .i64 0] 135
  have G2 := gb_trans g1 g2
  have B1x := B1.kept g2 (by simp)
  have b1_2_0 := B1x.cell 0 (v := .int .u8 1) rfl
  have b1_2_1 := B1x.cell 1 (v := .int .i64 x) rfl
  have b1_2_2 := B1x.cell 2 (v := .int .i64 y) rfl
  have b1_2_3 := B1x.cell 3 (v := .int .u8 t) rfl
  have b1_2_4 := B1x.cell 4 (v := .int .i64 z) rfl
  have b1_2_5 := B1x.cell 5 (v := .int .i64 (To.fi x)) rfl
  have b1_2_6 := B1x.cell 6 (v := .int .i64 (To.fi y)) rfl
  have b1_2_7 := B1x.cell 7 (v := .int .i64 x) rfl
  have b1_2_8 := B1x.cell 8 (v := .int .i64 y) rfl
  have b1_2_9 := B1x.cell 9 (v := .int .i64 u) rfl
  have b1_2_10 := B1x.cell 10 (v := .int .i64 v) rfl
  have b1_2_11 := B1x.cell 11 (v := .int .i64 i) rfl
  have b1_2_12 := B1x.cell 12 (v := .int .i64 j) rfl
  have b1_2_13 := B1x.cell 13 (v := .bool b) rfl
  have b2_2_0 := B2.cell 0 (v := .int .i64 0) rfl
  have b2_2_1 := B2.cell 1 (v := .int .i64 0) rfl
  have zb2_2_0 := B2.frozen 0
  have zb2_2_1 := B2.frozen 1
  go_enter Tryz.func126, Tryz.ntmps126
  go_wp2
  have ap0 := Nat.ne_of_lt B1.lt
  have aq0 := Nat.ne_of_gt B1.lt
  go_region_held2 (fun w' => w'.cell? ⟨w.heap.size, 0, none⟩ = some (.int .u8 1) ∧ w'.cell? ⟨w.heap.size, 1, none⟩ = some (.int .i64 x) ∧ w'.cell? ⟨w.heap.size, 2, none⟩ = some (.int .i64 y) ∧ w'.cell? ⟨w.heap.size, 3, none⟩ = some (.int .u8 t) ∧ w'.cell? ⟨w.heap.size, 4, none⟩ = some (.int .i64 z) ∧ w'.cell? ⟨w.heap.size, 5, none⟩ = some (.int .i64 (To.fi x)) ∧ w'.cell? ⟨w.heap.size, 6, none⟩ = some (.int .i64 (To.fi y)) ∧ w'.cell? ⟨w.heap.size, 7, none⟩ = some (.int .i64 x) ∧ w'.cell? ⟨w.heap.size, 8, none⟩ = some (.int .i64 y) ∧ w'.cell? ⟨w.heap.size, 9, none⟩ = some (.int .i64 u) ∧ w'.cell? ⟨w.heap.size, 10, none⟩ = some (.int .i64 v) ∧ w'.cell? ⟨w.heap.size, 11, none⟩ = some (.int .i64 i) ∧ w'.cell? ⟨w.heap.size, 12, none⟩ = some (.int .i64 j) ∧ w'.cell? ⟨w.heap.size, 13, none⟩ = some (.bool b)) (go_keep) (first | (go_at_call 139; refine (kindsC _).mono ?_; rintro e w8 ⟨rfl, g8⟩; have S8 := B1x.dr.kept g8 (by simp); have R8 := B2.dr.kept g8 (by simp); have G8 := gb_trans (gb_drew G2) g8; have l0 := S8.cell 0 (v := .int .u8 1) rfl; have l1 := S8.cell 1 (v := .int .i64 x) rfl; have l2 := S8.cell 2 (v := .int .i64 y) rfl; have l3 := S8.cell 3 (v := .int .u8 t) rfl; have l4 := S8.cell 4 (v := .int .i64 z) rfl; have l5 := S8.cell 5 (v := .int .i64 (To.fi x)) rfl; have l6 := S8.cell 6 (v := .int .i64 (To.fi y)) rfl; have l7 := S8.cell 7 (v := .int .i64 x) rfl; have l8 := S8.cell 8 (v := .int .i64 y) rfl; have l9 := S8.cell 9 (v := .int .i64 u) rfl; have l10 := S8.cell 10 (v := .int .i64 v) rfl; have l11 := S8.cell 11 (v := .int .i64 i) rfl; have l12 := S8.cell 12 (v := .int .i64 j) rfl; have l13 := S8.cell 13 (v := .bool b) rfl) | (go_at_call 144; refine (hf _).mono ?_; rintro e w9 ⟨rfl, g9⟩; have R9 := R8.kept g9 (by simp); have G9 := gb_trans G8 g9; have S9 := S8.kept g9 (by simp); have m0 := S9.cell 0 (v := .int .u8 1) rfl; have m1 := S9.cell 1 (v := .int .i64 x) rfl; have m2 := S9.cell 2 (v := .int .i64 y) rfl; have m3 := S9.cell 3 (v := .int .u8 t) rfl; have m4 := S9.cell 4 (v := .int .i64 z) rfl; have m5 := S9.cell 5 (v := .int .i64 (To.fi x)) rfl; have m6 := S9.cell 6 (v := .int .i64 (To.fi y)) rfl; have m7 := S9.cell 7 (v := .int .i64 x) rfl; have m8 := S9.cell 8 (v := .int .i64 y) rfl; have m9 := S9.cell 9 (v := .int .i64 u) rfl; have m10 := S9.cell 10 (v := .int .i64 v) rfl; have m11 := S9.cell 11 (v := .int .i64 i) rfl; have m12 := S9.cell 12 (v := .int .i64 j) rfl; have m13 := S9.cell 13 (v := .bool b) rfl; have y0 := R9.cell 0 (v := .int .i64 0) rfl; have y1 := R9.cell 1 (v := .int .i64 0) rfl; have f0 := R9.frozen 0; have f1 := R9.frozen 1))
  all_goals go_wp2
  all_goals refine ret_c2 (g := W1.heap.size) (cs := #[.int .i64 P, .int .i64 Q]) rfl hfs infoP rfl (bo2 R9) rfl ⟨rfl, gb2 G9 g1.size⟩

set_option maxHeartbeats 2000000 in
theorem beyond2 (x y t z u v i j : Int) (b : Bool) (P Q : Int) (B : Bool) (hf : ∀ w, Calls Tryz.prog 145 #[.agg #[.int .u8 2, .int .i64 x, .int .i64 y, .int .u8 t, .int .i64 z, .int .i64 (To.fi x), .int .i64 (To.fi y), .int .i64 x, .int .i64 y, .int .i64 u, .int .i64 v, .int .i64 i, .int .i64 j, .bool b]] w fun e w' => e = .returned (.tuple #[.agg #[.int .i64 P, .int .i64 Q], .bool B]) ∧ w.grownBy w' none) (w : World) : Calls Tryz.prog 126 #[.agg #[.int .u8 2, .int .i64 x, .int .i64 y, .int .u8 t, .int .i64 z, .int .i64 (To.fi x), .int .i64 (To.fi y), .int .i64 x, .int .i64 y, .int .i64 u, .int .i64 v, .int .i64 i, .int .i64 j, .bool b]] w fun e w' => e = .returned (.tuple #[.agg #[.int .i64 P, .int .i64 Q], .bool B]) ∧ w.grownBy w' none := by
  obtain ⟨fs, hfs⟩ := underP
  have kx := kx2
  obtain ⟨W1, hW1, sz1, g1, B1⟩ := boxn w #[.int .u8 2, .int .i64 x, .int .i64 y, .int .u8 t, .int .i64 z, .int .i64 (To.fi x), .int .i64 (To.fi y), .int .i64 x, .int .i64 y, .int .i64 u, .int .i64 v, .int .i64 i, .int .i64 j, .bool b] 200
  obtain ⟨W2, hW2, sz2, g2, B2⟩ := boxn W1 #[.int .i64 0, .int .i64 0] 135
  have G2 := gb_trans g1 g2
  have B1x := B1.kept g2 (by simp)
  have b1_2_0 := B1x.cell 0 (v := .int .u8 2) rfl
  have b1_2_1 := B1x.cell 1 (v := .int .i64 x) rfl
  have b1_2_2 := B1x.cell 2 (v := .int .i64 y) rfl
  have b1_2_3 := B1x.cell 3 (v := .int .u8 t) rfl
  have b1_2_4 := B1x.cell 4 (v := .int .i64 z) rfl
  have b1_2_5 := B1x.cell 5 (v := .int .i64 (To.fi x)) rfl
  have b1_2_6 := B1x.cell 6 (v := .int .i64 (To.fi y)) rfl
  have b1_2_7 := B1x.cell 7 (v := .int .i64 x) rfl
  have b1_2_8 := B1x.cell 8 (v := .int .i64 y) rfl
  have b1_2_9 := B1x.cell 9 (v := .int .i64 u) rfl
  have b1_2_10 := B1x.cell 10 (v := .int .i64 v) rfl
  have b1_2_11 := B1x.cell 11 (v := .int .i64 i) rfl
  have b1_2_12 := B1x.cell 12 (v := .int .i64 j) rfl
  have b1_2_13 := B1x.cell 13 (v := .bool b) rfl
  have b2_2_0 := B2.cell 0 (v := .int .i64 0) rfl
  have b2_2_1 := B2.cell 1 (v := .int .i64 0) rfl
  have zb2_2_0 := B2.frozen 0
  have zb2_2_1 := B2.frozen 1
  go_enter Tryz.func126, Tryz.ntmps126
  go_wp2
  have ap0 := Nat.ne_of_lt B1.lt
  have aq0 := Nat.ne_of_gt B1.lt
  go_region_held2 (fun w' => w'.cell? ⟨w.heap.size, 0, none⟩ = some (.int .u8 2) ∧ w'.cell? ⟨w.heap.size, 1, none⟩ = some (.int .i64 x) ∧ w'.cell? ⟨w.heap.size, 2, none⟩ = some (.int .i64 y) ∧ w'.cell? ⟨w.heap.size, 3, none⟩ = some (.int .u8 t) ∧ w'.cell? ⟨w.heap.size, 4, none⟩ = some (.int .i64 z) ∧ w'.cell? ⟨w.heap.size, 5, none⟩ = some (.int .i64 (To.fi x)) ∧ w'.cell? ⟨w.heap.size, 6, none⟩ = some (.int .i64 (To.fi y)) ∧ w'.cell? ⟨w.heap.size, 7, none⟩ = some (.int .i64 x) ∧ w'.cell? ⟨w.heap.size, 8, none⟩ = some (.int .i64 y) ∧ w'.cell? ⟨w.heap.size, 9, none⟩ = some (.int .i64 u) ∧ w'.cell? ⟨w.heap.size, 10, none⟩ = some (.int .i64 v) ∧ w'.cell? ⟨w.heap.size, 11, none⟩ = some (.int .i64 i) ∧ w'.cell? ⟨w.heap.size, 12, none⟩ = some (.int .i64 j) ∧ w'.cell? ⟨w.heap.size, 13, none⟩ = some (.bool b)) (go_keep) (first | (go_at_call 139; refine (kindsC _).mono ?_; rintro e w8 ⟨rfl, g8⟩; have S8 := B1x.dr.kept g8 (by simp); have R8 := B2.dr.kept g8 (by simp); have G8 := gb_trans (gb_drew G2) g8; have l0 := S8.cell 0 (v := .int .u8 2) rfl; have l1 := S8.cell 1 (v := .int .i64 x) rfl; have l2 := S8.cell 2 (v := .int .i64 y) rfl; have l3 := S8.cell 3 (v := .int .u8 t) rfl; have l4 := S8.cell 4 (v := .int .i64 z) rfl; have l5 := S8.cell 5 (v := .int .i64 (To.fi x)) rfl; have l6 := S8.cell 6 (v := .int .i64 (To.fi y)) rfl; have l7 := S8.cell 7 (v := .int .i64 x) rfl; have l8 := S8.cell 8 (v := .int .i64 y) rfl; have l9 := S8.cell 9 (v := .int .i64 u) rfl; have l10 := S8.cell 10 (v := .int .i64 v) rfl; have l11 := S8.cell 11 (v := .int .i64 i) rfl; have l12 := S8.cell 12 (v := .int .i64 j) rfl; have l13 := S8.cell 13 (v := .bool b) rfl) | (go_at_call 145; refine (hf _).mono ?_; rintro e w9 ⟨rfl, g9⟩; have R9 := R8.kept g9 (by simp); have G9 := gb_trans G8 g9; have S9 := S8.kept g9 (by simp); have m0 := S9.cell 0 (v := .int .u8 2) rfl; have m1 := S9.cell 1 (v := .int .i64 x) rfl; have m2 := S9.cell 2 (v := .int .i64 y) rfl; have m3 := S9.cell 3 (v := .int .u8 t) rfl; have m4 := S9.cell 4 (v := .int .i64 z) rfl; have m5 := S9.cell 5 (v := .int .i64 (To.fi x)) rfl; have m6 := S9.cell 6 (v := .int .i64 (To.fi y)) rfl; have m7 := S9.cell 7 (v := .int .i64 x) rfl; have m8 := S9.cell 8 (v := .int .i64 y) rfl; have m9 := S9.cell 9 (v := .int .i64 u) rfl; have m10 := S9.cell 10 (v := .int .i64 v) rfl; have m11 := S9.cell 11 (v := .int .i64 i) rfl; have m12 := S9.cell 12 (v := .int .i64 j) rfl; have m13 := S9.cell 13 (v := .bool b) rfl; have y0 := R9.cell 0 (v := .int .i64 0) rfl; have y1 := R9.cell 1 (v := .int .i64 0) rfl; have f0 := R9.frozen 0; have f1 := R9.frozen 1))
  all_goals go_wp2
  all_goals refine ret_c2 (g := W1.heap.size) (cs := #[.int .i64 P, .int .i64 Q]) rfl hfs infoP rfl (bo2 R9) rfl ⟨rfl, gb2 G9 g1.size⟩

set_option maxHeartbeats 2000000 in
theorem beyond3 (x y t z u v i j : Int) (b : Bool) (P Q : Int) (B : Bool) (hf : ∀ w, Calls Tryz.prog 146 #[.agg #[.int .u8 3, .int .i64 x, .int .i64 y, .int .u8 t, .int .i64 z, .int .i64 (To.fi x), .int .i64 (To.fi y), .int .i64 x, .int .i64 y, .int .i64 u, .int .i64 v, .int .i64 i, .int .i64 j, .bool b]] w fun e w' => e = .returned (.tuple #[.agg #[.int .i64 P, .int .i64 Q], .bool B]) ∧ w.grownBy w' none) (w : World) : Calls Tryz.prog 126 #[.agg #[.int .u8 3, .int .i64 x, .int .i64 y, .int .u8 t, .int .i64 z, .int .i64 (To.fi x), .int .i64 (To.fi y), .int .i64 x, .int .i64 y, .int .i64 u, .int .i64 v, .int .i64 i, .int .i64 j, .bool b]] w fun e w' => e = .returned (.tuple #[.agg #[.int .i64 P, .int .i64 Q], .bool B]) ∧ w.grownBy w' none := by
  obtain ⟨fs, hfs⟩ := underP
  have kx := kx3
  obtain ⟨W1, hW1, sz1, g1, B1⟩ := boxn w #[.int .u8 3, .int .i64 x, .int .i64 y, .int .u8 t, .int .i64 z, .int .i64 (To.fi x), .int .i64 (To.fi y), .int .i64 x, .int .i64 y, .int .i64 u, .int .i64 v, .int .i64 i, .int .i64 j, .bool b] 200
  obtain ⟨W2, hW2, sz2, g2, B2⟩ := boxn W1 #[.int .i64 0, .int .i64 0] 135
  have G2 := gb_trans g1 g2
  have B1x := B1.kept g2 (by simp)
  have b1_2_0 := B1x.cell 0 (v := .int .u8 3) rfl
  have b1_2_1 := B1x.cell 1 (v := .int .i64 x) rfl
  have b1_2_2 := B1x.cell 2 (v := .int .i64 y) rfl
  have b1_2_3 := B1x.cell 3 (v := .int .u8 t) rfl
  have b1_2_4 := B1x.cell 4 (v := .int .i64 z) rfl
  have b1_2_5 := B1x.cell 5 (v := .int .i64 (To.fi x)) rfl
  have b1_2_6 := B1x.cell 6 (v := .int .i64 (To.fi y)) rfl
  have b1_2_7 := B1x.cell 7 (v := .int .i64 x) rfl
  have b1_2_8 := B1x.cell 8 (v := .int .i64 y) rfl
  have b1_2_9 := B1x.cell 9 (v := .int .i64 u) rfl
  have b1_2_10 := B1x.cell 10 (v := .int .i64 v) rfl
  have b1_2_11 := B1x.cell 11 (v := .int .i64 i) rfl
  have b1_2_12 := B1x.cell 12 (v := .int .i64 j) rfl
  have b1_2_13 := B1x.cell 13 (v := .bool b) rfl
  have b2_2_0 := B2.cell 0 (v := .int .i64 0) rfl
  have b2_2_1 := B2.cell 1 (v := .int .i64 0) rfl
  have zb2_2_0 := B2.frozen 0
  have zb2_2_1 := B2.frozen 1
  go_enter Tryz.func126, Tryz.ntmps126
  go_wp2
  have ap0 := Nat.ne_of_lt B1.lt
  have aq0 := Nat.ne_of_gt B1.lt
  go_region_held2 (fun w' => w'.cell? ⟨w.heap.size, 0, none⟩ = some (.int .u8 3) ∧ w'.cell? ⟨w.heap.size, 1, none⟩ = some (.int .i64 x) ∧ w'.cell? ⟨w.heap.size, 2, none⟩ = some (.int .i64 y) ∧ w'.cell? ⟨w.heap.size, 3, none⟩ = some (.int .u8 t) ∧ w'.cell? ⟨w.heap.size, 4, none⟩ = some (.int .i64 z) ∧ w'.cell? ⟨w.heap.size, 5, none⟩ = some (.int .i64 (To.fi x)) ∧ w'.cell? ⟨w.heap.size, 6, none⟩ = some (.int .i64 (To.fi y)) ∧ w'.cell? ⟨w.heap.size, 7, none⟩ = some (.int .i64 x) ∧ w'.cell? ⟨w.heap.size, 8, none⟩ = some (.int .i64 y) ∧ w'.cell? ⟨w.heap.size, 9, none⟩ = some (.int .i64 u) ∧ w'.cell? ⟨w.heap.size, 10, none⟩ = some (.int .i64 v) ∧ w'.cell? ⟨w.heap.size, 11, none⟩ = some (.int .i64 i) ∧ w'.cell? ⟨w.heap.size, 12, none⟩ = some (.int .i64 j) ∧ w'.cell? ⟨w.heap.size, 13, none⟩ = some (.bool b)) (go_keep) (first | (go_at_call 139; refine (kindsC _).mono ?_; rintro e w8 ⟨rfl, g8⟩; have S8 := B1x.dr.kept g8 (by simp); have R8 := B2.dr.kept g8 (by simp); have G8 := gb_trans (gb_drew G2) g8; have l0 := S8.cell 0 (v := .int .u8 3) rfl; have l1 := S8.cell 1 (v := .int .i64 x) rfl; have l2 := S8.cell 2 (v := .int .i64 y) rfl; have l3 := S8.cell 3 (v := .int .u8 t) rfl; have l4 := S8.cell 4 (v := .int .i64 z) rfl; have l5 := S8.cell 5 (v := .int .i64 (To.fi x)) rfl; have l6 := S8.cell 6 (v := .int .i64 (To.fi y)) rfl; have l7 := S8.cell 7 (v := .int .i64 x) rfl; have l8 := S8.cell 8 (v := .int .i64 y) rfl; have l9 := S8.cell 9 (v := .int .i64 u) rfl; have l10 := S8.cell 10 (v := .int .i64 v) rfl; have l11 := S8.cell 11 (v := .int .i64 i) rfl; have l12 := S8.cell 12 (v := .int .i64 j) rfl; have l13 := S8.cell 13 (v := .bool b) rfl) | (go_at_call 146; refine (hf _).mono ?_; rintro e w9 ⟨rfl, g9⟩; have R9 := R8.kept g9 (by simp); have G9 := gb_trans G8 g9; have S9 := S8.kept g9 (by simp); have m0 := S9.cell 0 (v := .int .u8 3) rfl; have m1 := S9.cell 1 (v := .int .i64 x) rfl; have m2 := S9.cell 2 (v := .int .i64 y) rfl; have m3 := S9.cell 3 (v := .int .u8 t) rfl; have m4 := S9.cell 4 (v := .int .i64 z) rfl; have m5 := S9.cell 5 (v := .int .i64 (To.fi x)) rfl; have m6 := S9.cell 6 (v := .int .i64 (To.fi y)) rfl; have m7 := S9.cell 7 (v := .int .i64 x) rfl; have m8 := S9.cell 8 (v := .int .i64 y) rfl; have m9 := S9.cell 9 (v := .int .i64 u) rfl; have m10 := S9.cell 10 (v := .int .i64 v) rfl; have m11 := S9.cell 11 (v := .int .i64 i) rfl; have m12 := S9.cell 12 (v := .int .i64 j) rfl; have m13 := S9.cell 13 (v := .bool b) rfl; have y0 := R9.cell 0 (v := .int .i64 0) rfl; have y1 := R9.cell 1 (v := .int .i64 0) rfl; have f0 := R9.frozen 0; have f1 := R9.frozen 1))
  all_goals go_wp2
  all_goals refine ret_c2 (g := W1.heap.size) (cs := #[.int .i64 P, .int .i64 Q]) rfl hfs infoP rfl (bo2 R9) rfl ⟨rfl, gb2 G9 g1.size⟩

set_option maxHeartbeats 2000000 in
theorem beyond4 (x y t z u v i j : Int) (b : Bool) (P Q : Int) (B : Bool) (hf : ∀ w, Calls Tryz.prog 147 #[.agg #[.int .u8 4, .int .i64 x, .int .i64 y, .int .u8 t, .int .i64 z, .int .i64 (To.fi x), .int .i64 (To.fi y), .int .i64 x, .int .i64 y, .int .i64 u, .int .i64 v, .int .i64 i, .int .i64 j, .bool b]] w fun e w' => e = .returned (.tuple #[.agg #[.int .i64 P, .int .i64 Q], .bool B]) ∧ w.grownBy w' none) (w : World) : Calls Tryz.prog 126 #[.agg #[.int .u8 4, .int .i64 x, .int .i64 y, .int .u8 t, .int .i64 z, .int .i64 (To.fi x), .int .i64 (To.fi y), .int .i64 x, .int .i64 y, .int .i64 u, .int .i64 v, .int .i64 i, .int .i64 j, .bool b]] w fun e w' => e = .returned (.tuple #[.agg #[.int .i64 P, .int .i64 Q], .bool B]) ∧ w.grownBy w' none := by
  obtain ⟨fs, hfs⟩ := underP
  have kx := kx4
  obtain ⟨W1, hW1, sz1, g1, B1⟩ := boxn w #[.int .u8 4, .int .i64 x, .int .i64 y, .int .u8 t, .int .i64 z, .int .i64 (To.fi x), .int .i64 (To.fi y), .int .i64 x, .int .i64 y, .int .i64 u, .int .i64 v, .int .i64 i, .int .i64 j, .bool b] 200
  obtain ⟨W2, hW2, sz2, g2, B2⟩ := boxn W1 #[.int .i64 0, .int .i64 0] 135
  have G2 := gb_trans g1 g2
  have B1x := B1.kept g2 (by simp)
  have b1_2_0 := B1x.cell 0 (v := .int .u8 4) rfl
  have b1_2_1 := B1x.cell 1 (v := .int .i64 x) rfl
  have b1_2_2 := B1x.cell 2 (v := .int .i64 y) rfl
  have b1_2_3 := B1x.cell 3 (v := .int .u8 t) rfl
  have b1_2_4 := B1x.cell 4 (v := .int .i64 z) rfl
  have b1_2_5 := B1x.cell 5 (v := .int .i64 (To.fi x)) rfl
  have b1_2_6 := B1x.cell 6 (v := .int .i64 (To.fi y)) rfl
  have b1_2_7 := B1x.cell 7 (v := .int .i64 x) rfl
  have b1_2_8 := B1x.cell 8 (v := .int .i64 y) rfl
  have b1_2_9 := B1x.cell 9 (v := .int .i64 u) rfl
  have b1_2_10 := B1x.cell 10 (v := .int .i64 v) rfl
  have b1_2_11 := B1x.cell 11 (v := .int .i64 i) rfl
  have b1_2_12 := B1x.cell 12 (v := .int .i64 j) rfl
  have b1_2_13 := B1x.cell 13 (v := .bool b) rfl
  have b2_2_0 := B2.cell 0 (v := .int .i64 0) rfl
  have b2_2_1 := B2.cell 1 (v := .int .i64 0) rfl
  have zb2_2_0 := B2.frozen 0
  have zb2_2_1 := B2.frozen 1
  go_enter Tryz.func126, Tryz.ntmps126
  go_wp2
  have ap0 := Nat.ne_of_lt B1.lt
  have aq0 := Nat.ne_of_gt B1.lt
  go_region_held2 (fun w' => w'.cell? ⟨w.heap.size, 0, none⟩ = some (.int .u8 4) ∧ w'.cell? ⟨w.heap.size, 1, none⟩ = some (.int .i64 x) ∧ w'.cell? ⟨w.heap.size, 2, none⟩ = some (.int .i64 y) ∧ w'.cell? ⟨w.heap.size, 3, none⟩ = some (.int .u8 t) ∧ w'.cell? ⟨w.heap.size, 4, none⟩ = some (.int .i64 z) ∧ w'.cell? ⟨w.heap.size, 5, none⟩ = some (.int .i64 (To.fi x)) ∧ w'.cell? ⟨w.heap.size, 6, none⟩ = some (.int .i64 (To.fi y)) ∧ w'.cell? ⟨w.heap.size, 7, none⟩ = some (.int .i64 x) ∧ w'.cell? ⟨w.heap.size, 8, none⟩ = some (.int .i64 y) ∧ w'.cell? ⟨w.heap.size, 9, none⟩ = some (.int .i64 u) ∧ w'.cell? ⟨w.heap.size, 10, none⟩ = some (.int .i64 v) ∧ w'.cell? ⟨w.heap.size, 11, none⟩ = some (.int .i64 i) ∧ w'.cell? ⟨w.heap.size, 12, none⟩ = some (.int .i64 j) ∧ w'.cell? ⟨w.heap.size, 13, none⟩ = some (.bool b)) (go_keep) (first | (go_at_call 139; refine (kindsC _).mono ?_; rintro e w8 ⟨rfl, g8⟩; have S8 := B1x.dr.kept g8 (by simp); have R8 := B2.dr.kept g8 (by simp); have G8 := gb_trans (gb_drew G2) g8; have l0 := S8.cell 0 (v := .int .u8 4) rfl; have l1 := S8.cell 1 (v := .int .i64 x) rfl; have l2 := S8.cell 2 (v := .int .i64 y) rfl; have l3 := S8.cell 3 (v := .int .u8 t) rfl; have l4 := S8.cell 4 (v := .int .i64 z) rfl; have l5 := S8.cell 5 (v := .int .i64 (To.fi x)) rfl; have l6 := S8.cell 6 (v := .int .i64 (To.fi y)) rfl; have l7 := S8.cell 7 (v := .int .i64 x) rfl; have l8 := S8.cell 8 (v := .int .i64 y) rfl; have l9 := S8.cell 9 (v := .int .i64 u) rfl; have l10 := S8.cell 10 (v := .int .i64 v) rfl; have l11 := S8.cell 11 (v := .int .i64 i) rfl; have l12 := S8.cell 12 (v := .int .i64 j) rfl; have l13 := S8.cell 13 (v := .bool b) rfl) | (go_at_call 147; refine (hf _).mono ?_; rintro e w9 ⟨rfl, g9⟩; have R9 := R8.kept g9 (by simp); have G9 := gb_trans G8 g9; have S9 := S8.kept g9 (by simp); have m0 := S9.cell 0 (v := .int .u8 4) rfl; have m1 := S9.cell 1 (v := .int .i64 x) rfl; have m2 := S9.cell 2 (v := .int .i64 y) rfl; have m3 := S9.cell 3 (v := .int .u8 t) rfl; have m4 := S9.cell 4 (v := .int .i64 z) rfl; have m5 := S9.cell 5 (v := .int .i64 (To.fi x)) rfl; have m6 := S9.cell 6 (v := .int .i64 (To.fi y)) rfl; have m7 := S9.cell 7 (v := .int .i64 x) rfl; have m8 := S9.cell 8 (v := .int .i64 y) rfl; have m9 := S9.cell 9 (v := .int .i64 u) rfl; have m10 := S9.cell 10 (v := .int .i64 v) rfl; have m11 := S9.cell 11 (v := .int .i64 i) rfl; have m12 := S9.cell 12 (v := .int .i64 j) rfl; have m13 := S9.cell 13 (v := .bool b) rfl; have y0 := R9.cell 0 (v := .int .i64 0) rfl; have y1 := R9.cell 1 (v := .int .i64 0) rfl; have f0 := R9.frozen 0; have f1 := R9.frozen 1))
  all_goals go_wp2
  all_goals refine ret_c2 (g := W1.heap.size) (cs := #[.int .i64 P, .int .i64 Q]) rfl hfs infoP rfl (bo2 R9) rfl ⟨rfl, gb2 G9 g1.size⟩

set_option maxHeartbeats 2000000 in
theorem beyond5 (x y t z u v i j : Int) (b : Bool) (P Q : Int) (B : Bool) (hf : ∀ w, Calls Tryz.prog 148 #[.agg #[.int .u8 5, .int .i64 x, .int .i64 y, .int .u8 t, .int .i64 z, .int .i64 (To.fi x), .int .i64 (To.fi y), .int .i64 x, .int .i64 y, .int .i64 u, .int .i64 v, .int .i64 i, .int .i64 j, .bool b]] w fun e w' => e = .returned (.tuple #[.agg #[.int .i64 P, .int .i64 Q], .bool B]) ∧ w.grownBy w' none) (w : World) : Calls Tryz.prog 126 #[.agg #[.int .u8 5, .int .i64 x, .int .i64 y, .int .u8 t, .int .i64 z, .int .i64 (To.fi x), .int .i64 (To.fi y), .int .i64 x, .int .i64 y, .int .i64 u, .int .i64 v, .int .i64 i, .int .i64 j, .bool b]] w fun e w' => e = .returned (.tuple #[.agg #[.int .i64 P, .int .i64 Q], .bool B]) ∧ w.grownBy w' none := by
  obtain ⟨fs, hfs⟩ := underP
  have kx := kx5
  obtain ⟨W1, hW1, sz1, g1, B1⟩ := boxn w #[.int .u8 5, .int .i64 x, .int .i64 y, .int .u8 t, .int .i64 z, .int .i64 (To.fi x), .int .i64 (To.fi y), .int .i64 x, .int .i64 y, .int .i64 u, .int .i64 v, .int .i64 i, .int .i64 j, .bool b] 200
  obtain ⟨W2, hW2, sz2, g2, B2⟩ := boxn W1 #[.int .i64 0, .int .i64 0] 135
  have G2 := gb_trans g1 g2
  have B1x := B1.kept g2 (by simp)
  have b1_2_0 := B1x.cell 0 (v := .int .u8 5) rfl
  have b1_2_1 := B1x.cell 1 (v := .int .i64 x) rfl
  have b1_2_2 := B1x.cell 2 (v := .int .i64 y) rfl
  have b1_2_3 := B1x.cell 3 (v := .int .u8 t) rfl
  have b1_2_4 := B1x.cell 4 (v := .int .i64 z) rfl
  have b1_2_5 := B1x.cell 5 (v := .int .i64 (To.fi x)) rfl
  have b1_2_6 := B1x.cell 6 (v := .int .i64 (To.fi y)) rfl
  have b1_2_7 := B1x.cell 7 (v := .int .i64 x) rfl
  have b1_2_8 := B1x.cell 8 (v := .int .i64 y) rfl
  have b1_2_9 := B1x.cell 9 (v := .int .i64 u) rfl
  have b1_2_10 := B1x.cell 10 (v := .int .i64 v) rfl
  have b1_2_11 := B1x.cell 11 (v := .int .i64 i) rfl
  have b1_2_12 := B1x.cell 12 (v := .int .i64 j) rfl
  have b1_2_13 := B1x.cell 13 (v := .bool b) rfl
  have b2_2_0 := B2.cell 0 (v := .int .i64 0) rfl
  have b2_2_1 := B2.cell 1 (v := .int .i64 0) rfl
  have zb2_2_0 := B2.frozen 0
  have zb2_2_1 := B2.frozen 1
  go_enter Tryz.func126, Tryz.ntmps126
  go_wp2
  have ap0 := Nat.ne_of_lt B1.lt
  have aq0 := Nat.ne_of_gt B1.lt
  go_region_held2 (fun w' => w'.cell? ⟨w.heap.size, 0, none⟩ = some (.int .u8 5) ∧ w'.cell? ⟨w.heap.size, 1, none⟩ = some (.int .i64 x) ∧ w'.cell? ⟨w.heap.size, 2, none⟩ = some (.int .i64 y) ∧ w'.cell? ⟨w.heap.size, 3, none⟩ = some (.int .u8 t) ∧ w'.cell? ⟨w.heap.size, 4, none⟩ = some (.int .i64 z) ∧ w'.cell? ⟨w.heap.size, 5, none⟩ = some (.int .i64 (To.fi x)) ∧ w'.cell? ⟨w.heap.size, 6, none⟩ = some (.int .i64 (To.fi y)) ∧ w'.cell? ⟨w.heap.size, 7, none⟩ = some (.int .i64 x) ∧ w'.cell? ⟨w.heap.size, 8, none⟩ = some (.int .i64 y) ∧ w'.cell? ⟨w.heap.size, 9, none⟩ = some (.int .i64 u) ∧ w'.cell? ⟨w.heap.size, 10, none⟩ = some (.int .i64 v) ∧ w'.cell? ⟨w.heap.size, 11, none⟩ = some (.int .i64 i) ∧ w'.cell? ⟨w.heap.size, 12, none⟩ = some (.int .i64 j) ∧ w'.cell? ⟨w.heap.size, 13, none⟩ = some (.bool b)) (go_keep) (first | (go_at_call 139; refine (kindsC _).mono ?_; rintro e w8 ⟨rfl, g8⟩; have S8 := B1x.dr.kept g8 (by simp); have R8 := B2.dr.kept g8 (by simp); have G8 := gb_trans (gb_drew G2) g8; have l0 := S8.cell 0 (v := .int .u8 5) rfl; have l1 := S8.cell 1 (v := .int .i64 x) rfl; have l2 := S8.cell 2 (v := .int .i64 y) rfl; have l3 := S8.cell 3 (v := .int .u8 t) rfl; have l4 := S8.cell 4 (v := .int .i64 z) rfl; have l5 := S8.cell 5 (v := .int .i64 (To.fi x)) rfl; have l6 := S8.cell 6 (v := .int .i64 (To.fi y)) rfl; have l7 := S8.cell 7 (v := .int .i64 x) rfl; have l8 := S8.cell 8 (v := .int .i64 y) rfl; have l9 := S8.cell 9 (v := .int .i64 u) rfl; have l10 := S8.cell 10 (v := .int .i64 v) rfl; have l11 := S8.cell 11 (v := .int .i64 i) rfl; have l12 := S8.cell 12 (v := .int .i64 j) rfl; have l13 := S8.cell 13 (v := .bool b) rfl) | (go_at_call 148; refine (hf _).mono ?_; rintro e w9 ⟨rfl, g9⟩; have R9 := R8.kept g9 (by simp); have G9 := gb_trans G8 g9; have S9 := S8.kept g9 (by simp); have m0 := S9.cell 0 (v := .int .u8 5) rfl; have m1 := S9.cell 1 (v := .int .i64 x) rfl; have m2 := S9.cell 2 (v := .int .i64 y) rfl; have m3 := S9.cell 3 (v := .int .u8 t) rfl; have m4 := S9.cell 4 (v := .int .i64 z) rfl; have m5 := S9.cell 5 (v := .int .i64 (To.fi x)) rfl; have m6 := S9.cell 6 (v := .int .i64 (To.fi y)) rfl; have m7 := S9.cell 7 (v := .int .i64 x) rfl; have m8 := S9.cell 8 (v := .int .i64 y) rfl; have m9 := S9.cell 9 (v := .int .i64 u) rfl; have m10 := S9.cell 10 (v := .int .i64 v) rfl; have m11 := S9.cell 11 (v := .int .i64 i) rfl; have m12 := S9.cell 12 (v := .int .i64 j) rfl; have m13 := S9.cell 13 (v := .bool b) rfl; have y0 := R9.cell 0 (v := .int .i64 0) rfl; have y1 := R9.cell 1 (v := .int .i64 0) rfl; have f0 := R9.frozen 0; have f1 := R9.frozen 1))
  all_goals go_wp2
  all_goals refine ret_c2 (g := W1.heap.size) (cs := #[.int .i64 P, .int .i64 Q]) rfl hfs infoP rfl (bo2 R9) rfl ⟨rfl, gb2 G9 g1.size⟩
end Go.Proofs.YthjiiljglgmkpaaGreatDoor.Fd
