/- What look of package fold answers, of a place that is not far. -/
import Derived.Test.YthgoillhjajanaaGreatF2
namespace Go.Proofs.YthgoillhjajanaaGreat.Fd
open Go.RowKit
set_option linter.unusedVariables false
set_option linter.unusedSimpArgs false
set_option maxRecDepth 100000

set_option maxHeartbeats 2000000 in
theorem lookYes (k x y t z a b : Int) (ht : 0 ≤ t) (h : Tp.chk k x y t z = 0) (h1 : To.frB a = false) (h2 : To.frB b = false) (u v : Int) (hu : Hid (a - To.fi x = u)) (hv : Hid (b - To.fi y = v)) (w : World) : Calls Tryz.prog 90 #[.agg #[.int .u8 k, .int .i64 x, .int .i64 y, .int .u8 t, .int .i64 z], .agg #[.int .i64 a, .int .i64 b]] w fun e w' => e = .returned (.tuple #[.agg #[.int .u8 k, .int .i64 x, .int .i64 y, .int .u8 t, .int .i64 z, .int .i64 (To.fi x), .int .i64 (To.fi y), .int .i64 x, .int .i64 y, .int .i64 u, .int .i64 v, .int .i64 (Nm.divZ u x), .int .i64 (Nm.divZ v y), .bool (To.liB a x && To.liB b y)], .int .i64 0]) ∧ w.grownBy w' none := by
  obtain ⟨fs, hfs⟩ := underS
  have ok := Tp.ok_of h
  have hx := ok.wide
  have hy := ok.high
  have hh := gridYes k x y t z ht h
  have hs := To.hasYes k x y t z a b ht h h1 h2 hx hy
  have bx : -32768 ≤ To.fi x ∧ To.fi x ≤ 0 := by unfold To.fi; omega
  have by' : -32768 ≤ To.fi y ∧ To.fi y ≤ 0 := by unfold To.fi; omega
  have ba : -1099511627776 ≤ a ∧ a ≤ 1099511627776 := by unfold To.frB at h1; simp at h1; omega
  have bb : -1099511627776 ≤ b ∧ b ≤ 1099511627776 := by unfold To.frB at h2; simp at h2; omega
  have hwu : IntKind.i64.wrap (a - To.fi x) = u := by have := hu.out; rw [IntKind.wrap_i64]; omega
  have hwv : IntKind.i64.wrap (b - To.fi y) = v := by have := hv.out; rw [IntKind.wrap_i64]; omega
  have hd1 := tileOfC u x (by have := hu.out; omega) (by have := hu.out; omega) (by omega) (by omega)
  have hd2 := tileOfC v y (by have := hv.out; omega) (by have := hv.out; omega) (by omega) (by omega)
  generalize (To.liB a x && To.liB b y) = ins at *
  clear h ok hx hy h1 h2 bx by' ba bb
  obtain ⟨W1, hW1, sz1, g1, B1⟩ := boxn w #[.int .u8 k, .int .i64 x, .int .i64 y, .int .u8 t, .int .i64 z] 27
  obtain ⟨W2, hW2, sz2, g2, B2⟩ := boxn W1 #[.int .i64 a, .int .i64 b] 42
  have G2 := gb_trans g1 g2
  have B1x := B1.kept g2 (by simp)
  obtain ⟨W3, hW3, sz3, g3, B3⟩ := boxn W2 #[.int .u8 0, .int .i64 0, .int .i64 0, .int .u8 0, .int .i64 0, .int .i64 0, .int .i64 0, .int .i64 0, .int .i64 0, .int .i64 0, .int .i64 0, .int .i64 0, .int .i64 0, .bool false] 131
  have G3 := gb_trans G2 g3
  have B1xx := B1x.kept g3 (by simp)
  have B2x := B2.kept g3 (by simp)
  have b1_3_0 := B1xx.cell 0 (v := .int .u8 k) rfl
  have b1_3_1 := B1xx.cell 1 (v := .int .i64 x) rfl
  have b1_3_2 := B1xx.cell 2 (v := .int .i64 y) rfl
  have b1_3_3 := B1xx.cell 3 (v := .int .u8 t) rfl
  have b1_3_4 := B1xx.cell 4 (v := .int .i64 z) rfl
  have b2_3_0 := B2x.cell 0 (v := .int .i64 a) rfl
  have b2_3_1 := B2x.cell 1 (v := .int .i64 b) rfl
  have b3_3_0 := B3.cell 0 (v := .int .u8 0) rfl
  have b3_3_1 := B3.cell 1 (v := .int .i64 0) rfl
  have b3_3_2 := B3.cell 2 (v := .int .i64 0) rfl
  have b3_3_3 := B3.cell 3 (v := .int .u8 0) rfl
  have b3_3_4 := B3.cell 4 (v := .int .i64 0) rfl
  have b3_3_5 := B3.cell 5 (v := .int .i64 0) rfl
  have b3_3_6 := B3.cell 6 (v := .int .i64 0) rfl
  have b3_3_7 := B3.cell 7 (v := .int .i64 0) rfl
  have b3_3_8 := B3.cell 8 (v := .int .i64 0) rfl
  have b3_3_9 := B3.cell 9 (v := .int .i64 0) rfl
  have b3_3_10 := B3.cell 10 (v := .int .i64 0) rfl
  have b3_3_11 := B3.cell 11 (v := .int .i64 0) rfl
  have b3_3_12 := B3.cell 12 (v := .int .i64 0) rfl
  have b3_3_13 := B3.cell 13 (v := .bool false) rfl
  have zb3_3_0 := B3.frozen 0
  have zb3_3_1 := B3.frozen 1
  have zb3_3_2 := B3.frozen 2
  have zb3_3_3 := B3.frozen 3
  have zb3_3_4 := B3.frozen 4
  have zb3_3_5 := B3.frozen 5
  have zb3_3_6 := B3.frozen 6
  have zb3_3_7 := B3.frozen 7
  have zb3_3_8 := B3.frozen 8
  have zb3_3_9 := B3.frozen 9
  have zb3_3_10 := B3.frozen 10
  have zb3_3_11 := B3.frozen 11
  have zb3_3_12 := B3.frozen 12
  have zb3_3_13 := B3.frozen 13
  go_enter Tryz.func90, Tryz.ntmps90
  go_wp2_with (first | (go_at_call 98; (fail_if_success (guard_hyp g4)); refine (hh _).mono ?_; rintro e w4 ⟨rfl, g4⟩; have G4 := gb_trans G3 g4; have B1xxx := B1xx.kept g4 (by simp); have B2xx := B2x.kept g4 (by simp); have B3x := B3.kept g4 (by simp); obtain ⟨W5, hW5, sz5, g5, B5⟩ := boxn w4 #[.int .u8 k, .int .i64 x, .int .i64 y, .int .u8 t, .int .i64 z, .int .i64 (To.fi x), .int .i64 (To.fi y), .int .i64 x, .int .i64 y] 129; have G5 := gb_trans G4 g5; have B1xxxx := B1xxx.kept g5 (by simp); have B2xxx := B2xx.kept g5 (by simp); have B3xx := B3x.kept g5 (by simp); clear b1_3_0 b1_3_1 b1_3_2 b1_3_3 b1_3_4 b2_3_0 b2_3_1 b3_3_0 b3_3_1 b3_3_2 b3_3_3 b3_3_4 b3_3_5 b3_3_6 b3_3_7 b3_3_8 b3_3_9 b3_3_10 b3_3_11 b3_3_12 b3_3_13 zb3_3_0 zb3_3_1 zb3_3_2 zb3_3_3 zb3_3_4 zb3_3_5 zb3_3_6 zb3_3_7 zb3_3_8 zb3_3_9 zb3_3_10 zb3_3_11 zb3_3_12 zb3_3_13; have b1_5_0 := B1xxxx.cell 0 (v := .int .u8 k) rfl; have b1_5_1 := B1xxxx.cell 1 (v := .int .i64 x) rfl; have b1_5_2 := B1xxxx.cell 2 (v := .int .i64 y) rfl; have b1_5_3 := B1xxxx.cell 3 (v := .int .u8 t) rfl; have b1_5_4 := B1xxxx.cell 4 (v := .int .i64 z) rfl; have b2_5_0 := B2xxx.cell 0 (v := .int .i64 a) rfl; have b2_5_1 := B2xxx.cell 1 (v := .int .i64 b) rfl; have b3_5_0 := B3xx.cell 0 (v := .int .u8 0) rfl; have b3_5_1 := B3xx.cell 1 (v := .int .i64 0) rfl; have b3_5_2 := B3xx.cell 2 (v := .int .i64 0) rfl; have b3_5_3 := B3xx.cell 3 (v := .int .u8 0) rfl; have b3_5_4 := B3xx.cell 4 (v := .int .i64 0) rfl; have b3_5_5 := B3xx.cell 5 (v := .int .i64 0) rfl; have b3_5_6 := B3xx.cell 6 (v := .int .i64 0) rfl; have b3_5_7 := B3xx.cell 7 (v := .int .i64 0) rfl; have b3_5_8 := B3xx.cell 8 (v := .int .i64 0) rfl; have b3_5_9 := B3xx.cell 9 (v := .int .i64 0) rfl; have b3_5_10 := B3xx.cell 10 (v := .int .i64 0) rfl; have b3_5_11 := B3xx.cell 11 (v := .int .i64 0) rfl; have b3_5_12 := B3xx.cell 12 (v := .int .i64 0) rfl; have b3_5_13 := B3xx.cell 13 (v := .bool false) rfl; have zb3_5_0 := B3xx.frozen 0; have zb3_5_1 := B3xx.frozen 1; have zb3_5_2 := B3xx.frozen 2; have zb3_5_3 := B3xx.frozen 3; have zb3_5_4 := B3xx.frozen 4; have zb3_5_5 := B3xx.frozen 5; have zb3_5_6 := B3xx.frozen 6; have zb3_5_7 := B3xx.frozen 7; have zb3_5_8 := B3xx.frozen 8; have zb3_5_9 := B3xx.frozen 9; have zb3_5_10 := B3xx.frozen 10; have zb3_5_11 := B3xx.frozen 11; have zb3_5_12 := B3xx.frozen 12; have zb3_5_13 := B3xx.frozen 13; have b5_5_0 := B5.cell 0 (v := .int .u8 k) rfl; have b5_5_1 := B5.cell 1 (v := .int .i64 x) rfl; have b5_5_2 := B5.cell 2 (v := .int .i64 y) rfl; have b5_5_3 := B5.cell 3 (v := .int .u8 t) rfl; have b5_5_4 := B5.cell 4 (v := .int .i64 z) rfl; have b5_5_5 := B5.cell 5 (v := .int .i64 (To.fi x)) rfl; have b5_5_6 := B5.cell 6 (v := .int .i64 (To.fi y)) rfl; have b5_5_7 := B5.cell 7 (v := .int .i64 x) rfl; have b5_5_8 := B5.cell 8 (v := .int .i64 y) rfl) | (go_at_call 59; (fail_if_success (guard_hyp g6)); refine (hs _).mono ?_; rintro e w6 ⟨rfl, g6⟩; have G6 := gb_trans G5 g6; have B1xxxxx := B1xxxx.kept g6 (by simp); have B2xxxx := B2xxx.kept g6 (by simp); have B3xxx := B3xx.kept g6 (by simp); have B5x := B5.kept g6 (by simp); clear b1_5_0 b1_5_1 b1_5_2 b1_5_3 b1_5_4 b2_5_0 b2_5_1 b3_5_0 b3_5_1 b3_5_2 b3_5_3 b3_5_4 b3_5_5 b3_5_6 b3_5_7 b3_5_8 b3_5_9 b3_5_10 b3_5_11 b3_5_12 b3_5_13 zb3_5_0 zb3_5_1 zb3_5_2 zb3_5_3 zb3_5_4 zb3_5_5 zb3_5_6 zb3_5_7 zb3_5_8 zb3_5_9 zb3_5_10 zb3_5_11 zb3_5_12 zb3_5_13 b5_5_0 b5_5_1 b5_5_2 b5_5_3 b5_5_4 b5_5_5 b5_5_6 b5_5_7 b5_5_8; have b1_6_0 := B1xxxxx.cell 0 (v := .int .u8 k) rfl; have b1_6_1 := B1xxxxx.cell 1 (v := .int .i64 x) rfl; have b1_6_2 := B1xxxxx.cell 2 (v := .int .i64 y) rfl; have b1_6_3 := B1xxxxx.cell 3 (v := .int .u8 t) rfl; have b1_6_4 := B1xxxxx.cell 4 (v := .int .i64 z) rfl; have b2_6_0 := B2xxxx.cell 0 (v := .int .i64 a) rfl; have b2_6_1 := B2xxxx.cell 1 (v := .int .i64 b) rfl; have b3_6_0 := B3xxx.cell 0 (v := .int .u8 0) rfl; have b3_6_1 := B3xxx.cell 1 (v := .int .i64 0) rfl; have b3_6_2 := B3xxx.cell 2 (v := .int .i64 0) rfl; have b3_6_3 := B3xxx.cell 3 (v := .int .u8 0) rfl; have b3_6_4 := B3xxx.cell 4 (v := .int .i64 0) rfl; have b3_6_5 := B3xxx.cell 5 (v := .int .i64 0) rfl; have b3_6_6 := B3xxx.cell 6 (v := .int .i64 0) rfl; have b3_6_7 := B3xxx.cell 7 (v := .int .i64 0) rfl; have b3_6_8 := B3xxx.cell 8 (v := .int .i64 0) rfl; have b3_6_9 := B3xxx.cell 9 (v := .int .i64 0) rfl; have b3_6_10 := B3xxx.cell 10 (v := .int .i64 0) rfl; have b3_6_11 := B3xxx.cell 11 (v := .int .i64 0) rfl; have b3_6_12 := B3xxx.cell 12 (v := .int .i64 0) rfl; have b3_6_13 := B3xxx.cell 13 (v := .bool false) rfl; have zb3_6_0 := B3xxx.frozen 0; have zb3_6_1 := B3xxx.frozen 1; have zb3_6_2 := B3xxx.frozen 2; have zb3_6_3 := B3xxx.frozen 3; have zb3_6_4 := B3xxx.frozen 4; have zb3_6_5 := B3xxx.frozen 5; have zb3_6_6 := B3xxx.frozen 6; have zb3_6_7 := B3xxx.frozen 7; have zb3_6_8 := B3xxx.frozen 8; have zb3_6_9 := B3xxx.frozen 9; have zb3_6_10 := B3xxx.frozen 10; have zb3_6_11 := B3xxx.frozen 11; have zb3_6_12 := B3xxx.frozen 12; have zb3_6_13 := B3xxx.frozen 13; have b5_6_0 := B5x.cell 0 (v := .int .u8 k) rfl; have b5_6_1 := B5x.cell 1 (v := .int .i64 x) rfl; have b5_6_2 := B5x.cell 2 (v := .int .i64 y) rfl; have b5_6_3 := B5x.cell 3 (v := .int .u8 t) rfl; have b5_6_4 := B5x.cell 4 (v := .int .i64 z) rfl; have b5_6_5 := B5x.cell 5 (v := .int .i64 (To.fi x)) rfl; have b5_6_6 := B5x.cell 6 (v := .int .i64 (To.fi y)) rfl; have b5_6_7 := B5x.cell 7 (v := .int .i64 x) rfl; have b5_6_8 := B5x.cell 8 (v := .int .i64 y) rfl; obtain ⟨W7, hW7, sz7, g7, B7⟩ := boxn w6 #[.int .i64 u, .int .i64 v] 42; have G7 := gb_trans G6 g7; have B1xxxxxx := B1xxxxx.kept g7 (by simp); have B2xxxxx := B2xxxx.kept g7 (by simp); have B3xxxx := B3xxx.kept g7 (by simp); have B5xx := B5x.kept g7 (by simp); have b1_7_0 := B1xxxxxx.cell 0 (v := .int .u8 k) rfl; have b1_7_1 := B1xxxxxx.cell 1 (v := .int .i64 x) rfl; have b1_7_2 := B1xxxxxx.cell 2 (v := .int .i64 y) rfl; have b1_7_3 := B1xxxxxx.cell 3 (v := .int .u8 t) rfl; have b1_7_4 := B1xxxxxx.cell 4 (v := .int .i64 z) rfl; have b2_7_0 := B2xxxxx.cell 0 (v := .int .i64 a) rfl; have b2_7_1 := B2xxxxx.cell 1 (v := .int .i64 b) rfl; have b3_7_0 := B3xxxx.cell 0 (v := .int .u8 0) rfl; have b3_7_1 := B3xxxx.cell 1 (v := .int .i64 0) rfl; have b3_7_2 := B3xxxx.cell 2 (v := .int .i64 0) rfl; have b3_7_3 := B3xxxx.cell 3 (v := .int .u8 0) rfl; have b3_7_4 := B3xxxx.cell 4 (v := .int .i64 0) rfl; have b3_7_5 := B3xxxx.cell 5 (v := .int .i64 0) rfl; have b3_7_6 := B3xxxx.cell 6 (v := .int .i64 0) rfl; have b3_7_7 := B3xxxx.cell 7 (v := .int .i64 0) rfl; have b3_7_8 := B3xxxx.cell 8 (v := .int .i64 0) rfl; have b3_7_9 := B3xxxx.cell 9 (v := .int .i64 0) rfl; have b3_7_10 := B3xxxx.cell 10 (v := .int .i64 0) rfl; have b3_7_11 := B3xxxx.cell 11 (v := .int .i64 0) rfl; have b3_7_12 := B3xxxx.cell 12 (v := .int .i64 0) rfl; have b3_7_13 := B3xxxx.cell 13 (v := .bool false) rfl; have zb3_7_0 := B3xxxx.frozen 0; have zb3_7_1 := B3xxxx.frozen 1; have zb3_7_2 := B3xxxx.frozen 2; have zb3_7_3 := B3xxxx.frozen 3; have zb3_7_4 := B3xxxx.frozen 4; have zb3_7_5 := B3xxxx.frozen 5; have zb3_7_6 := B3xxxx.frozen 6; have zb3_7_7 := B3xxxx.frozen 7; have zb3_7_8 := B3xxxx.frozen 8; have zb3_7_9 := B3xxxx.frozen 9; have zb3_7_10 := B3xxxx.frozen 10; have zb3_7_11 := B3xxxx.frozen 11; have zb3_7_12 := B3xxxx.frozen 12; have zb3_7_13 := B3xxxx.frozen 13; have b5_7_0 := B5xx.cell 0 (v := .int .u8 k) rfl; have b5_7_1 := B5xx.cell 1 (v := .int .i64 x) rfl; have b5_7_2 := B5xx.cell 2 (v := .int .i64 y) rfl; have b5_7_3 := B5xx.cell 3 (v := .int .u8 t) rfl; have b5_7_4 := B5xx.cell 4 (v := .int .i64 z) rfl; have b5_7_5 := B5xx.cell 5 (v := .int .i64 (To.fi x)) rfl; have b5_7_6 := B5xx.cell 6 (v := .int .i64 (To.fi y)) rfl; have b5_7_7 := B5xx.cell 7 (v := .int .i64 x) rfl; have b5_7_8 := B5xx.cell 8 (v := .int .i64 y) rfl; have b7_7_0 := B7.cell 0 (v := .int .i64 u) rfl; have b7_7_1 := B7.cell 1 (v := .int .i64 v) rfl))
  have ap0 := Nat.ne_of_lt B1x.lt
  have aq0 := Nat.ne_of_gt B1x.lt
  have ap1 := Nat.ne_of_lt B2.lt
  have aq1 := Nat.ne_of_gt B2.lt
  have ap3 := Nat.ne_of_lt B3x.lt
  have aq3 := Nat.ne_of_gt B3x.lt
  have ap4 := Nat.ne_of_lt B3xxx.lt
  have aq4 := Nat.ne_of_gt B3xxx.lt
  go_region_held2 (fun w' => w'.cell? ⟨w.heap.size, 0, none⟩ = some (.int .u8 k) ∧ w'.cell? ⟨w.heap.size, 1, none⟩ = some (.int .i64 x) ∧ w'.cell? ⟨w.heap.size, 2, none⟩ = some (.int .i64 y) ∧ w'.cell? ⟨w.heap.size, 3, none⟩ = some (.int .u8 t) ∧ w'.cell? ⟨w.heap.size, 4, none⟩ = some (.int .i64 z) ∧ w'.cell? ⟨W1.heap.size, 0, none⟩ = some (.int .i64 a) ∧ w'.cell? ⟨W1.heap.size, 1, none⟩ = some (.int .i64 b) ∧ w'.cell? ⟨w4.heap.size, 0, none⟩ = some (.int .u8 k) ∧ w'.cell? ⟨w4.heap.size, 1, none⟩ = some (.int .i64 x) ∧ w'.cell? ⟨w4.heap.size, 2, none⟩ = some (.int .i64 y) ∧ w'.cell? ⟨w4.heap.size, 3, none⟩ = some (.int .u8 t) ∧ w'.cell? ⟨w4.heap.size, 4, none⟩ = some (.int .i64 z) ∧ w'.cell? ⟨w4.heap.size, 5, none⟩ = some (.int .i64 (To.fi x)) ∧ w'.cell? ⟨w4.heap.size, 6, none⟩ = some (.int .i64 (To.fi y)) ∧ w'.cell? ⟨w4.heap.size, 7, none⟩ = some (.int .i64 x) ∧ w'.cell? ⟨w4.heap.size, 8, none⟩ = some (.int .i64 y) ∧ w'.cell? ⟨w6.heap.size, 0, none⟩ = some (.int .i64 u) ∧ w'.cell? ⟨w6.heap.size, 1, none⟩ = some (.int .i64 v)) (go_keep) (first | (go_at_call 99; (fail_if_success (guard_hyp mk1)); refine (hd1 _).mono ?_; rintro e w' ⟨rfl, hw'⟩; subst w'; have mk1 : True := trivial) | (go_at_call 99; refine (hd2 _).mono ?_; rintro e w' ⟨rfl, hw'⟩; subst w'))
  all_goals go_wp2
  all_goals refine ret_c2 (g := W2.heap.size) (cs := #[.int .u8 k, .int .i64 x, .int .i64 y, .int .u8 t, .int .i64 z, .int .i64 (To.fi x), .int .i64 (To.fi y), .int .i64 x, .int .i64 y, .int .i64 u, .int .i64 v, .int .i64 (Nm.divZ u x), .int .i64 (Nm.divZ v y), .bool ins]) rfl hfs infoS rfl (bo14 B3xxxx).dr rfl ⟨rfl, gb_drew (gb14 G7 G2.size)⟩
end Go.Proofs.YthgoillhjajanaaGreat.Fd
