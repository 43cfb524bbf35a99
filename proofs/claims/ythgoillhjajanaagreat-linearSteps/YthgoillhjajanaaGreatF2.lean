/- What gridOf and look of package fold answer. -/
import Derived.Test.YthgoillhjajanaaGreatF1
import Derived.Test.YthgoillhjajanaaGreatT7
namespace Go.Proofs.YthgoillhjajanaaGreat.Fd
open Go.RowKit
set_option linter.unusedVariables false
set_option linter.unusedSimpArgs false
set_option maxRecDepth 100000

theorem underG : ∃ fs, Tryz.prog.underlying 129 = some (.struct fs) := by
  first | exact ⟨_, Tryz.underlying129⟩ | exact ⟨_, by kernel_rfl⟩
theorem infoG : (Tryz.prog.info? 129).map (·.size) = some 9 := by kernel_rfl
theorem underS : ∃ fs, Tryz.prog.underlying 131 = some (.struct fs) := by
  first | exact ⟨_, Tryz.underlying131⟩ | exact ⟨_, by kernel_rfl⟩
theorem infoS : (Tryz.prog.info? 131).map (·.size) = some 14 := by kernel_rfl
theorem bo9 {w : World} {g : Nat} {t : TypeId} {x0 x1 x2 x3 x4 x5 x6 x7 x8 u0 u1 u2 u3 u4 u5 u6 u7 u8 : Value} (h : Bo w g t #[x0, x1, x2, x3, x4, x5, x6, x7, x8]) : Bo (((((((((w.setCell ⟨g, 0, none⟩ u0).setCell ⟨g, 1, none⟩ u1).setCell ⟨g, 2, none⟩ u2).setCell ⟨g, 3, none⟩ u3).setCell ⟨g, 4, none⟩ u4).setCell ⟨g, 5, none⟩ u5).setCell ⟨g, 6, none⟩ u6).setCell ⟨g, 7, none⟩ u7).setCell ⟨g, 8, none⟩ u8) g t #[u0, u1, u2, u3, u4, u5, u6, u7, u8] := by
  simpa using (((((((((h.set 0 u0).set 1 u1).set 2 u2).set 3 u3).set 4 u4).set 5 u5).set 6 u6).set 7 u7).set 8 u8)
theorem gb9 {w w' : World} {g : Nat} {u0 u1 u2 u3 u4 u5 u6 u7 u8 : Value} (h : w.grownBy w' none) (hb : w.heap.size ≤ g) : w.grownBy (((((((((w'.setCell ⟨g, 0, none⟩ u0).setCell ⟨g, 1, none⟩ u1).setCell ⟨g, 2, none⟩ u2).setCell ⟨g, 3, none⟩ u3).setCell ⟨g, 4, none⟩ u4).setCell ⟨g, 5, none⟩ u5).setCell ⟨g, 6, none⟩ u6).setCell ⟨g, 7, none⟩ u7).setCell ⟨g, 8, none⟩ u8) none := (gb_new (gb_new (gb_new (gb_new (gb_new (gb_new (gb_new (gb_new (gb_new h hb _) hb _) hb _) hb _) hb _) hb _) hb _) hb _) hb _)
theorem bo14 {w : World} {g : Nat} {t : TypeId} {x0 x1 x2 x3 x4 x5 x6 x7 x8 x9 x10 x11 x12 x13 u0 u1 u2 u3 u4 u5 u6 u7 u8 u9 u10 u11 u12 u13 : Value} (h : Bo w g t #[x0, x1, x2, x3, x4, x5, x6, x7, x8, x9, x10, x11, x12, x13]) : Bo ((((((((((((((w.setCell ⟨g, 0, none⟩ u0).setCell ⟨g, 1, none⟩ u1).setCell ⟨g, 2, none⟩ u2).setCell ⟨g, 3, none⟩ u3).setCell ⟨g, 4, none⟩ u4).setCell ⟨g, 5, none⟩ u5).setCell ⟨g, 6, none⟩ u6).setCell ⟨g, 7, none⟩ u7).setCell ⟨g, 8, none⟩ u8).setCell ⟨g, 9, none⟩ u9).setCell ⟨g, 10, none⟩ u10).setCell ⟨g, 11, none⟩ u11).setCell ⟨g, 12, none⟩ u12).setCell ⟨g, 13, none⟩ u13) g t #[u0, u1, u2, u3, u4, u5, u6, u7, u8, u9, u10, u11, u12, u13] := by
  simpa using ((((((((((((((h.set 0 u0).set 1 u1).set 2 u2).set 3 u3).set 4 u4).set 5 u5).set 6 u6).set 7 u7).set 8 u8).set 9 u9).set 10 u10).set 11 u11).set 12 u12).set 13 u13)
theorem gb14 {w w' : World} {g : Nat} {u0 u1 u2 u3 u4 u5 u6 u7 u8 u9 u10 u11 u12 u13 : Value} (h : w.grownBy w' none) (hb : w.heap.size ≤ g) : w.grownBy ((((((((((((((w'.setCell ⟨g, 0, none⟩ u0).setCell ⟨g, 1, none⟩ u1).setCell ⟨g, 2, none⟩ u2).setCell ⟨g, 3, none⟩ u3).setCell ⟨g, 4, none⟩ u4).setCell ⟨g, 5, none⟩ u5).setCell ⟨g, 6, none⟩ u6).setCell ⟨g, 7, none⟩ u7).setCell ⟨g, 8, none⟩ u8).setCell ⟨g, 9, none⟩ u9).setCell ⟨g, 10, none⟩ u10).setCell ⟨g, 11, none⟩ u11).setCell ⟨g, 12, none⟩ u12).setCell ⟨g, 13, none⟩ u13) none := (gb_new (gb_new (gb_new (gb_new (gb_new (gb_new (gb_new (gb_new (gb_new (gb_new (gb_new (gb_new (gb_new (gb_new h hb _) hb _) hb _) hb _) hb _) hb _) hb _) hb _) hb _) hb _) hb _) hb _) hb _) hb _)

theorem homeE (k x y t z : Int) (ht : 0 ≤ t) (h : Tp.chk k x y t z = 0) (w : World) : Calls Tryz.prog 43 #[.agg #[.int .u8 k, .int .i64 x, .int .i64 y, .int .u8 t, .int .i64 z]] w fun e w' => e = .returned (.tuple #[.agg #[.int .i64 (To.fi x), .int .i64 (To.fi y), .int .i64 x, .int .i64 y], .int .i64 0]) ∧ w.grownBy w' none := by
  have := To.homeC k x y t z ht w
  unfold To.homeV at this
  rw [if_pos h, h] at this
  exact this
theorem homeX (k x y t z : Int) (ht : 0 ≤ t) (h : ¬ Tp.chk k x y t z = 0) (w : World) : Calls Tryz.prog 43 #[.agg #[.int .u8 k, .int .i64 x, .int .i64 y, .int .u8 t, .int .i64 z]] w fun e w' => e = .returned (.tuple #[.agg #[.int .i64 0, .int .i64 0, .int .i64 0, .int .i64 0], .int .i64 (Tp.chk k x y t z)]) ∧ w.grownBy w' none := by
  have := To.homeC k x y t z ht w
  unfold To.homeV at this
  rw [if_neg h] at this
  exact this

set_option maxHeartbeats 1000000 in
theorem gridNo (k x y t z : Int) (ht : 0 ≤ t) (h : ¬ Tp.chk k x y t z = 0) (w : World) : Calls Tryz.prog 98 #[.agg #[.int .u8 k, .int .i64 x, .int .i64 y, .int .u8 t, .int .i64 z]] w fun e w' => e = .returned (.tuple #[.agg #[.int .u8 0, .int .i64 0, .int .i64 0, .int .u8 0, .int .i64 0, .int .i64 0, .int .i64 0, .int .i64 0, .int .i64 0], .int .i64 9]) ∧ w.grownBy w' none := by
  obtain ⟨fs, hfs⟩ := underG
  have hh := homeX k x y t z ht h
  have hb : ((Tp.chk k x y t z) == 0) = false := beq_eq_false_iff_ne.2 h
  generalize Tp.chk k x y t z = er at *
  obtain ⟨W1, hW1, sz1, g1, B1⟩ := boxn w #[.int .u8 k, .int .i64 x, .int .i64 y, .int .u8 t, .int .i64 z] 27
  obtain ⟨W2, hW2, sz2, g2, B2⟩ := boxn W1 #[.int .u8 0, .int .i64 0, .int .i64 0, .int .u8 0, .int .i64 0, .int .i64 0, .int .i64 0, .int .i64 0, .int .i64 0] 129
  have G2 := gb_trans g1 g2
  have B1x := B1.kept g2 (by simp)
  have b1_2_0 := B1x.cell 0 (v := .int .u8 k) rfl
  have b1_2_1 := B1x.cell 1 (v := .int .i64 x) rfl
  have b1_2_2 := B1x.cell 2 (v := .int .i64 y) rfl
  have b1_2_3 := B1x.cell 3 (v := .int .u8 t) rfl
  have b1_2_4 := B1x.cell 4 (v := .int .i64 z) rfl
  have b2_2_0 := B2.cell 0 (v := .int .u8 0) rfl
  have b2_2_1 := B2.cell 1 (v := .int .i64 0) rfl
  have b2_2_2 := B2.cell 2 (v := .int .i64 0) rfl
  have b2_2_3 := B2.cell 3 (v := .int .u8 0) rfl
  have b2_2_4 := B2.cell 4 (v := .int .i64 0) rfl
  have b2_2_5 := B2.cell 5 (v := .int .i64 0) rfl
  have b2_2_6 := B2.cell 6 (v := .int .i64 0) rfl
  have b2_2_7 := B2.cell 7 (v := .int .i64 0) rfl
  have b2_2_8 := B2.cell 8 (v := .int .i64 0) rfl
  have zb2_2_0 := B2.frozen 0
  have zb2_2_1 := B2.frozen 1
  have zb2_2_2 := B2.frozen 2
  have zb2_2_3 := B2.frozen 3
  have zb2_2_4 := B2.frozen 4
  have zb2_2_5 := B2.frozen 5
  have zb2_2_6 := B2.frozen 6
  have zb2_2_7 := B2.frozen 7
  have zb2_2_8 := B2.frozen 8
  go_enter Tryz.func98, Tryz.ntmps98
  go_wp2_with (first | (go_at_call 43; (fail_if_success (guard_hyp g3)); refine (hh _).mono ?_; rintro e w3 ⟨rfl, g3⟩; have G3 := gb_trans G2 g3; have B1xx := B1x.kept g3 (by simp); have B2x := B2.kept g3 (by simp); obtain ⟨W4, hW4, sz4, g4, B4⟩ := boxn w3 #[.int .i64 0, .int .i64 0, .int .i64 0, .int .i64 0] 52; have G4 := gb_trans G3 g4; have B1xxx := B1xx.kept g4 (by simp); have B2xx := B2x.kept g4 (by simp); have sm4_0 := Bo.same B4 0 (v := .int .i64 0) rfl; have sm4_1 := Bo.same B4 1 (v := .int .i64 0) rfl; have sm4_2 := Bo.same B4 2 (v := .int .i64 0) rfl; have sm4_3 := Bo.same B4 3 (v := .int .i64 0) rfl; have fz4_0 := B4.frozen 0; have fz4_1 := B4.frozen 1; have fz4_2 := B4.frozen 2; have fz4_3 := B4.frozen 3; clear b1_2_0 b1_2_1 b1_2_2 b1_2_3 b1_2_4 b2_2_0 b2_2_1 b2_2_2 b2_2_3 b2_2_4 b2_2_5 b2_2_6 b2_2_7 b2_2_8 zb2_2_0 zb2_2_1 zb2_2_2 zb2_2_3 zb2_2_4 zb2_2_5 zb2_2_6 zb2_2_7 zb2_2_8; have b1_4_0 := B1xxx.cell 0 (v := .int .u8 k) rfl; have b1_4_1 := B1xxx.cell 1 (v := .int .i64 x) rfl; have b1_4_2 := B1xxx.cell 2 (v := .int .i64 y) rfl; have b1_4_3 := B1xxx.cell 3 (v := .int .u8 t) rfl; have b1_4_4 := B1xxx.cell 4 (v := .int .i64 z) rfl; have b2_4_0 := B2xx.cell 0 (v := .int .u8 0) rfl; have b2_4_1 := B2xx.cell 1 (v := .int .i64 0) rfl; have b2_4_2 := B2xx.cell 2 (v := .int .i64 0) rfl; have b2_4_3 := B2xx.cell 3 (v := .int .u8 0) rfl; have b2_4_4 := B2xx.cell 4 (v := .int .i64 0) rfl; have b2_4_5 := B2xx.cell 5 (v := .int .i64 0) rfl; have b2_4_6 := B2xx.cell 6 (v := .int .i64 0) rfl; have b2_4_7 := B2xx.cell 7 (v := .int .i64 0) rfl; have b2_4_8 := B2xx.cell 8 (v := .int .i64 0) rfl; have zb2_4_0 := B2xx.frozen 0; have zb2_4_1 := B2xx.frozen 1; have zb2_4_2 := B2xx.frozen 2; have zb2_4_3 := B2xx.frozen 3; have zb2_4_4 := B2xx.frozen 4; have zb2_4_5 := B2xx.frozen 5; have zb2_4_6 := B2xx.frozen 6; have zb2_4_7 := B2xx.frozen 7; have zb2_4_8 := B2xx.frozen 8; have b4_4_0 := B4.cell 0 (v := .int .i64 0) rfl; have b4_4_1 := B4.cell 1 (v := .int .i64 0) rfl; have b4_4_2 := B4.cell 2 (v := .int .i64 0) rfl; have b4_4_3 := B4.cell 3 (v := .int .i64 0) rfl))
  refine ret_c2 (g := W1.heap.size) (cs := #[.int .u8 0, .int .i64 0, .int .i64 0, .int .u8 0, .int .i64 0, .int .i64 0, .int .i64 0, .int .i64 0, .int .i64 0]) rfl hfs infoG rfl (bo9 B2xx) rfl ⟨rfl, gb9 G4 g1.size⟩

set_option maxHeartbeats 1000000 in
theorem gridYes (k x y t z : Int) (ht : 0 ≤ t) (h : Tp.chk k x y t z = 0) (w : World) : Calls Tryz.prog 98 #[.agg #[.int .u8 k, .int .i64 x, .int .i64 y, .int .u8 t, .int .i64 z]] w fun e w' => e = .returned (.tuple #[.agg #[.int .u8 k, .int .i64 x, .int .i64 y, .int .u8 t, .int .i64 z, .int .i64 (To.fi x), .int .i64 (To.fi y), .int .i64 x, .int .i64 y], .int .i64 0]) ∧ w.grownBy w' none := by
  obtain ⟨fs, hfs⟩ := underG
  have hh := homeE k x y t z ht h
  clear h
  obtain ⟨W1, hW1, sz1, g1, B1⟩ := boxn w #[.int .u8 k, .int .i64 x, .int .i64 y, .int .u8 t, .int .i64 z] 27
  obtain ⟨W2, hW2, sz2, g2, B2⟩ := boxn W1 #[.int .u8 0, .int .i64 0, .int .i64 0, .int .u8 0, .int .i64 0, .int .i64 0, .int .i64 0, .int .i64 0, .int .i64 0] 129
  have G2 := gb_trans g1 g2
  have B1x := B1.kept g2 (by simp)
  have b1_2_0 := B1x.cell 0 (v := .int .u8 k) rfl
  have b1_2_1 := B1x.cell 1 (v := .int .i64 x) rfl
  have b1_2_2 := B1x.cell 2 (v := .int .i64 y) rfl
  have b1_2_3 := B1x.cell 3 (v := .int .u8 t) rfl
  have b1_2_4 := B1x.cell 4 (v := .int .i64 z) rfl
  have b2_2_0 := B2.cell 0 (v := .int .u8 0) rfl
  have b2_2_1 := B2.cell 1 (v := .int .i64 0) rfl
  have b2_2_2 := B2.cell 2 (v := .int .i64 0) rfl
  have b2_2_3 := B2.cell 3 (v := .int .u8 0) rfl
  have b2_2_4 := B2.cell 4 (v := .int .i64 0) rfl
  have b2_2_5 := B2.cell 5 (v := .int .i64 0) rfl
  have b2_2_6 := B2.cell 6 (v := .int .i64 0) rfl
  have b2_2_7 := B2.cell 7 (v := .int .i64 0) rfl
  have b2_2_8 := B2.cell 8 (v := .int .i64 0) rfl
  have zb2_2_0 := B2.frozen 0
  have zb2_2_1 := B2.frozen 1
  have zb2_2_2 := B2.frozen 2
  have zb2_2_3 := B2.frozen 3
  have zb2_2_4 := B2.frozen 4
  have zb2_2_5 := B2.frozen 5
  have zb2_2_6 := B2.frozen 6
  have zb2_2_7 := B2.frozen 7
  have zb2_2_8 := B2.frozen 8
  go_enter Tryz.func98, Tryz.ntmps98
  go_wp2_with (first | (go_at_call 43; (fail_if_success (guard_hyp g3)); refine (hh _).mono ?_; rintro e w3 ⟨rfl, g3⟩; have G3 := gb_trans G2 g3; have B1xx := B1x.kept g3 (by simp); have B2x := B2.kept g3 (by simp); obtain ⟨W4, hW4, sz4, g4, B4⟩ := boxn w3 #[.int .i64 (To.fi x), .int .i64 (To.fi y), .int .i64 x, .int .i64 y] 52; have G4 := gb_trans G3 g4; have B1xxx := B1xx.kept g4 (by simp); have B2xx := B2x.kept g4 (by simp); clear b1_2_0 b1_2_1 b1_2_2 b1_2_3 b1_2_4 b2_2_0 b2_2_1 b2_2_2 b2_2_3 b2_2_4 b2_2_5 b2_2_6 b2_2_7 b2_2_8 zb2_2_0 zb2_2_1 zb2_2_2 zb2_2_3 zb2_2_4 zb2_2_5 zb2_2_6 zb2_2_7 zb2_2_8; have b1_4_0 := B1xxx.cell 0 (v := .int .u8 k) rfl; have b1_4_1 := B1xxx.cell 1 (v := .int .i64 x) rfl; have b1_4_2 := B1xxx.cell 2 (v := .int .i64 y) rfl; have b1_4_3 := B1xxx.cell 3 (v := .int .u8 t) rfl; have b1_4_4 := B1xxx.cell 4 (v := .int .i64 z) rfl; have b2_4_0 := B2xx.cell 0 (v := .int .u8 0) rfl; have b2_4_1 := B2xx.cell 1 (v := .int .i64 0) rfl; have b2_4_2 := B2xx.cell 2 (v := .int .i64 0) rfl; have b2_4_3 := B2xx.cell 3 (v := .int .u8 0) rfl; have b2_4_4 := B2xx.cell 4 (v := .int .i64 0) rfl; have b2_4_5 := B2xx.cell 5 (v := .int .i64 0) rfl; have b2_4_6 := B2xx.cell 6 (v := .int .i64 0) rfl; have b2_4_7 := B2xx.cell 7 (v := .int .i64 0) rfl; have b2_4_8 := B2xx.cell 8 (v := .int .i64 0) rfl; have zb2_4_0 := B2xx.frozen 0; have zb2_4_1 := B2xx.frozen 1; have zb2_4_2 := B2xx.frozen 2; have zb2_4_3 := B2xx.frozen 3; have zb2_4_4 := B2xx.frozen 4; have zb2_4_5 := B2xx.frozen 5; have zb2_4_6 := B2xx.frozen 6; have zb2_4_7 := B2xx.frozen 7; have zb2_4_8 := B2xx.frozen 8; have b4_4_0 := B4.cell 0 (v := .int .i64 (To.fi x)) rfl; have b4_4_1 := B4.cell 1 (v := .int .i64 (To.fi y)) rfl; have b4_4_2 := B4.cell 2 (v := .int .i64 x) rfl; have b4_4_3 := B4.cell 3 (v := .int .i64 y) rfl))
  refine ret_c2 (g := W1.heap.size) (cs := #[.int .u8 k, .int .i64 x, .int .i64 y, .int .u8 t, .int .i64 z, .int .i64 (To.fi x), .int .i64 (To.fi y), .int .i64 x, .int .i64 y]) rfl hfs infoG rfl (bo9 B2xx) rfl ⟨rfl, gb9 G4 g1.size⟩

set_option maxHeartbeats 1000000 in
theorem lookNo (k x y t z a b : Int) (ht : 0 ≤ t) (h : ¬ Tp.chk k x y t z = 0) (w : World) : Calls Tryz.prog 90 #[.agg #[.int .u8 k, .int .i64 x, .int .i64 y, .int .u8 t, .int .i64 z], .agg #[.int .i64 a, .int .i64 b]] w fun e w' => e = .returned (.tuple #[.agg #[.int .u8 0, .int .i64 0, .int .i64 0, .int .u8 0, .int .i64 0, .int .i64 0, .int .i64 0, .int .i64 0, .int .i64 0, .int .i64 0, .int .i64 0, .int .i64 0, .int .i64 0, .bool false], .int .i64 9]) ∧ w.grownBy w' none := by
  obtain ⟨fs, hfs⟩ := underS
  have hh := gridNo k x y t z ht h
  clear h
  obtain ⟨W1, hW1, sz1, g1, B1⟩ := boxn w #[.int .u8 k, .int .i64 x, .int .i64 y, .int .u8 t, .int .i64 z] 27
  obtain ⟨W2, hW2, sz2, g2, B2⟩ := boxn W1 #[.int .i64 a, .int .i64 b] 42
  have G2 := gb_trans g1 g2
  have B1x := B1.kept g2 (by simp)
  obtain ⟨W3, hW3, sz3, g3, B3⟩ := boxn W2 #[.int .u8 0, .int .i64 0, .int .i64 0, .int .u8 0, .int .i64 0, .int .i64 0, .int .i64 0, .int .i64 0, .int .i64 0, .int .i64 0, .int .i64 0, .int .i64 0, .int .i64 0, .bool false] 131
  have G3 := gb_trans G2 g3
  have B1xx := B1x.kept g3 (by simp)
  have B2x := B2.kept g3 (by simp)
  have b1_3_0 := B1xx.cell 0 (v := .int .u8 k) rfl
  have b1_3_1 := B1xx.cell 1 (v := .int .i64 x) rfl
  have b1_3_2 := B1xx.cell 2 (v := .int .i64 y) rfl
  have b1_3_3 := B1xx.cell 3 (v := .int .u8 t) rfl
  have b1_3_4 := B1xx.cell 4 (v := .int .i64 z) rfl
  have b2_3_0 := B2x.cell 0 (v := .int .i64 a) rfl
  have b2_3_1 := B2x.cell 1 (v := .int .i64 b) rfl
  have b3_3_0 := B3.cell 0 (v := .int .u8 0) rfl
  have b3_3_1 := B3.cell 1 (v := .int .i64 0) rfl
  have b3_3_2 := B3.cell 2 (v := .int .i64 0) rfl
  have b3_3_3 := B3.cell 3 (v := .int .u8 0) rfl
  have b3_3_4 := B3.cell 4 (v := .int .i64 0) rfl
  have b3_3_5 := B3.cell 5 (v := .int .i64 0) rfl
  have b3_3_6 := B3.cell 6 (v := .int .i64 0) rfl
  have b3_3_7 := B3.cell 7 (v := .int .i64 0) rfl
  have b3_3_8 := B3.cell 8 (v := .int .i64 0) rfl
  have b3_3_9 := B3.cell 9 (v := .int .i64 0) rfl
  have b3_3_10 := B3.cell 10 (v := .int .i64 0) rfl
  have b3_3_11 := B3.cell 11 (v := .int .i64 0) rfl
  have b3_3_12 := B3.cell 12 (v := .int .i64 0) rfl
  have b3_3_13 := B3.cell 13 (v := .bool false) rfl
  have zb3_3_0 := B3.frozen 0
  have zb3_3_1 := B3.frozen 1
  have zb3_3_2 := B3.frozen 2
  have zb3_3_3 := B3.frozen 3
  have zb3_3_4 := B3.frozen 4
  have zb3_3_5 := B3.frozen 5
  have zb3_3_6 := B3.frozen 6
  have zb3_3_7 := B3.frozen 7
  have zb3_3_8 := B3.frozen 8
  have zb3_3_9 := B3.frozen 9
  have zb3_3_10 := B3.frozen 10
  have zb3_3_11 := B3.frozen 11
  have zb3_3_12 := B3.frozen 12
  have zb3_3_13 := B3.frozen 13
  go_enter Tryz.func90, Tryz.ntmps90
  go_wp2_with (first | (go_at_call 98; (fail_if_success (guard_hyp g4)); refine (hh _).mono ?_; rintro e w4 ⟨rfl, g4⟩; have G4 := gb_trans G3 g4; have B1xxx := B1xx.kept g4 (by simp); have B2xx := B2x.kept g4 (by simp); have B3x := B3.kept g4 (by simp); obtain ⟨W5, hW5, sz5, g5, B5⟩ := boxn w4 #[.int .u8 0, .int .i64 0, .int .i64 0, .int .u8 0, .int .i64 0, .int .i64 0, .int .i64 0, .int .i64 0, .int .i64 0] 129; have G5 := gb_trans G4 g5; have B1xxxx := B1xxx.kept g5 (by simp); have B2xxx := B2xx.kept g5 (by simp); have B3xx := B3x.kept g5 (by simp); have sm5_0 := Bo.same B5 0 (v := .int .u8 0) rfl; have sm5_1 := Bo.same B5 1 (v := .int .i64 0) rfl; have sm5_2 := Bo.same B5 2 (v := .int .i64 0) rfl; have sm5_3 := Bo.same B5 3 (v := .int .u8 0) rfl; have sm5_4 := Bo.same B5 4 (v := .int .i64 0) rfl; have sm5_5 := Bo.same B5 5 (v := .int .i64 0) rfl; have sm5_6 := Bo.same B5 6 (v := .int .i64 0) rfl; have sm5_7 := Bo.same B5 7 (v := .int .i64 0) rfl; have sm5_8 := Bo.same B5 8 (v := .int .i64 0) rfl; have fz5_0 := B5.frozen 0; have fz5_1 := B5.frozen 1; have fz5_2 := B5.frozen 2; have fz5_3 := B5.frozen 3; have fz5_4 := B5.frozen 4; have fz5_5 := B5.frozen 5; have fz5_6 := B5.frozen 6; have fz5_7 := B5.frozen 7; have fz5_8 := B5.frozen 8; clear b1_3_0 b1_3_1 b1_3_2 b1_3_3 b1_3_4 b2_3_0 b2_3_1 b3_3_0 b3_3_1 b3_3_2 b3_3_3 b3_3_4 b3_3_5 b3_3_6 b3_3_7 b3_3_8 b3_3_9 b3_3_10 b3_3_11 b3_3_12 b3_3_13 zb3_3_0 zb3_3_1 zb3_3_2 zb3_3_3 zb3_3_4 zb3_3_5 zb3_3_6 zb3_3_7 zb3_3_8 zb3_3_9 zb3_3_10 zb3_3_11 zb3_3_12 zb3_3_13; have b1_5_0 := B1xxxx.cell 0 (v := .int .u8 k) rfl; have b1_5_1 := B1xxxx.cell 1 (v := .int .i64 x) rfl; have b1_5_2 := B1xxxx.cell 2 (v := .int .i64 y) rfl; have b1_5_3 := B1xxxx.cell 3 (v := .int .u8 t) rfl; have b1_5_4 := B1xxxx.cell 4 (v := .int .i64 z) rfl; have b2_5_0 := B2xxx.cell 0 (v := .int .i64 a) rfl; have b2_5_1 := B2xxx.cell 1 (v := .int .i64 b) rfl; have b3_5_0 := B3xx.cell 0 (v := .int .u8 0) rfl; have b3_5_1 := B3xx.cell 1 (v := .int .i64 0) rfl; have b3_5_2 := B3xx.cell 2 (v := .int .i64 0) rfl; have b3_5_3 := B3xx.cell 3 (v := .int .u8 0) rfl; have b3_5_4 := B3xx.cell 4 (v := .int .i64 0) rfl; have b3_5_5 := B3xx.cell 5 (v := .int .i64 0) rfl; have b3_5_6 := B3xx.cell 6 (v := .int .i64 0) rfl; have b3_5_7 := B3xx.cell 7 (v := .int .i64 0) rfl; have b3_5_8 := B3xx.cell 8 (v := .int .i64 0) rfl; have b3_5_9 := B3xx.cell 9 (v := .int .i64 0) rfl; have b3_5_10 := B3xx.cell 10 (v := .int .i64 0) rfl; have b3_5_11 := B3xx.cell 11 (v := .int .i64 0) rfl; have b3_5_12 := B3xx.cell 12 (v := .int .i64 0) rfl; have b3_5_13 := B3xx.cell 13 (v := .bool false) rfl; have zb3_5_0 := B3xx.frozen 0; have zb3_5_1 := B3xx.frozen 1; have zb3_5_2 := B3xx.frozen 2; have zb3_5_3 := B3xx.frozen 3; have zb3_5_4 := B3xx.frozen 4; have zb3_5_5 := B3xx.frozen 5; have zb3_5_6 := B3xx.frozen 6; have zb3_5_7 := B3xx.frozen 7; have zb3_5_8 := B3xx.frozen 8; have zb3_5_9 := B3xx.frozen 9; have zb3_5_10 := B3xx.frozen 10; have zb3_5_11 := B3xx.frozen 11; have zb3_5_12 := B3xx.frozen 12; have zb3_5_13 := B3xx.frozen 13; have b5_5_0 := B5.cell 0 (v := .int .u8 0) rfl; have b5_5_1 := B5.cell 1 (v := .int .i64 0) rfl; have b5_5_2 := B5.cell 2 (v := .int .i64 0) rfl; have b5_5_3 := B5.cell 3 (v := .int .u8 0) rfl; have b5_5_4 := B5.cell 4 (v := .int .i64 0) rfl; have b5_5_5 := B5.cell 5 (v := .int .i64 0) rfl; have b5_5_6 := B5.cell 6 (v := .int .i64 0) rfl; have b5_5_7 := B5.cell 7 (v := .int .i64 0) rfl; have b5_5_8 := B5.cell 8 (v := .int .i64 0) rfl))
  refine ret_c2 (g := W2.heap.size) (cs := #[.int .u8 0, .int .i64 0, .int .i64 0, .int .u8 0, .int .i64 0, .int .i64 0, .int .i64 0, .int .i64 0, .int .i64 0, .int .i64 0, .int .i64 0, .int .i64 0, .int .i64 0, .bool false]) rfl hfs infoS rfl (bo14 B3xx) rfl ⟨rfl, gb14 G5 G2.size⟩

set_option maxHeartbeats 1000000 in
theorem lookFar (k x y t z a b : Int) (ht : 0 ≤ t) (h : Tp.chk k x y t z = 0) (hf : (To.frB a || To.frB b) = true) (w : World) : Calls Tryz.prog 90 #[.agg #[.int .u8 k, .int .i64 x, .int .i64 y, .int .u8 t, .int .i64 z], .agg #[.int .i64 a, .int .i64 b]] w fun e w' => e = .returned (.tuple #[.agg #[.int .u8 0, .int .i64 0, .int .i64 0, .int .u8 0, .int .i64 0, .int .i64 0, .int .i64 0, .int .i64 0, .int .i64 0, .int .i64 0, .int .i64 0, .int .i64 0, .int .i64 0, .bool false], .int .i64 5]) ∧ w.grownBy w' none := by
  obtain ⟨fs, hfs⟩ := underS
  have hh := gridYes k x y t z ht h
  have hs := To.hasFar k x y t z a b ht h hf
  clear h hf
  obtain ⟨W1, hW1, sz1, g1, B1⟩ := boxn w #[.int .u8 k, .int .i64 x, .int .i64 y, .int .u8 t, .int .i64 z] 27
  obtain ⟨W2, hW2, sz2, g2, B2⟩ := boxn W1 #[.int .i64 a, .int .i64 b] 42
  have G2 := gb_trans g1 g2
  have B1x := B1.kept g2 (by simp)
  obtain ⟨W3, hW3, sz3, g3, B3⟩ := boxn W2 #[.int .u8 0, .int .i64 0, .int .i64 0, .int .u8 0, .int .i64 0, .int .i64 0, .int .i64 0, .int .i64 0, .int .i64 0, .int .i64 0, .int .i64 0, .int .i64 0, .int .i64 0, .bool false] 131
  have G3 := gb_trans G2 g3
  have B1xx := B1x.kept g3 (by simp)
  have B2x := B2.kept g3 (by simp)
  have b1_3_0 := B1xx.cell 0 (v := .int .u8 k) rfl
  have b1_3_1 := B1xx.cell 1 (v := .int .i64 x) rfl
  have b1_3_2 := B1xx.cell 2 (v := .int .i64 y) rfl
  have b1_3_3 := B1xx.cell 3 (v := .int .u8 t) rfl
  have b1_3_4 := B1xx.cell 4 (v := .int .i64 z) rfl
  have b2_3_0 := B2x.cell 0 (v := .int .i64 a) rfl
  have b2_3_1 := B2x.cell 1 (v := .int .i64 b) rfl
  have b3_3_0 := B3.cell 0 (v := .int .u8 0) rfl
  have b3_3_1 := B3.cell 1 (v := .int .i64 0) rfl
  have b3_3_2 := B3.cell 2 (v := .int .i64 0) rfl
  have b3_3_3 := B3.cell 3 (v := .int .u8 0) rfl
  have b3_3_4 := B3.cell 4 (v := .int .i64 0) rfl
  have b3_3_5 := B3.cell 5 (v := .int .i64 0) rfl
  have b3_3_6 := B3.cell 6 (v := .int .i64 0) rfl
  have b3_3_7 := B3.cell 7 (v := .int .i64 0) rfl
  have b3_3_8 := B3.cell 8 (v := .int .i64 0) rfl
  have b3_3_9 := B3.cell 9 (v := .int .i64 0) rfl
  have b3_3_10 := B3.cell 10 (v := .int .i64 0) rfl
  have b3_3_11 := B3.cell 11 (v := .int .i64 0) rfl
  have b3_3_12 := B3.cell 12 (v := .int .i64 0) rfl
  have b3_3_13 := B3.cell 13 (v := .bool false) rfl
  have zb3_3_0 := B3.frozen 0
  have zb3_3_1 := B3.frozen 1
  have zb3_3_2 := B3.frozen 2
  have zb3_3_3 := B3.frozen 3
  have zb3_3_4 := B3.frozen 4
  have zb3_3_5 := B3.frozen 5
  have zb3_3_6 := B3.frozen 6
  have zb3_3_7 := B3.frozen 7
  have zb3_3_8 := B3.frozen 8
  have zb3_3_9 := B3.frozen 9
  have zb3_3_10 := B3.frozen 10
  have zb3_3_11 := B3.frozen 11
  have zb3_3_12 := B3.frozen 12
  have zb3_3_13 := B3.frozen 13
  go_enter Tryz.func90, Tryz.ntmps90
  go_wp2_with (first | (go_at_call 98; (fail_if_success (guard_hyp g4)); refine (hh _).mono ?_; rintro e w4 ⟨rfl, g4⟩; have G4 := gb_trans G3 g4; have B1xxx := B1xx.kept g4 (by simp); have B2xx := B2x.kept g4 (by simp); have B3x := B3.kept g4 (by simp); obtain ⟨W5, hW5, sz5, g5, B5⟩ := boxn w4 #[.int .u8 k, .int .i64 x, .int .i64 y, .int .u8 t, .int .i64 z, .int .i64 (To.fi x), .int .i64 (To.fi y), .int .i64 x, .int .i64 y] 129; have G5 := gb_trans G4 g5; have B1xxxx := B1xxx.kept g5 (by simp); have B2xxx := B2xx.kept g5 (by simp); have B3xx := B3x.kept g5 (by simp); clear b1_3_0 b1_3_1 b1_3_2 b1_3_3 b1_3_4 b2_3_0 b2_3_1 b3_3_0 b3_3_1 b3_3_2 b3_3_3 b3_3_4 b3_3_5 b3_3_6 b3_3_7 b3_3_8 b3_3_9 b3_3_10 b3_3_11 b3_3_12 b3_3_13 zb3_3_0 zb3_3_1 zb3_3_2 zb3_3_3 zb3_3_4 zb3_3_5 zb3_3_6 zb3_3_7 zb3_3_8 zb3_3_9 zb3_3_10 zb3_3_11 zb3_3_12 zb3_3_13; have b1_5_0 := B1xxxx.cell 0 (v := .int .u8 k) rfl; have b1_5_1 := B1xxxx.cell 1 (v := .int .i64 x) rfl; have b1_5_2 := B1xxxx.cell 2 (v := .int .i64 y) rfl; have b1_5_3 := B1xxxx.cell 3 (v := .int .u8 t) rfl; have b1_5_4 := B1xxxx.cell 4 (v := .int .i64 z) rfl; have b2_5_0 := B2xxx.cell 0 (v := .int .i64 a) rfl; have b2_5_1 := B2xxx.cell 1 (v := .int .i64 b) rfl; have b3_5_0 := B3xx.cell 0 (v := .int .u8 0) rfl; have b3_5_1 := B3xx.cell 1 (v := .int .i64 0) rfl; have b3_5_2 := B3xx.cell 2 (v := .int .i64 0) rfl; have b3_5_3 := B3xx.cell 3 (v := .int .u8 0) rfl; have b3_5_4 := B3xx.cell 4 (v := .int .i64 0) rfl; have b3_5_5 := B3xx.cell 5 (v := .int .i64 0) rfl; have b3_5_6 := B3xx.cell 6 (v := .int .i64 0) rfl; have b3_5_7 := B3xx.cell 7 (v := .int .i64 0) rfl; have b3_5_8 := B3xx.cell 8 (v := .int .i64 0) rfl; have b3_5_9 := B3xx.cell 9 (v := .int .i64 0) rfl; have b3_5_10 := B3xx.cell 10 (v := .int .i64 0) rfl; have b3_5_11 := B3xx.cell 11 (v := .int .i64 0) rfl; have b3_5_12 := B3xx.cell 12 (v := .int .i64 0) rfl; have b3_5_13 := B3xx.cell 13 (v := .bool false) rfl; have zb3_5_0 := B3xx.frozen 0; have zb3_5_1 := B3xx.frozen 1; have zb3_5_2 := B3xx.frozen 2; have zb3_5_3 := B3xx.frozen 3; have zb3_5_4 := B3xx.frozen 4; have zb3_5_5 := B3xx.frozen 5; have zb3_5_6 := B3xx.frozen 6; have zb3_5_7 := B3xx.frozen 7; have zb3_5_8 := B3xx.frozen 8; have zb3_5_9 := B3xx.frozen 9; have zb3_5_10 := B3xx.frozen 10; have zb3_5_11 := B3xx.frozen 11; have zb3_5_12 := B3xx.frozen 12; have zb3_5_13 := B3xx.frozen 13; have b5_5_0 := B5.cell 0 (v := .int .u8 k) rfl; have b5_5_1 := B5.cell 1 (v := .int .i64 x) rfl; have b5_5_2 := B5.cell 2 (v := .int .i64 y) rfl; have b5_5_3 := B5.cell 3 (v := .int .u8 t) rfl; have b5_5_4 := B5.cell 4 (v := .int .i64 z) rfl; have b5_5_5 := B5.cell 5 (v := .int .i64 (To.fi x)) rfl; have b5_5_6 := B5.cell 6 (v := .int .i64 (To.fi y)) rfl; have b5_5_7 := B5.cell 7 (v := .int .i64 x) rfl; have b5_5_8 := B5.cell 8 (v := .int .i64 y) rfl) | (go_at_call 59; (fail_if_success (guard_hyp g6)); refine (hs _).mono ?_; rintro e w6 ⟨rfl, g6⟩; have G6 := gb_trans G5 g6; have B1xxxxx := B1xxxx.kept g6 (by simp); have B2xxxx := B2xxx.kept g6 (by simp); have B3xxx := B3xx.kept g6 (by simp); have B5x := B5.kept g6 (by simp); clear b1_5_0 b1_5_1 b1_5_2 b1_5_3 b1_5_4 b2_5_0 b2_5_1 b3_5_0 b3_5_1 b3_5_2 b3_5_3 b3_5_4 b3_5_5 b3_5_6 b3_5_7 b3_5_8 b3_5_9 b3_5_10 b3_5_11 b3_5_12 b3_5_13 zb3_5_0 zb3_5_1 zb3_5_2 zb3_5_3 zb3_5_4 zb3_5_5 zb3_5_6 zb3_5_7 zb3_5_8 zb3_5_9 zb3_5_10 zb3_5_11 zb3_5_12 zb3_5_13 b5_5_0 b5_5_1 b5_5_2 b5_5_3 b5_5_4 b5_5_5 b5_5_6 b5_5_7 b5_5_8; have b1_6_0 := B1xxxxx.cell 0 (v := .int .u8 k) rfl; have b1_6_1 := B1xxxxx.cell 1 (v := .int .i64 x) rfl; have b1_6_2 := B1xxxxx.cell 2 (v := .int .i64 y) rfl; have b1_6_3 := B1xxxxx.cell 3 (v := .int .u8 t) rfl; have b1_6_4 := B1xxxxx.cell 4 (v := .int .i64 z) rfl; have b2_6_0 := B2xxxx.cell 0 (v := .int .i64 a) rfl; have b2_6_1 := B2xxxx.cell 1 (v := .int .i64 b) rfl; have b3_6_0 := B3xxx.cell 0 (v := .int .u8 0) rfl; have b3_6_1 := B3xxx.cell 1 (v := .int .i64 0) rfl; have b3_6_2 := B3xxx.cell 2 (v := .int .i64 0) rfl; have b3_6_3 := B3xxx.cell 3 (v := .int .u8 0) rfl; have b3_6_4 := B3xxx.cell 4 (v := .int .i64 0) rfl; have b3_6_5 := B3xxx.cell 5 (v := .int .i64 0) rfl; have b3_6_6 := B3xxx.cell 6 (v := .int .i64 0) rfl; have b3_6_7 := B3xxx.cell 7 (v := .int .i64 0) rfl; have b3_6_8 := B3xxx.cell 8 (v := .int .i64 0) rfl; have b3_6_9 := B3xxx.cell 9 (v := .int .i64 0) rfl; have b3_6_10 := B3xxx.cell 10 (v := .int .i64 0) rfl; have b3_6_11 := B3xxx.cell 11 (v := .int .i64 0) rfl; have b3_6_12 := B3xxx.cell 12 (v := .int .i64 0) rfl; have b3_6_13 := B3xxx.cell 13 (v := .bool false) rfl; have zb3_6_0 := B3xxx.frozen 0; have zb3_6_1 := B3xxx.frozen 1; have zb3_6_2 := B3xxx.frozen 2; have zb3_6_3 := B3xxx.frozen 3; have zb3_6_4 := B3xxx.frozen 4; have zb3_6_5 := B3xxx.frozen 5; have zb3_6_6 := B3xxx.frozen 6; have zb3_6_7 := B3xxx.frozen 7; have zb3_6_8 := B3xxx.frozen 8; have zb3_6_9 := B3xxx.frozen 9; have zb3_6_10 := B3xxx.frozen 10; have zb3_6_11 := B3xxx.frozen 11; have zb3_6_12 := B3xxx.frozen 12; have zb3_6_13 := B3xxx.frozen 13; have b5_6_0 := B5x.cell 0 (v := .int .u8 k) rfl; have b5_6_1 := B5x.cell 1 (v := .int .i64 x) rfl; have b5_6_2 := B5x.cell 2 (v := .int .i64 y) rfl; have b5_6_3 := B5x.cell 3 (v := .int .u8 t) rfl; have b5_6_4 := B5x.cell 4 (v := .int .i64 z) rfl; have b5_6_5 := B5x.cell 5 (v := .int .i64 (To.fi x)) rfl; have b5_6_6 := B5x.cell 6 (v := .int .i64 (To.fi y)) rfl; have b5_6_7 := B5x.cell 7 (v := .int .i64 x) rfl; have b5_6_8 := B5x.cell 8 (v := .int .i64 y) rfl))
  refine ret_c2 (g := W2.heap.size) (cs := #[.int .u8 0, .int .i64 0, .int .i64 0, .int .u8 0, .int .i64 0, .int .i64 0, .int .i64 0, .int .i64 0, .int .i64 0, .int .i64 0, .int .i64 0, .int .i64 0, .int .i64 0, .bool false]) rfl hfs infoS rfl (bo14 B3xxx) rfl ⟨rfl, gb14 G6 G2.size⟩
end Go.Proofs.YthgoillhjajanaaGreat.Fd
