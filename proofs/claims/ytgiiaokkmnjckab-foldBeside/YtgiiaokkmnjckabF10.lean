/- How the edges of a grid are glued, as the program tells it. -/
import Derived.Test.YtgiiaokkmnjckabF2
namespace Go.Proofs.Ytgiiaokkmnjckab
open Go.RowKit
open Fl
set_option linter.unusedVariables false
set_option linter.unusedSimpArgs false
set_option maxRecDepth 100000

theorem underE : ∃ n el, Try.prog.underlying 76 = some (.array n el) := by
  first | exact ⟨_, _, Try.underlying76⟩ | exact ⟨_, _, by kernel_rfl⟩
theorem infoE : (Try.prog.info? 76).map (·.size) = some 8 := by kernel_rfl
theorem stN' (w : World) (a : Addr) (m : Mode) : (store a .nilFunc m).run Try.prog w = stored Try.prog w a .nilFunc m := run_store _ _ _ _ _ rfl
theorem stF' (w : World) (a : Addr) (f : Fn) (x y : Array Value) (m : Mode) : (store a (.func f x y) m).run Try.prog w = stored Try.prog w a (.func f x y) m := run_store _ _ _ _ _ rfl
theorem bo8 {w : World} {g : Nat} {t : TypeId} {x0 x1 x2 x3 x4 x5 x6 x7 u0 u1 u2 u3 u4 u5 u6 u7 : Value} (h : Bo w g t #[x0, x1, x2, x3, x4, x5, x6, x7]) : Bo ((((((((w.setCell ⟨g, 0, none⟩ u0).setCell ⟨g, 1, none⟩ u1).setCell ⟨g, 2, none⟩ u2).setCell ⟨g, 3, none⟩ u3).setCell ⟨g, 4, none⟩ u4).setCell ⟨g, 5, none⟩ u5).setCell ⟨g, 6, none⟩ u6).setCell ⟨g, 7, none⟩ u7) g t #[u0, u1, u2, u3, u4, u5, u6, u7] := by
  simpa using ((((((((h.set 0 u0).set 1 u1).set 2 u2).set 3 u3).set 4 u4).set 5 u5).set 6 u6).set 7 u7)
theorem gb8 {w w' : World} {g : Nat} {u0 u1 u2 u3 u4 u5 u6 u7 : Value} (h : w.grownBy w' none) (hb : w.heap.size ≤ g) : w.grownBy ((((((((w'.setCell ⟨g, 0, none⟩ u0).setCell ⟨g, 1, none⟩ u1).setCell ⟨g, 2, none⟩ u2).setCell ⟨g, 3, none⟩ u3).setCell ⟨g, 4, none⟩ u4).setCell ⟨g, 5, none⟩ u5).setCell ⟨g, 6, none⟩ u6).setCell ⟨g, 7, none⟩ u7) none := (gb_new (gb_new (gb_new (gb_new (gb_new (gb_new (gb_new (gb_new h hb _) hb _) hb _) hb _) hb _) hb _) hb _) hb _)


theorem openC (k x y t z : Int) (w : World) : Calls Try.prog 53 #[.agg #[.int .u8 k, .int .i64 x, .int .i64 y, .int .u8 t, .int .i64 z, .int .i64 (To.fi x), .int .i64 (To.fi y), .int .i64 x, .int .i64 y]] w fun e w' => e = .returned (.agg #[.bool false, .int .i64 0, .int .i64 0, .int .i64 0, .bool false, .int .i64 0, .int .i64 0, .int .i64 0]) ∧ w.grownBy w' none := by
  obtain ⟨n, el, hu⟩ := underE
  obtain ⟨W1, hW1, sz1, g1, B1⟩ := boxn w #[.int .u8 k, .int .i64 x, .int .i64 y, .int .u8 t, .int .i64 z, .int .i64 (To.fi x), .int .i64 (To.fi y), .int .i64 x, .int .i64 y] 63
  obtain ⟨W2, hW2, sz2, g2, B2⟩ := boxn W1 #[.bool false, .int .i64 0, .int .i64 0, .int .i64 0, .bool false, .int .i64 0, .int .i64 0, .int .i64 0] 76
  have G2 := gb_trans g1 g2
  have B1x := B1.kept g2 (by simp)
  have b1_2_0 := B1x.cell 0 (v := .int .u8 k) rfl
  have b1_2_1 := B1x.cell 1 (v := .int .i64 x) rfl
  have b1_2_2 := B1x.cell 2 (v := .int .i64 y) rfl
  have b1_2_3 := B1x.cell 3 (v := .int .u8 t) rfl
  have b1_2_4 := B1x.cell 4 (v := .int .i64 z) rfl
  have b1_2_5 := B1x.cell 5 (v := .int .i64 (To.fi x)) rfl
  have b1_2_6 := B1x.cell 6 (v := .int .i64 (To.fi y)) rfl
  have b1_2_7 := B1x.cell 7 (v := .int .i64 x) rfl
  have b1_2_8 := B1x.cell 8 (v := .int .i64 y) rfl
  have b2_2_0 := B2.cell 0 (v := .bool false) rfl
  have b2_2_1 := B2.cell 1 (v := .int .i64 0) rfl
  have b2_2_2 := B2.cell 2 (v := .int .i64 0) rfl
  have b2_2_3 := B2.cell 3 (v := .int .i64 0) rfl
  have b2_2_4 := B2.cell 4 (v := .bool false) rfl
  have b2_2_5 := B2.cell 5 (v := .int .i64 0) rfl
  have b2_2_6 := B2.cell 6 (v := .int .i64 0) rfl
  have b2_2_7 := B2.cell 7 (v := .int .i64 0) rfl
  have zb2_2_0 := B2.frozen 0
  have zb2_2_1 := B2.frozen 1
  have zb2_2_2 := B2.frozen 2
  have zb2_2_3 := B2.frozen 3
  have zb2_2_4 := B2.frozen 4
  have zb2_2_5 := B2.frozen 5
  have zb2_2_6 := B2.frozen 6
  have zb2_2_7 := B2.frozen 7
  go_enter Try.func53, Try.ntmps53
  go_wp2
  refine ret_a1 (g := W1.heap.size) (cs := #[.bool false, .int .i64 0, .int .i64 0, .int .i64 0, .bool false, .int .i64 0, .int .i64 0, .int .i64 0]) rfl hu infoE rfl (bo8 B2) rfl ⟨rfl, gb8 G2 g1.size⟩

theorem crossC (k x y t z : Int) (hx : 0 ≤ x) (hx2 : x ≤ 65536) (hy : 0 ≤ y) (hy2 : y ≤ 65536) (w : World) : Calls Try.prog 56 #[.agg #[.int .u8 k, .int .i64 x, .int .i64 y, .int .u8 t, .int .i64 z, .int .i64 (To.fi x), .int .i64 (To.fi y), .int .i64 x, .int .i64 y]] w fun e w' => e = .returned (.agg #[.bool true, .int .i64 4, .int .i64 x, .int .i64 (y - 1), .bool true, .int .i64 6, .int .i64 (x - 1), .int .i64 y]) ∧ w.grownBy w' none := by
  obtain ⟨n, el, hu⟩ := underE
  obtain ⟨W1, hW1, sz1, g1, B1⟩ := boxn w #[.int .u8 k, .int .i64 x, .int .i64 y, .int .u8 t, .int .i64 z, .int .i64 (To.fi x), .int .i64 (To.fi y), .int .i64 x, .int .i64 y] 63
  obtain ⟨W2, hW2, sz2, g2, B2⟩ := boxn W1 #[.bool false, .int .i64 0, .int .i64 0, .int .i64 0, .bool false, .int .i64 0, .int .i64 0, .int .i64 0] 76
  have G2 := gb_trans g1 g2
  have B1x := B1.kept g2 (by simp)
  have b1_2_0 := B1x.cell 0 (v := .int .u8 k) rfl
  have b1_2_1 := B1x.cell 1 (v := .int .i64 x) rfl
  have b1_2_2 := B1x.cell 2 (v := .int .i64 y) rfl
  have b1_2_3 := B1x.cell 3 (v := .int .u8 t) rfl
  have b1_2_4 := B1x.cell 4 (v := .int .i64 z) rfl
  have b1_2_5 := B1x.cell 5 (v := .int .i64 (To.fi x)) rfl
  have b1_2_6 := B1x.cell 6 (v := .int .i64 (To.fi y)) rfl
  have b1_2_7 := B1x.cell 7 (v := .int .i64 x) rfl
  have b1_2_8 := B1x.cell 8 (v := .int .i64 y) rfl
  have b2_2_0 := B2.cell 0 (v := .bool false) rfl
  have b2_2_1 := B2.cell 1 (v := .int .i64 0) rfl
  have b2_2_2 := B2.cell 2 (v := .int .i64 0) rfl
  have b2_2_3 := B2.cell 3 (v := .int .i64 0) rfl
  have b2_2_4 := B2.cell 4 (v := .bool false) rfl
  have b2_2_5 := B2.cell 5 (v := .int .i64 0) rfl
  have b2_2_6 := B2.cell 6 (v := .int .i64 0) rfl
  have b2_2_7 := B2.cell 7 (v := .int .i64 0) rfl
  have zb2_2_0 := B2.frozen 0
  have zb2_2_1 := B2.frozen 1
  have zb2_2_2 := B2.frozen 2
  have zb2_2_3 := B2.frozen 3
  have zb2_2_4 := B2.frozen 4
  have zb2_2_5 := B2.frozen 5
  have zb2_2_6 := B2.frozen 6
  have zb2_2_7 := B2.frozen 7
  go_enter Try.func56, Try.ntmps56
  go_wp2
  refine ret_a1 (g := W1.heap.size) (cs := #[.bool true, .int .i64 4, .int .i64 x, .int .i64 (y - 1), .bool true, .int .i64 6, .int .i64 (x - 1), .int .i64 y]) rfl hu infoE rfl (bo8 B2) rfl ⟨rfl, gb8 G2 g1.size⟩

theorem klein1C (k x y z : Int) (hx : 0 ≤ x) (hx2 : x ≤ 65536) (hy : 0 ≤ y) (hy2 : y ≤ 65536) (hz : -65536 ≤ z) (hz2 : z ≤ 65536) (w : World) : Calls Try.prog 55 #[.agg #[.int .u8 k, .int .i64 x, .int .i64 y, .int .u8 1, .int .i64 z, .int .i64 (To.fi x), .int .i64 (To.fi y), .int .i64 x, .int .i64 y]] w fun e w' => e = .returned (.agg #[.bool true, .int .i64 0, .int .i64 x, .int .i64 0, .bool true, .int .i64 6, .int .i64 (x - 1 + z), .int .i64 y]) ∧ w.grownBy w' none := by
  obtain ⟨n, el, hu⟩ := underE
  obtain ⟨W1, hW1, sz1, g1, B1⟩ := boxn w #[.int .u8 k, .int .i64 x, .int .i64 y, .int .u8 1, .int .i64 z, .int .i64 (To.fi x), .int .i64 (To.fi y), .int .i64 x, .int .i64 y] 63
  obtain ⟨W2, hW2, sz2, g2, B2⟩ := boxn W1 #[.bool false, .int .i64 0, .int .i64 0, .int .i64 0, .bool false, .int .i64 0, .int .i64 0, .int .i64 0] 76
  have G2 := gb_trans g1 g2
  have B1x := B1.kept g2 (by simp)
  have b1_2_0 := B1x.cell 0 (v := .int .u8 k) rfl
  have b1_2_1 := B1x.cell 1 (v := .int .i64 x) rfl
  have b1_2_2 := B1x.cell 2 (v := .int .i64 y) rfl
  have b1_2_3 := B1x.cell 3 (v := .int .u8 1) rfl
  have b1_2_4 := B1x.cell 4 (v := .int .i64 z) rfl
  have b1_2_5 := B1x.cell 5 (v := .int .i64 (To.fi x)) rfl
  have b1_2_6 := B1x.cell 6 (v := .int .i64 (To.fi y)) rfl
  have b1_2_7 := B1x.cell 7 (v := .int .i64 x) rfl
  have b1_2_8 := B1x.cell 8 (v := .int .i64 y) rfl
  have b2_2_0 := B2.cell 0 (v := .bool false) rfl
  have b2_2_1 := B2.cell 1 (v := .int .i64 0) rfl
  have b2_2_2 := B2.cell 2 (v := .int .i64 0) rfl
  have b2_2_3 := B2.cell 3 (v := .int .i64 0) rfl
  have b2_2_4 := B2.cell 4 (v := .bool false) rfl
  have b2_2_5 := B2.cell 5 (v := .int .i64 0) rfl
  have b2_2_6 := B2.cell 6 (v := .int .i64 0) rfl
  have b2_2_7 := B2.cell 7 (v := .int .i64 0) rfl
  have zb2_2_0 := B2.frozen 0
  have zb2_2_1 := B2.frozen 1
  have zb2_2_2 := B2.frozen 2
  have zb2_2_3 := B2.frozen 3
  have zb2_2_4 := B2.frozen 4
  have zb2_2_5 := B2.frozen 5
  have zb2_2_6 := B2.frozen 6
  have zb2_2_7 := B2.frozen 7
  go_enter Try.func55, Try.ntmps55
  go_wp2
  refine ret_a1 (g := W1.heap.size) (cs := #[.bool true, .int .i64 0, .int .i64 x, .int .i64 0, .bool true, .int .i64 6, .int .i64 (x - 1 + z), .int .i64 y]) rfl hu infoE rfl (bo8 B2) rfl ⟨rfl, gb8 G2 g1.size⟩

theorem klein2C (k x y z : Int) (hx : 0 ≤ x) (hx2 : x ≤ 65536) (hy : 0 ≤ y) (hy2 : y ≤ 65536) (hz : -65536 ≤ z) (hz2 : z ≤ 65536) (w : World) : Calls Try.prog 55 #[.agg #[.int .u8 k, .int .i64 x, .int .i64 y, .int .u8 2, .int .i64 z, .int .i64 (To.fi x), .int .i64 (To.fi y), .int .i64 x, .int .i64 y]] w fun e w' => e = .returned (.agg #[.bool true, .int .i64 4, .int .i64 x, .int .i64 (y - 1 + z), .bool true, .int .i64 0, .int .i64 0, .int .i64 y]) ∧ w.grownBy w' none := by
  obtain ⟨n, el, hu⟩ := underE
  obtain ⟨W1, hW1, sz1, g1, B1⟩ := boxn w #[.int .u8 k, .int .i64 x, .int .i64 y, .int .u8 2, .int .i64 z, .int .i64 (To.fi x), .int .i64 (To.fi y), .int .i64 x, .int .i64 y] 63
  obtain ⟨W2, hW2, sz2, g2, B2⟩ := boxn W1 #[.bool false, .int .i64 0, .int .i64 0, .int .i64 0, .bool false, .int .i64 0, .int .i64 0, .int .i64 0] 76
  have G2 := gb_trans g1 g2
  have B1x := B1.kept g2 (by simp)
  have b1_2_0 := B1x.cell 0 (v := .int .u8 k) rfl
  have b1_2_1 := B1x.cell 1 (v := .int .i64 x) rfl
  have b1_2_2 := B1x.cell 2 (v := .int .i64 y) rfl
  have b1_2_3 := B1x.cell 3 (v := .int .u8 2) rfl
  have b1_2_4 := B1x.cell 4 (v := .int .i64 z) rfl
  have b1_2_5 := B1x.cell 5 (v := .int .i64 (To.fi x)) rfl
  have b1_2_6 := B1x.cell 6 (v := .int .i64 (To.fi y)) rfl
  have b1_2_7 := B1x.cell 7 (v := .int .i64 x) rfl
  have b1_2_8 := B1x.cell 8 (v := .int .i64 y) rfl
  have b2_2_0 := B2.cell 0 (v := .bool false) rfl
  have b2_2_1 := B2.cell 1 (v := .int .i64 0) rfl
  have b2_2_2 := B2.cell 2 (v := .int .i64 0) rfl
  have b2_2_3 := B2.cell 3 (v := .int .i64 0) rfl
  have b2_2_4 := B2.cell 4 (v := .bool false) rfl
  have b2_2_5 := B2.cell 5 (v := .int .i64 0) rfl
  have b2_2_6 := B2.cell 6 (v := .int .i64 0) rfl
  have b2_2_7 := B2.cell 7 (v := .int .i64 0) rfl
  have zb2_2_0 := B2.frozen 0
  have zb2_2_1 := B2.frozen 1
  have zb2_2_2 := B2.frozen 2
  have zb2_2_3 := B2.frozen 3
  have zb2_2_4 := B2.frozen 4
  have zb2_2_5 := B2.frozen 5
  have zb2_2_6 := B2.frozen 6
  have zb2_2_7 := B2.frozen 7
  go_enter Try.func55, Try.ntmps55
  go_wp2
  refine ret_a1 (g := W1.heap.size) (cs := #[.bool true, .int .i64 4, .int .i64 x, .int .i64 (y - 1 + z), .bool true, .int .i64 0, .int .i64 0, .int .i64 y]) rfl hu infoE rfl (bo8 B2) rfl ⟨rfl, gb8 G2 g1.size⟩
end Go.Proofs.Ytgiiaokkmnjckab
