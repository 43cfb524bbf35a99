/- What a place is, as a grid sees it: is it lost, is it near; the kinds of topology; its cell. -/
import Derived.Test.YthgoillhjajanaaGreatF2
namespace Go.Proofs.YthgoillhjajanaaGreat.Fd
open Go.RowKit
set_option linter.unusedVariables false
set_option linter.unusedSimpArgs false
set_option maxRecDepth 100000

theorem ret_pb {c d : Array Value} {p q : Bool} (h : c = d) (hp : p = q) : Ending.returned (.tuple #[.agg c, .bool p]) = .returned (.tuple #[.agg d, .bool q]) := by rw [h, hp]
/-- Such a place is no cell. -/
def loB (k : Int) (b : Bool) : Bool := !b && ((k == 1) || (k == 5))

theorem isLostC (k x y t z u v i j : Int) (b : Bool) (w : World) : Calls Tryz.prog 100 #[.agg #[.int .u8 k, .int .i64 x, .int .i64 y, .int .u8 t, .int .i64 z, .int .i64 (To.fi x), .int .i64 (To.fi y), .int .i64 x, .int .i64 y, .int .i64 u, .int .i64 v, .int .i64 i, .int .i64 j, .bool b]] w fun e w' => e = .returned (.bool (loB k b)) ∧ w.grownBy w' none := by
  obtain ⟨W1, hW1, sz1, g1, B1⟩ := boxn w #[.int .u8 k, .int .i64 x, .int .i64 y, .int .u8 t, .int .i64 z, .int .i64 (To.fi x), .int .i64 (To.fi y), .int .i64 x, .int .i64 y, .int .i64 u, .int .i64 v, .int .i64 i, .int .i64 j, .bool b] 131
  have b1_1_0 := B1.cell 0 (v := .int .u8 k) rfl
  have b1_1_1 := B1.cell 1 (v := .int .i64 x) rfl
  have b1_1_2 := B1.cell 2 (v := .int .i64 y) rfl
  have b1_1_3 := B1.cell 3 (v := .int .u8 t) rfl
  have b1_1_4 := B1.cell 4 (v := .int .i64 z) rfl
  have b1_1_5 := B1.cell 5 (v := .int .i64 (To.fi x)) rfl
  have b1_1_6 := B1.cell 6 (v := .int .i64 (To.fi y)) rfl
  have b1_1_7 := B1.cell 7 (v := .int .i64 x) rfl
  have b1_1_8 := B1.cell 8 (v := .int .i64 y) rfl
  have b1_1_9 := B1.cell 9 (v := .int .i64 u) rfl
  have b1_1_10 := B1.cell 10 (v := .int .i64 v) rfl
  have b1_1_11 := B1.cell 11 (v := .int .i64 i) rfl
  have b1_1_12 := B1.cell 12 (v := .int .i64 j) rfl
  have b1_1_13 := B1.cell 13 (v := .bool b) rfl
  cases b <;> cases h1 : (k == 1) <;> cases h2 : (k == 5)
  all_goals
    go_enter Tryz.func100, Tryz.ntmps100
    go_wp2
    all_goals go_ret
    all_goals refine ⟨retB ?_, g1⟩
    all_goals simp [loB, h1, h2]

theorem placeC (k x y t z p q P Q : Int) (hP : IntKind.i64.wrap (p + To.fi x) = P) (hQ : IntKind.i64.wrap (q + To.fi y) = Q) (w : World) : Calls Tryz.prog 101 #[.agg #[.int .u8 k, .int .i64 x, .int .i64 y, .int .u8 t, .int .i64 z, .int .i64 (To.fi x), .int .i64 (To.fi y), .int .i64 x, .int .i64 y], .int .i64 p, .int .i64 q] w fun e w' => e = .returned (.agg #[.int .i64 P, .int .i64 Q]) ∧ w.grownBy w' none := by
  obtain ⟨fs, hfs⟩ := underP
  obtain ⟨W1, hW1, sz1, g1, B1⟩ := boxn w #[.int .u8 k, .int .i64 x, .int .i64 y, .int .u8 t, .int .i64 z, .int .i64 (To.fi x), .int .i64 (To.fi y), .int .i64 x, .int .i64 y] 129
  obtain ⟨W2, hW2, sz2, g2, B2⟩ := boxn W1 #[.int .i64 0, .int .i64 0] 42
  have G2 := gb_trans g1 g2
  have B1x := B1.kept g2 (by simp)
  have b1_2_0 := B1x.cell 0 (v := .int .u8 k) rfl
  have b1_2_1 := B1x.cell 1 (v := .int .i64 x) rfl
  have b1_2_2 := B1x.cell 2 (v := .int .i64 y) rfl
  have b1_2_3 := B1x.cell 3 (v := .int .u8 t) rfl
  have b1_2_4 := B1x.cell 4 (v := .int .i64 z) rfl
  have b1_2_5 := B1x.cell 5 (v := .int .i64 (To.fi x)) rfl
  have b1_2_6 := B1x.cell 6 (v := .int .i64 (To.fi y)) rfl
  have b1_2_7 := B1x.cell 7 (v := .int .i64 x) rfl
  have b1_2_8 := B1x.cell 8 (v := .int .i64 y) rfl
  have b2_2_0 := B2.cell 0 (v := .int .i64 0) rfl
  have b2_2_1 := B2.cell 1 (v := .int .i64 0) rfl
  have zb2_2_0 := B2.frozen 0
  have zb2_2_1 := B2.frozen 1
  go_enter Tryz.func101, Tryz.ntmps101
  go_wp2
  refine ret_c1 (g := W1.heap.size) (cs := #[.int .i64 P, .int .i64 Q]) rfl hfs infoP rfl (bo2 B2) rfl ⟨rfl, gb2 G2 g1.size⟩

set_option maxHeartbeats 1000000 in
theorem foldedC (k x y t z u v i j : Int) (b : Bool) (p q : Int) (h1 : -9223372036854775808 ≤ p) (h2 : p ≤ 9223372036854775807) (h3 : -9223372036854775808 ≤ q) (h4 : q ≤ 9223372036854775807) (hx : 0 ≤ x ∧ x ≤ 65536) (hy : 0 ≤ y ∧ y ≤ 65536) (P Q : Int) (hP : IntKind.i64.wrap (Fo.wi p x + To.fi x) = P) (hQ : IntKind.i64.wrap (Fo.wi q y + To.fi y) = Q) (w : World) : Calls Tryz.prog 111 #[.agg #[.int .u8 k, .int .i64 x, .int .i64 y, .int .u8 t, .int .i64 z, .int .i64 (To.fi x), .int .i64 (To.fi y), .int .i64 x, .int .i64 y, .int .i64 u, .int .i64 v, .int .i64 i, .int .i64 j, .bool b], .int .i64 p, .int .i64 q] w fun e w' => e = .returned (.agg #[.int .i64 P, .int .i64 Q]) ∧ w.grownBy w' none := by
  obtain ⟨fs, hfs⟩ := underP
  have hw1 := withinC p x h1 h2 (by omega) (by omega)
  have hw2 := withinC q y h3 h4 (by omega) (by omega)
  have hp := placeC k x y t z _ _ P Q hP hQ
  clear h1 h2 h3 h4 hx hy hP hQ
  obtain ⟨W1, hW1, sz1, g1, B1⟩ := boxn w #[.int .u8 k, .int .i64 x, .int .i64 y, .int .u8 t, .int .i64 z, .int .i64 (To.fi x), .int .i64 (To.fi y), .int .i64 x, .int .i64 y, .int .i64 u, .int .i64 v, .int .i64 i, .int .i64 j, .bool b] 131
  obtain ⟨W2, hW2, sz2, g2, B2⟩ := boxn W1 #[.int .i64 0, .int .i64 0] 42
  have G2 := gb_trans g1 g2
  have B1x := B1.kept g2 (by simp)
  have b1_2_0 := B1x.cell 0 (v := .int .u8 k) rfl
  have b1_2_1 := B1x.cell 1 (v := .int .i64 x) rfl
  have b1_2_2 := B1x.cell 2 (v := .int .i64 y) rfl
  have b1_2_3 := B1x.cell 3 (v := .int .u8 t) rfl
  have b1_2_4 := B1x.cell 4 (v := .int .i64 z) rfl
  have b1_2_5 := B1x.cell 5 (v := .int .i64 (To.fi x)) rfl
  have b1_2_6 := B1x.cell 6 (v := .int .i64 (To.fi y)) rfl
  have b1_2_7 := B1x.cell 7 (v := .int .i64 x) rfl
  have b1_2_8 := B1x.cell 8 (v := .int .i64 y) rfl
  have b1_2_9 := B1x.cell 9 (v := .int .i64 u) rfl
  have b1_2_10 := B1x.cell 10 (v := .int .i64 v) rfl
  have b1_2_11 := B1x.cell 11 (v := .int .i64 i) rfl
  have b1_2_12 := B1x.cell 12 (v := .int .i64 j) rfl
  have b1_2_13 := B1x.cell 13 (v := .bool b) rfl
  have b2_2_0 := B2.cell 0 (v := .int .i64 0) rfl
  have b2_2_1 := B2.cell 1 (v := .int .i64 0) rfl
  have zb2_2_0 := B2.frozen 0
  have zb2_2_1 := B2.frozen 1
  go_enter Tryz.func111, Tryz.ntmps111
  go_wp2
  have ap0 := Nat.ne_of_lt B1.lt
  have aq0 := Nat.ne_of_gt B1.lt
  go_region_held2 (fun w' => w'.cell? ⟨w.heap.size, 0, none⟩ = some (.int .u8 k) ∧ w'.cell? ⟨w.heap.size, 1, none⟩ = some (.int .i64 x) ∧ w'.cell? ⟨w.heap.size, 2, none⟩ = some (.int .i64 y) ∧ w'.cell? ⟨w.heap.size, 3, none⟩ = some (.int .u8 t) ∧ w'.cell? ⟨w.heap.size, 4, none⟩ = some (.int .i64 z) ∧ w'.cell? ⟨w.heap.size, 5, none⟩ = some (.int .i64 (To.fi x)) ∧ w'.cell? ⟨w.heap.size, 6, none⟩ = some (.int .i64 (To.fi y)) ∧ w'.cell? ⟨w.heap.size, 7, none⟩ = some (.int .i64 x) ∧ w'.cell? ⟨w.heap.size, 8, none⟩ = some (.int .i64 y) ∧ w'.cell? ⟨w.heap.size, 9, none⟩ = some (.int .i64 u) ∧ w'.cell? ⟨w.heap.size, 10, none⟩ = some (.int .i64 v) ∧ w'.cell? ⟨w.heap.size, 11, none⟩ = some (.int .i64 i) ∧ w'.cell? ⟨w.heap.size, 12, none⟩ = some (.int .i64 j) ∧ w'.cell? ⟨w.heap.size, 13, none⟩ = some (.bool b)) (go_keep) (first | (go_at_call 114; (fail_if_success (guard_hyp mk1)); refine (hw1 _).mono ?_; rintro e w' ⟨rfl, hw'⟩; subst w'; have mk1 : True := trivial) | (go_at_call 114; refine (hw2 _).mono ?_; rintro e w' ⟨rfl, hw'⟩; subst w') | (go_at_call 101; refine (hp _).mono ?_; rintro e w9 ⟨rfl, g9⟩; have R9 := B2.dr.kept g9 (by simp); have G9 := gb_trans (gb_drew G2) g9; have S9 := B1x.dr.kept g9 (by simp); have l0 := S9.cell 0 (v := .int .u8 k) rfl; have l1 := S9.cell 1 (v := .int .i64 x) rfl; have l2 := S9.cell 2 (v := .int .i64 y) rfl; have l3 := S9.cell 3 (v := .int .u8 t) rfl; have l4 := S9.cell 4 (v := .int .i64 z) rfl; have l5 := S9.cell 5 (v := .int .i64 (To.fi x)) rfl; have l6 := S9.cell 6 (v := .int .i64 (To.fi y)) rfl; have l7 := S9.cell 7 (v := .int .i64 x) rfl; have l8 := S9.cell 8 (v := .int .i64 y) rfl; have l9 := S9.cell 9 (v := .int .i64 u) rfl; have l10 := S9.cell 10 (v := .int .i64 v) rfl; have l11 := S9.cell 11 (v := .int .i64 i) rfl; have l12 := S9.cell 12 (v := .int .i64 j) rfl; have l13 := S9.cell 13 (v := .bool b) rfl; have y0 := R9.cell 0 (v := .int .i64 0) rfl; have y1 := R9.cell 1 (v := .int .i64 0) rfl; have f0 := R9.frozen 0; have f1 := R9.frozen 1))
  all_goals go_wp2
  all_goals refine ret_c1 (g := W1.heap.size) (cs := #[.int .i64 P, .int .i64 Q]) rfl hfs infoP rfl (bo2 R9) rfl ⟨rfl, gb2 G9 g1.size⟩
end Go.Proofs.YthgoillhjajanaaGreat.Fd
