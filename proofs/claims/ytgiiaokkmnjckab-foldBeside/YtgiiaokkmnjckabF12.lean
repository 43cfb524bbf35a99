/- The edges of a grid by its kind; the number of a part as a map. -/
import Derived.Test.YtgiiaokkmnjckabF10
namespace Go.Proofs.Ytgiiaokkmnjckab
open Go.RowKit
open Fl
set_option linter.unusedVariables false
set_option linter.unusedSimpArgs false
set_option maxRecDepth 100000

set_option maxHeartbeats 2000000 in
theorem edges1 (x y t z : Int) (gA gB : Bool) (p1 x1 y1 p2 x2 y2 : Int) (hf : ∀ w, Calls Try.prog 53 #[.agg #[.int .u8 1, .int .i64 x, .int .i64 y, .int .u8 t, .int .i64 z, .int .i64 (To.fi x), .int .i64 (To.fi y), .int .i64 x, .int .i64 y]] w fun e w' => e = .returned (.agg #[.bool gA, .int .i64 p1, .int .i64 x1, .int .i64 y1, .bool gB, .int .i64 p2, .int .i64 x2, .int .i64 y2]) ∧ w.grownBy w' none) (w : World) : Calls Try.prog 33 #[.agg #[.int .u8 1, .int .i64 x, .int .i64 y, .int .u8 t, .int .i64 z, .int .i64 (To.fi x), .int .i64 (To.fi y), .int .i64 x, .int .i64 y]] w fun e w' => e = .returned (.agg #[.bool gA, .int .i64 p1, .int .i64 x1, .int .i64 y1, .bool gB, .int .i64 p2, .int .i64 x2, .int .i64 y2]) ∧ w.grownBy w' none := by
  obtain ⟨n, el, hu⟩ := underE
  have st := stN'
  have sf := stF'
  obtain ⟨W1, hW1, sz1, g1, B1⟩ := boxn w #[.int .u8 1, .int .i64 x, .int .i64 y, .int .u8 t, .int .i64 z, .int .i64 (To.fi x), .int .i64 (To.fi y), .int .i64 x, .int .i64 y] 63
  obtain ⟨W2, hW2, sz2, g2, B2⟩ := boxn W1 #[.bool false, .int .i64 0, .int .i64 0, .int .i64 0, .bool false, .int .i64 0, .int .i64 0, .int .i64 0] 76
  have G2 := gb_trans g1 g2
  have B1x := B1.kept g2 (by simp)
  obtain ⟨W3, hW3, sz3, g3, B3⟩ := boxn W2 #[.nilFunc, .func (.func 53) #[] #[], .func (.func 54) #[] #[], .func (.func 55) #[] #[], .func (.func 56) #[] #[], .func (.func 53) #[] #[]] 93
  have G3 := gb_trans G2 g3
  have B1xx := B1x.kept g3 (by simp)
  have B2x := B2.kept g3 (by simp)
  have b1_3_0 := B1xx.cell 0 (v := .int .u8 1) rfl
  have b1_3_1 := B1xx.cell 1 (v := .int .i64 x) rfl
  have b1_3_2 := B1xx.cell 2 (v := .int .i64 y) rfl
  have b1_3_3 := B1xx.cell 3 (v := .int .u8 t) rfl
  have b1_3_4 := B1xx.cell 4 (v := .int .i64 z) rfl
  have b1_3_5 := B1xx.cell 5 (v := .int .i64 (To.fi x)) rfl
  have b1_3_6 := B1xx.cell 6 (v := .int .i64 (To.fi y)) rfl
  have b1_3_7 := B1xx.cell 7 (v := .int .i64 x) rfl
  have b1_3_8 := B1xx.cell 8 (v := .int .i64 y) rfl
  have b2_3_0 := B2x.cell 0 (v := .bool false) rfl
  have b2_3_1 := B2x.cell 1 (v := .int .i64 0) rfl
  have b2_3_2 := B2x.cell 2 (v := .int .i64 0) rfl
  have b2_3_3 := B2x.cell 3 (v := .int .i64 0) rfl
  have b2_3_4 := B2x.cell 4 (v := .bool false) rfl
  have b2_3_5 := B2x.cell 5 (v := .int .i64 0) rfl
  have b2_3_6 := B2x.cell 6 (v := .int .i64 0) rfl
  have b2_3_7 := B2x.cell 7 (v := .int .i64 0) rfl
  have zb2_3_0 := B2x.frozen 0
  have zb2_3_1 := B2x.frozen 1
  have zb2_3_2 := B2x.frozen 2
  have zb2_3_3 := B2x.frozen 3
  have zb2_3_4 := B2x.frozen 4
  have zb2_3_5 := B2x.frozen 5
  have zb2_3_6 := B2x.frozen 6
  have zb2_3_7 := B2x.frozen 7
  have b3_3_0 := B3.cell 0 (v := .nilFunc) rfl
  have b3_3_1 := B3.cell 1 (v := .func (.func 53) #[] #[]) rfl
  have b3_3_2 := B3.cell 2 (v := .func (.func 54) #[] #[]) rfl
  have b3_3_3 := B3.cell 3 (v := .func (.func 55) #[] #[]) rfl
  have b3_3_4 := B3.cell 4 (v := .func (.func 56) #[] #[]) rfl
  have b3_3_5 := B3.cell 5 (v := .func (.func 53) #[] #[]) rfl
  go_enter Try.func33, Try.ntmps33
  go_wp2
  have ap0 := Nat.ne_of_lt B1.lt
  have aq0 := Nat.ne_of_gt B1.lt
  have ap2 := Nat.ne_of_lt B2.lt
  have aq2 := Nat.ne_of_gt B2.lt
  go_region_held2 (fun w' => w'.cell? ⟨w.heap.size, 0, none⟩ = some (.int .u8 1) ∧ w'.cell? ⟨w.heap.size, 1, none⟩ = some (.int .i64 x) ∧ w'.cell? ⟨w.heap.size, 2, none⟩ = some (.int .i64 y) ∧ w'.cell? ⟨w.heap.size, 3, none⟩ = some (.int .u8 t) ∧ w'.cell? ⟨w.heap.size, 4, none⟩ = some (.int .i64 z) ∧ w'.cell? ⟨w.heap.size, 5, none⟩ = some (.int .i64 (To.fi x)) ∧ w'.cell? ⟨w.heap.size, 6, none⟩ = some (.int .i64 (To.fi y)) ∧ w'.cell? ⟨w.heap.size, 7, none⟩ = some (.int .i64 x) ∧ w'.cell? ⟨w.heap.size, 8, none⟩ = some (.int .i64 y) ∧ w'.cell? ⟨W2.heap.size, 0, none⟩ = some (.nilFunc) ∧ w'.cell? ⟨W2.heap.size, 1, none⟩ = some (.func (.func 53) #[] #[]) ∧ w'.cell? ⟨W2.heap.size, 2, none⟩ = some (.func (.func 54) #[] #[]) ∧ w'.cell? ⟨W2.heap.size, 3, none⟩ = some (.func (.func 55) #[] #[]) ∧ w'.cell? ⟨W2.heap.size, 4, none⟩ = some (.func (.func 56) #[] #[]) ∧ w'.cell? ⟨W2.heap.size, 5, none⟩ = some (.func (.func 53) #[] #[])) (go_keep) (first | (go_at_call 53; refine (hf _).mono ?_; rintro e w9 ⟨rfl, g9⟩; have G9 := gb_trans (gb_drew G3) g9; have S9_0 := B1xx.dr.kept g9 (by simp); have s9_0_0 := S9_0.cell 0 (v := .int .u8 1) rfl; have s9_0_1 := S9_0.cell 1 (v := .int .i64 x) rfl; have s9_0_2 := S9_0.cell 2 (v := .int .i64 y) rfl; have s9_0_3 := S9_0.cell 3 (v := .int .u8 t) rfl; have s9_0_4 := S9_0.cell 4 (v := .int .i64 z) rfl; have s9_0_5 := S9_0.cell 5 (v := .int .i64 (To.fi x)) rfl; have s9_0_6 := S9_0.cell 6 (v := .int .i64 (To.fi y)) rfl; have s9_0_7 := S9_0.cell 7 (v := .int .i64 x) rfl; have s9_0_8 := S9_0.cell 8 (v := .int .i64 y) rfl; have R9 := B2x.dr.kept g9 (by simp); have s9_1_0 := R9.cell 0 (v := .bool false) rfl; have s9_1_1 := R9.cell 1 (v := .int .i64 0) rfl; have s9_1_2 := R9.cell 2 (v := .int .i64 0) rfl; have s9_1_3 := R9.cell 3 (v := .int .i64 0) rfl; have s9_1_4 := R9.cell 4 (v := .bool false) rfl; have s9_1_5 := R9.cell 5 (v := .int .i64 0) rfl; have s9_1_6 := R9.cell 6 (v := .int .i64 0) rfl; have s9_1_7 := R9.cell 7 (v := .int .i64 0) rfl; have f9_1_0 := R9.frozen 0; have f9_1_1 := R9.frozen 1; have f9_1_2 := R9.frozen 2; have f9_1_3 := R9.frozen 3; have f9_1_4 := R9.frozen 4; have f9_1_5 := R9.frozen 5; have f9_1_6 := R9.frozen 6; have f9_1_7 := R9.frozen 7; have S9_2 := B3.dr.kept g9 (by simp); have s9_2_0 := S9_2.cell 0 (v := .nilFunc) rfl; have s9_2_1 := S9_2.cell 1 (v := .func (.func 53) #[] #[]) rfl; have s9_2_2 := S9_2.cell 2 (v := .func (.func 54) #[] #[]) rfl; have s9_2_3 := S9_2.cell 3 (v := .func (.func 55) #[] #[]) rfl; have s9_2_4 := S9_2.cell 4 (v := .func (.func 56) #[] #[]) rfl; have s9_2_5 := S9_2.cell 5 (v := .func (.func 53) #[] #[]) rfl))
  all_goals go_wp2
  all_goals refine ret_a1 (g := W1.heap.size) (cs := #[.bool gA, .int .i64 p1, .int .i64 x1, .int .i64 y1, .bool gB, .int .i64 p2, .int .i64 x2, .int .i64 y2]) rfl hu infoE rfl (bo8 R9) rfl ⟨rfl, gb8 G9 g1.size⟩

set_option maxHeartbeats 2000000 in
theorem edges2 (x y t z : Int) (gA gB : Bool) (p1 x1 y1 p2 x2 y2 : Int) (hf : ∀ w, Calls Try.prog 54 #[.agg #[.int .u8 2, .int .i64 x, .int .i64 y, .int .u8 t, .int .i64 z, .int .i64 (To.fi x), .int .i64 (To.fi y), .int .i64 x, .int .i64 y]] w fun e w' => e = .returned (.agg #[.bool gA, .int .i64 p1, .int .i64 x1, .int .i64 y1, .bool gB, .int .i64 p2, .int .i64 x2, .int .i64 y2]) ∧ w.grownBy w' none) (w : World) : Calls Try.prog 33 #[.agg #[.int .u8 2, .int .i64 x, .int .i64 y, .int .u8 t, .int .i64 z, .int .i64 (To.fi x), .int .i64 (To.fi y), .int .i64 x, .int .i64 y]] w fun e w' => e = .returned (.agg #[.bool gA, .int .i64 p1, .int .i64 x1, .int .i64 y1, .bool gB, .int .i64 p2, .int .i64 x2, .int .i64 y2]) ∧ w.grownBy w' none := by
  obtain ⟨n, el, hu⟩ := underE
  have st := stN'
  have sf := stF'
  obtain ⟨W1, hW1, sz1, g1, B1⟩ := boxn w #[.int .u8 2, .int .i64 x, .int .i64 y, .int .u8 t, .int .i64 z, .int .i64 (To.fi x), .int .i64 (To.fi y), .int .i64 x, .int .i64 y] 63
  obtain ⟨W2, hW2, sz2, g2, B2⟩ := boxn W1 #[.bool false, .int .i64 0, .int .i64 0, .int .i64 0, .bool false, .int .i64 0, .int .i64 0, .int .i64 0] 76
  have G2 := gb_trans g1 g2
  have B1x := B1.kept g2 (by simp)
  obtain ⟨W3, hW3, sz3, g3, B3⟩ := boxn W2 #[.nilFunc, .func (.func 53) #[] #[], .func (.func 54) #[] #[], .func (.func 55) #[] #[], .func (.func 56) #[] #[], .func (.func 53) #[] #[]] 93
  have G3 := gb_trans G2 g3
  have B1xx := B1x.kept g3 (by simp)
  have B2x := B2.kept g3 (by simp)
  have b1_3_0 := B1xx.cell 0 (v := .int .u8 2) rfl
  have b1_3_1 := B1xx.cell 1 (v := .int .i64 x) rfl
  have b1_3_2 := B1xx.cell 2 (v := .int .i64 y) rfl
  have b1_3_3 := B1xx.cell 3 (v := .int .u8 t) rfl
  have b1_3_4 := B1xx.cell 4 (v := .int .i64 z) rfl
  have b1_3_5 := B1xx.cell 5 (v := .int .i64 (To.fi x)) rfl
  have b1_3_6 := B1xx.cell 6 (v := .int .i64 (To.fi y)) rfl
  have b1_3_7 := B1xx.cell 7 (v := .int .i64 x) rfl
  have b1_3_8 := B1xx.cell 8 (v := .int .i64 y) rfl
  have b2_3_0 := B2x.cell 0 (v := .bool false) rfl
  have b2_3_1 := B2x.cell 1 (v := .int .i64 0) rfl
  have b2_3_2 := B2x.cell 2 (v := .int .i64 0) rfl
  have b2_3_3 := B2x.cell 3 (v := .int .i64 0) rfl
  have b2_3_4 := B2x.cell 4 (v := .bool false) rfl
  have b2_3_5 := B2x.cell 5 (v := .int .i64 0) rfl
  have b2_3_6 := B2x.cell 6 (v := .int .i64 0) rfl
  have b2_3_7 := B2x.cell 7 (v := .int .i64 0) rfl
  have zb2_3_0 := B2x.frozen 0
  have zb2_3_1 := B2x.frozen 1
  have zb2_3_2 := B2x.frozen 2
  have zb2_3_3 := B2x.frozen 3
  have zb2_3_4 := B2x.frozen 4
  have zb2_3_5 := B2x.frozen 5
  have zb2_3_6 := B2x.frozen 6
  have zb2_3_7 := B2x.frozen 7
  have b3_3_0 := B3.cell 0 (v := .nilFunc) rfl
  have b3_3_1 := B3.cell 1 (v := .func (.func 53) #[] #[]) rfl
  have b3_3_2 := B3.cell 2 (v := .func (.func 54) #[] #[]) rfl
  have b3_3_3 := B3.cell 3 (v := .func (.func 55) #[] #[]) rfl
  have b3_3_4 := B3.cell 4 (v := .func (.func 56) #[] #[]) rfl
  have b3_3_5 := B3.cell 5 (v := .func (.func 53) #[] #[]) rfl
  go_enter Try.func33, Try.ntmps33
  go_wp2
  have ap0 := Nat.ne_of_lt B1.lt
  have aq0 := Nat.ne_of_gt B1.lt
  have ap2 := Nat.ne_of_lt B2.lt
  have aq2 := Nat.ne_of_gt B2.lt
  go_region_held2 (fun w' => w'.cell? ⟨w.heap.size, 0, none⟩ = some (.int .u8 2) ∧ w'.cell? ⟨w.heap.size, 1, none⟩ = some (.int .i64 x) ∧ w'.cell? ⟨w.heap.size, 2, none⟩ = some (.int .i64 y) ∧ w'.cell? ⟨w.heap.size, 3, none⟩ = some (.int .u8 t) ∧ w'.cell? ⟨w.heap.size, 4, none⟩ = some (.int .i64 z) ∧ w'.cell? ⟨w.heap.size, 5, none⟩ = some (.int .i64 (To.fi x)) ∧ w'.cell? ⟨w.heap.size, 6, none⟩ = some (.int .i64 (To.fi y)) ∧ w'.cell? ⟨w.heap.size, 7, none⟩ = some (.int .i64 x) ∧ w'.cell? ⟨w.heap.size, 8, none⟩ = some (.int .i64 y) ∧ w'.cell? ⟨W2.heap.size, 0, none⟩ = some (.nilFunc) ∧ w'.cell? ⟨W2.heap.size, 1, none⟩ = some (.func (.func 53) #[] #[]) ∧ w'.cell? ⟨W2.heap.size, 2, none⟩ = some (.func (.func 54) #[] #[]) ∧ w'.cell? ⟨W2.heap.size, 3, none⟩ = some (.func (.func 55) #[] #[]) ∧ w'.cell? ⟨W2.heap.size, 4, none⟩ = some (.func (.func 56) #[] #[]) ∧ w'.cell? ⟨W2.heap.size, 5, none⟩ = some (.func (.func 53) #[] #[])) (go_keep) (first | (go_at_call 54; refine (hf _).mono ?_; rintro e w9 ⟨rfl, g9⟩; have G9 := gb_trans (gb_drew G3) g9; have S9_0 := B1xx.dr.kept g9 (by simp); have s9_0_0 := S9_0.cell 0 (v := .int .u8 2) rfl; have s9_0_1 := S9_0.cell 1 (v := .int .i64 x) rfl; have s9_0_2 := S9_0.cell 2 (v := .int .i64 y) rfl; have s9_0_3 := S9_0.cell 3 (v := .int .u8 t) rfl; have s9_0_4 := S9_0.cell 4 (v := .int .i64 z) rfl; have s9_0_5 := S9_0.cell 5 (v := .int .i64 (To.fi x)) rfl; have s9_0_6 := S9_0.cell 6 (v := .int .i64 (To.fi y)) rfl; have s9_0_7 := S9_0.cell 7 (v := .int .i64 x) rfl; have s9_0_8 := S9_0.cell 8 (v := .int .i64 y) rfl; have R9 := B2x.dr.kept g9 (by simp); have s9_1_0 := R9.cell 0 (v := .bool false) rfl; have s9_1_1 := R9.cell 1 (v := .int .i64 0) rfl; have s9_1_2 := R9.cell 2 (v := .int .i64 0) rfl; have s9_1_3 := R9.cell 3 (v := .int .i64 0) rfl; have s9_1_4 := R9.cell 4 (v := .bool false) rfl; have s9_1_5 := R9.cell 5 (v := .int .i64 0) rfl; have s9_1_6 := R9.cell 6 (v := .int .i64 0) rfl; have s9_1_7 := R9.cell 7 (v := .int .i64 0) rfl; have f9_1_0 := R9.frozen 0; have f9_1_1 := R9.frozen 1; have f9_1_2 := R9.frozen 2; have f9_1_3 := R9.frozen 3; have f9_1_4 := R9.frozen 4; have f9_1_5 := R9.frozen 5; have f9_1_6 := R9.frozen 6; have f9_1_7 := R9.frozen 7; have S9_2 := B3.dr.kept g9 (by simp); have s9_2_0 := S9_2.cell 0 (v := .nilFunc) rfl; have s9_2_1 := S9_2.cell 1 (v := .func (.func 53) #[] #[]) rfl; have s9_2_2 := S9_2.cell 2 (v := .func (.func 54) #[] #[]) rfl; have s9_2_3 := S9_2.cell 3 (v := .func (.func 55) #[] #[]) rfl; have s9_2_4 := S9_2.cell 4 (v := .func (.func 56) #[] #[]) rfl; have s9_2_5 := S9_2.cell 5 (v := .func (.func 53) #[] #[]) rfl))
  all_goals go_wp2
  all_goals refine ret_a1 (g := W1.heap.size) (cs := #[.bool gA, .int .i64 p1, .int .i64 x1, .int .i64 y1, .bool gB, .int .i64 p2, .int .i64 x2, .int .i64 y2]) rfl hu infoE rfl (bo8 R9) rfl ⟨rfl, gb8 G9 g1.size⟩

set_option maxHeartbeats 2000000 in
theorem edges3 (x y t z : Int) (gA gB : Bool) (p1 x1 y1 p2 x2 y2 : Int) (hf : ∀ w, Calls Try.prog 55 #[.agg #[.int .u8 3, .int .i64 x, .int .i64 y, .int .u8 t, .int .i64 z, .int .i64 (To.fi x), .int .i64 (To.fi y), .int .i64 x, .int .i64 y]] w fun e w' => e = .returned (.agg #[.bool gA, .int .i64 p1, .int .i64 x1, .int .i64 y1, .bool gB, .int .i64 p2, .int .i64 x2, .int .i64 y2]) ∧ w.grownBy w' none) (w : World) : Calls Try.prog 33 #[.agg #[.int .u8 3, .int .i64 x, .int .i64 y, .int .u8 t, .int .i64 z, .int .i64 (To.fi x), .int .i64 (To.fi y), .int .i64 x, .int .i64 y]] w fun e w' => e = .returned (.agg #[.bool gA, .int .i64 p1, .int .i64 x1, .int .i64 y1, .bool gB, .int .i64 p2, .int .i64 x2, .int .i64 y2]) ∧ w.grownBy w' none := by
  obtain ⟨n, el, hu⟩ := underE
  have st := stN'
  have sf := stF'
  obtain ⟨W1, hW1, sz1, g1, B1⟩ := boxn w #[.int .u8 3, .int .i64 x, .int .i64 y, .int .u8 t, .int .i64 z, .int .i64 (To.fi x), .int .i64 (To.fi y), .int .i64 x, .int .i64 y] 63
  obtain ⟨W2, hW2, sz2, g2, B2⟩ := boxn W1 #[.bool false, .int .i64 0, .int .i64 0, .int .i64 0, .bool false, .int .i64 0, .int .i64 0, .int .i64 0] 76
  have G2 := gb_trans g1 g2
  have B1x := B1.kept g2 (by simp)
  obtain ⟨W3, hW3, sz3, g3, B3⟩ := boxn W2 #[.nilFunc, .func (.func 53) #[] #[], .func (.func 54) #[] #[], .func (.func 55) #[] #[], .func (.func 56) #[] #[], .func (.func 53) #[] #[]] 93
  have G3 := gb_trans G2 g3
  have B1xx := B1x.kept g3 (by simp)
  have B2x := B2.kept g3 (by simp)
  have b1_3_0 := B1xx.cell 0 (v := .int .u8 3) rfl
  have b1_3_1 := B1xx.cell 1 (v := .int .i64 x) rfl
  have b1_3_2 := B1xx.cell 2 (v := .int .i64 y) rfl
  have b1_3_3 := B1xx.cell 3 (v := .int .u8 t) rfl
  have b1_3_4 := B1xx.cell 4 (v := .int .i64 z) rfl
  have b1_3_5 := B1xx.cell 5 (v := .int .i64 (To.fi x)) rfl
  have b1_3_6 := B1xx.cell 6 (v := .int .i64 (To.fi y)) rfl
  have b1_3_7 := B1xx.cell 7 (v := .int .i64 x) rfl
  have b1_3_8 := B1xx.cell 8 (v := .int .i64 y) rfl
  have b2_3_0 := B2x.cell 0 (v := .bool false) rfl
  have b2_3_1 := B2x.cell 1 (v := .int .i64 0) rfl
  have b2_3_2 := B2x.cell 2 (v := .int .i64 0) rfl
  have b2_3_3 := B2x.cell 3 (v := .int .i64 0) rfl
  have b2_3_4 := B2x.cell 4 (v := .bool false) rfl
  have b2_3_5 := B2x.cell 5 (v := .int .i64 0) rfl
  have b2_3_6 := B2x.cell 6 (v := .int .i64 0) rfl
  have b2_3_7 := B2x.cell 7 (v := .int .i64 0) rfl
  have zb2_3_0 := B2x.frozen 0
  have zb2_3_1 := B2x.frozen 1
  have zb2_3_2 := B2x.frozen 2
  have zb2_3_3 := B2x.frozen 3
  have zb2_3_4 := B2x.frozen 4
  have zb2_3_5 := B2x.frozen 5
  have zb2_3_6 := B2x.frozen 6
  have zb2_3_7 := B2x.frozen 7
  have b3_3_0 := B3.cell 0 (v := .nilFunc) rfl
  have b3_3_1 := B3.cell 1 (v := .func (.func 53) #[] #[]) rfl
  have b3_3_2 := B3.cell 2 (v := .func (.func 54) #[] #[]) rfl
  have b3_3_3 := B3.cell 3 (v := .func (.func 55) #[] #[]) rfl
  have b3_3_4 := B3.cell 4 (v := .func (.func 56) #[] #[]) rfl
  have b3_3_5 := B3.cell 5 (v := .func (.func 53) #[] #[]) rfl
  go_enter Try.func33, Try.ntmps33
  go_wp2
  have ap0 := Nat.ne_of_lt B1.lt
  have aq0 := Nat.ne_of_gt B1.lt
  have ap2 := Nat.ne_of_lt B2.lt
  have aq2 := Nat.ne_of_gt B2.lt
  go_region_held2 (fun w' => w'.cell? ⟨w.heap.size, 0, none⟩ = some (.int .u8 3) ∧ w'.cell? ⟨w.heap.size, 1, none⟩ = some (.int .i64 x) ∧ w'.cell? ⟨w.heap.size, 2, none⟩ = some (.int .i64 y) ∧ w'.cell? ⟨w.heap.size, 3, none⟩ = some (.int .u8 t) ∧ w'.cell? ⟨w.heap.size, 4, none⟩ = some (.int .i64 z) ∧ w'.cell? ⟨w.heap.size, 5, none⟩ = some (.int .i64 (To.fi x)) ∧ w'.cell? ⟨w.heap.size, 6, none⟩ = some (.int .i64 (To.fi y)) ∧ w'.cell? ⟨w.heap.size, 7, none⟩ = some (.int .i64 x) ∧ w'.cell? ⟨w.heap.size, 8, none⟩ = some (.int .i64 y) ∧ w'.cell? ⟨W2.heap.size, 0, none⟩ = some (.nilFunc) ∧ w'.cell? ⟨W2.heap.size, 1, none⟩ = some (.func (.func 53) #[] #[]) ∧ w'.cell? ⟨W2.heap.size, 2, none⟩ = some (.func (.func 54) #[] #[]) ∧ w'.cell? ⟨W2.heap.size, 3, none⟩ = some (.func (.func 55) #[] #[]) ∧ w'.cell? ⟨W2.heap.size, 4, none⟩ = some (.func (.func 56) #[] #[]) ∧ w'.cell? ⟨W2.heap.size, 5, none⟩ = some (.func (.func 53) #[] #[])) (go_keep) (first | (go_at_call 55; refine (hf _).mono ?_; rintro e w9 ⟨rfl, g9⟩; have G9 := gb_trans (gb_drew G3) g9; have S9_0 := B1xx.dr.kept g9 (by simp); have s9_0_0 := S9_0.cell 0 (v := .int .u8 3) rfl; have s9_0_1 := S9_0.cell 1 (v := .int .i64 x) rfl; have s9_0_2 := S9_0.cell 2 (v := .int .i64 y) rfl; have s9_0_3 := S9_0.cell 3 (v := .int .u8 t) rfl; have s9_0_4 := S9_0.cell 4 (v := .int .i64 z) rfl; have s9_0_5 := S9_0.cell 5 (v := .int .i64 (To.fi x)) rfl; have s9_0_6 := S9_0.cell 6 (v := .int .i64 (To.fi y)) rfl; have s9_0_7 := S9_0.cell 7 (v := .int .i64 x) rfl; have s9_0_8 := S9_0.cell 8 (v := .int .i64 y) rfl; have R9 := B2x.dr.kept g9 (by simp); have s9_1_0 := R9.cell 0 (v := .bool false) rfl; have s9_1_1 := R9.cell 1 (v := .int .i64 0) rfl; have s9_1_2 := R9.cell 2 (v := .int .i64 0) rfl; have s9_1_3 := R9.cell 3 (v := .int .i64 0) rfl; have s9_1_4 := R9.cell 4 (v := .bool false) rfl; have s9_1_5 := R9.cell 5 (v := .int .i64 0) rfl; have s9_1_6 := R9.cell 6 (v := .int .i64 0) rfl; have s9_1_7 := R9.cell 7 (v := .int .i64 0) rfl; have f9_1_0 := R9.frozen 0; have f9_1_1 := R9.frozen 1; have f9_1_2 := R9.frozen 2; have f9_1_3 := R9.frozen 3; have f9_1_4 := R9.frozen 4; have f9_1_5 := R9.frozen 5; have f9_1_6 := R9.frozen 6; have f9_1_7 := R9.frozen 7; have S9_2 := B3.dr.kept g9 (by simp); have s9_2_0 := S9_2.cell 0 (v := .nilFunc) rfl; have s9_2_1 := S9_2.cell 1 (v := .func (.func 53) #[] #[]) rfl; have s9_2_2 := S9_2.cell 2 (v := .func (.func 54) #[] #[]) rfl; have s9_2_3 := S9_2.cell 3 (v := .func (.func 55) #[] #[]) rfl; have s9_2_4 := S9_2.cell 4 (v := .func (.func 56) #[] #[]) rfl; have s9_2_5 := S9_2.cell 5 (v := .func (.func 53) #[] #[]) rfl))
  all_goals go_wp2
  all_goals refine ret_a1 (g := W1.heap.size) (cs := #[.bool gA, .int .i64 p1, .int .i64 x1, .int .i64 y1, .bool gB, .int .i64 p2, .int .i64 x2, .int .i64 y2]) rfl hu infoE rfl (bo8 R9) rfl ⟨rfl, gb8 G9 g1.size⟩

set_option maxHeartbeats 2000000 in
theorem edges4 (x y t z : Int) (gA gB : Bool) (p1 x1 y1 p2 x2 y2 : Int) (hf : ∀ w, Calls Try.prog 56 #[.agg #[.int .u8 4, .int .i64 x, .int .i64 y, .int .u8 t, .int .i64 z, .int .i64 (To.fi x), .int .i64 (To.fi y), .int .i64 x, .int .i64 y]] w fun e w' => e = .returned (.agg #[.bool gA, .int .i64 p1, .int .i64 x1, .int .i64 y1, .bool gB, .int .i64 p2, .int .i64 x2, .int .i64 y2]) ∧ w.grownBy w' none) (w : World) : Calls Try.prog 33 #[.agg #[.int .u8 4, .int .i64 x, .int .i64 y, .int .u8 t, .int .i64 z, .int .i64 (To.fi x), .int .i64 (To.fi y), .int .i64 x, .int .i64 y]] w fun e w' => e = .returned (.agg #[.bool gA, .int .i64 p1, .int .i64 x1, .int .i64 y1, .bool gB, .int .i64 p2, .int .i64 x2, .int .i64 y2]) ∧ w.grownBy w' none := by
  obtain ⟨n, el, hu⟩ := underE
  have st := stN'
  have sf := stF'
  obtain ⟨W1, hW1, sz1, g1, B1⟩ := boxn w #[.int .u8 4, .int .i64 x, .int .i64 y, .int .u8 t, .int .i64 z, .int .i64 (To.fi x), .int .i64 (To.fi y), .int .i64 x, .int .i64 y] 63
  obtain ⟨W2, hW2, sz2, g2, B2⟩ := boxn W1 #[.bool false, .int .i64 0, .int .i64 0, .int .i64 0, .bool false, .int .i64 0, .int .i64 0, .int .i64 0] 76
  have G2 := gb_trans g1 g2
  have B1x := B1.kept g2 (by simp)
  obtain ⟨W3, hW3, sz3, g3, B3⟩ := boxn W2 #[.nilFunc, .func (.func 53) #[] #[], .func (.func 54) #[] #[], .func (.func 55) #[] #[], .func (.func 56) #[] #[], .func (.func 53) #[] #[]] 93
  have G3 := gb_trans G2 g3
  have B1xx := B1x.kept g3 (by simp)
  have B2x := B2.kept g3 (by simp)
  have b1_3_0 := B1xx.cell 0 (v := .int .u8 4) rfl
  have b1_3_1 := B1xx.cell 1 (v := .int .i64 x) rfl
  have b1_3_2 := B1xx.cell 2 (v := .int .i64 y) rfl
  have b1_3_3 := B1xx.cell 3 (v := .int .u8 t) rfl
  have b1_3_4 := B1xx.cell 4 (v := .int .i64 z) rfl
  have b1_3_5 := B1xx.cell 5 (v := .int .i64 (To.fi x)) rfl
  have b1_3_6 := B1xx.cell 6 (v := .int .i64 (To.fi y)) rfl
  have b1_3_7 := B1xx.cell 7 (v := .int .i64 x) rfl
  have b1_3_8 := B1xx.cell 8 (v := .int .i64 y) rfl
  have b2_3_0 := B2x.cell 0 (v := .bool false) rfl
  have b2_3_1 := B2x.cell 1 (v := .int .i64 0) rfl
  have b2_3_2 := B2x.cell 2 (v := .int .i64 0) rfl
  have b2_3_3 := B2x.cell 3 (v := .int .i64 0) rfl
  have b2_3_4 := B2x.cell 4 (v := .bool false) rfl
  have b2_3_5 := B2x.cell 5 (v := .int .i64 0) rfl
  have b2_3_6 := B2x.cell 6 (v := .int .i64 0) rfl
  have b2_3_7 := B2x.cell 7 (v := .int .i64 0) rfl
  have zb2_3_0 := B2x.frozen 0
  have zb2_3_1 := B2x.frozen 1
  have zb2_3_2 := B2x.frozen 2
  have zb2_3_3 := B2x.frozen 3
  have zb2_3_4 := B2x.frozen 4
  have zb2_3_5 := B2x.frozen 5
  have zb2_3_6 := B2x.frozen 6
  have zb2_3_7 := B2x.frozen 7
  have b3_3_0 := B3.cell 0 (v := .nilFunc) rfl
  have b3_3_1 := B3.cell 1 (v := .func (.func 53) #[] #[]) rfl
  have b3_3_2 := B3.cell 2 (v := .func (.func 54) #[] #[]) rfl
  have b3_3_3 := B3.cell 3 (v := .func (.func 55) #[] #[]) rfl
  have b3_3_4 := B3.cell 4 (v := .func (.func 56) #[] #[]) rfl
  have b3_3_5 := B3.cell 5 (v := .func (.func 53) #[] #[]) rfl
  go_enter Try.func33, Try.ntmps33
  go_wp2
  have ap0 := Nat.ne_of_lt B1.lt
  have aq0 := Nat.ne_of_gt B1.lt
  have ap2 := Nat.ne_of_lt B2.lt
  have aq2 := Nat.ne_of_gt B2.lt
  go_region_held2 (fun w' => w'.cell? ⟨w.heap.size, 0, none⟩ = some (.int .u8 4) ∧ w'.cell? ⟨w.heap.size, 1, none⟩ = some (.int .i64 x) ∧ w'.cell? ⟨w.heap.size, 2, none⟩ = some (.int .i64 y) ∧ w'.cell? ⟨w.heap.size, 3, none⟩ = some (.int .u8 t) ∧ w'.cell? ⟨w.heap.size, 4, none⟩ = some (.int .i64 z) ∧ w'.cell? ⟨w.heap.size, 5, none⟩ = some (.int .i64 (To.fi x)) ∧ w'.cell? ⟨w.heap.size, 6, none⟩ = some (.int .i64 (To.fi y)) ∧ w'.cell? ⟨w.heap.size, 7, none⟩ = some (.int .i64 x) ∧ w'.cell? ⟨w.heap.size, 8, none⟩ = some (.int .i64 y) ∧ w'.cell? ⟨W2.heap.size, 0, none⟩ = some (.nilFunc) ∧ w'.cell? ⟨W2.heap.size, 1, none⟩ = some (.func (.func 53) #[] #[]) ∧ w'.cell? ⟨W2.heap.size, 2, none⟩ = some (.func (.func 54) #[] #[]) ∧ w'.cell? ⟨W2.heap.size, 3, none⟩ = some (.func (.func 55) #[] #[]) ∧ w'.cell? ⟨W2.heap.size, 4, none⟩ = some (.func (.func 56) #[] #[]) ∧ w'.cell? ⟨W2.heap.size, 5, none⟩ = some (.func (.func 53) #[] #[])) (go_keep) (first | (go_at_call 56; refine (hf _).mono ?_; rintro e w9 ⟨rfl, g9⟩; have G9 := gb_trans (gb_drew G3) g9; have S9_0 := B1xx.dr.kept g9 (by simp); have s9_0_0 := S9_0.cell 0 (v := .int .u8 4) rfl; have s9_0_1 := S9_0.cell 1 (v := .int .i64 x) rfl; have s9_0_2 := S9_0.cell 2 (v := .int .i64 y) rfl; have s9_0_3 := S9_0.cell 3 (v := .int .u8 t) rfl; have s9_0_4 := S9_0.cell 4 (v := .int .i64 z) rfl; have s9_0_5 := S9_0.cell 5 (v := .int .i64 (To.fi x)) rfl; have s9_0_6 := S9_0.cell 6 (v := .int .i64 (To.fi y)) rfl; have s9_0_7 := S9_0.cell 7 (v := .int .i64 x) rfl; have s9_0_8 := S9_0.cell 8 (v := .int .i64 y) rfl; have R9 := B2x.dr.kept g9 (by simp); have s9_1_0 := R9.cell 0 (v := .bool false) rfl; have s9_1_1 := R9.cell 1 (v := .int .i64 0) rfl; have s9_1_2 := R9.cell 2 (v := .int .i64 0) rfl; have s9_1_3 := R9.cell 3 (v := .int .i64 0) rfl; have s9_1_4 := R9.cell 4 (v := .bool false) rfl; have s9_1_5 := R9.cell 5 (v := .int .i64 0) rfl; have s9_1_6 := R9.cell 6 (v := .int .i64 0) rfl; have s9_1_7 := R9.cell 7 (v := .int .i64 0) rfl; have f9_1_0 := R9.frozen 0; have f9_1_1 := R9.frozen 1; have f9_1_2 := R9.frozen 2; have f9_1_3 := R9.frozen 3; have f9_1_4 := R9.frozen 4; have f9_1_5 := R9.frozen 5; have f9_1_6 := R9.frozen 6; have f9_1_7 := R9.frozen 7; have S9_2 := B3.dr.kept g9 (by simp); have s9_2_0 := S9_2.cell 0 (v := .nilFunc) rfl; have s9_2_1 := S9_2.cell 1 (v := .func (.func 53) #[] #[]) rfl; have s9_2_2 := S9_2.cell 2 (v := .func (.func 54) #[] #[]) rfl; have s9_2_3 := S9_2.cell 3 (v := .func (.func 55) #[] #[]) rfl; have s9_2_4 := S9_2.cell 4 (v := .func (.func 56) #[] #[]) rfl; have s9_2_5 := S9_2.cell 5 (v := .func (.func 53) #[] #[]) rfl))
  all_goals go_wp2
  all_goals refine ret_a1 (g := W1.heap.size) (cs := #[.bool gA, .int .i64 p1, .int .i64 x1, .int .i64 y1, .bool gB, .int .i64 p2, .int .i64 x2, .int .i64 y2]) rfl hu infoE rfl (bo8 R9) rfl ⟨rfl, gb8 G9 g1.size⟩

set_option maxHeartbeats 2000000 in
theorem edges5 (x y t z : Int) (gA gB : Bool) (p1 x1 y1 p2 x2 y2 : Int) (hf : ∀ w, Calls Try.prog 53 #[.agg #[.int .u8 5, .int .i64 x, .int .i64 y, .int .u8 t, .int .i64 z, .int .i64 (To.fi x), .int .i64 (To.fi y), .int .i64 x, .int .i64 y]] w fun e w' => e = .returned (.agg #[.bool gA, .int .i64 p1, .int .i64 x1, .int .i64 y1, .bool gB, .int .i64 p2, .int .i64 x2, .int .i64 y2]) ∧ w.grownBy w' none) (w : World) : Calls Try.prog 33 #[.agg #[.int .u8 5, .int .i64 x, .int .i64 y, .int .u8 t, .int .i64 z, .int .i64 (To.fi x), .int .i64 (To.fi y), .int .i64 x, .int .i64 y]] w fun e w' => e = .returned (.agg #[.bool gA, .int .i64 p1, .int .i64 x1, .int .i64 y1, .bool gB, .int .i64 p2, .int .i64 x2, .int .i64 y2]) ∧ w.grownBy w' none := by
  obtain ⟨n, el, hu⟩ := underE
  have st := stN'
  have sf := stF'
  obtain ⟨W1, hW1, sz1, g1, B1⟩ := boxn w #[.int .u8 5, .int .i64 x, .int .i64 y, .int .u8 t, .int .i64 z, .int .i64 (To.fi x), .int .i64 (To.fi y), .int .i64 x, .int .i64 y] 63
  obtain ⟨W2, hW2, sz2, g2, B2⟩ := boxn W1 #[.bool false, .int .i64 0, .int .i64 0, .int .i64 0, .bool false, .int .i64 0, .int .i64 0, .int .i64 0] 76
  have G2 := gb_trans g1 g2
  have B1x := B1.kept g2 (by simp)
  obtain ⟨W3, hW3, sz3, g3, B3⟩ := boxn W2 #[.nilFunc, .func (.func 53) #[] #[], .func (.func 54) #[] #[], .func (.func 55) #[] #[], .func (.func 56) #[] #[], .func (.func 53) #[] #[]] 93
  have G3 := gb_trans G2 g3
  have B1xx := B1x.kept g3 (by simp)
  have B2x := B2.kept g3 (by simp)
  have b1_3_0 := B1xx.cell 0 (v := .int .u8 5) rfl
  have b1_3_1 := B1xx.cell 1 (v := .int .i64 x) rfl
  have b1_3_2 := B1xx.cell 2 (v := .int .i64 y) rfl
  have b1_3_3 := B1xx.cell 3 (v := .int .u8 t) rfl
  have b1_3_4 := B1xx.cell 4 (v := .int .i64 z) rfl
  have b1_3_5 := B1xx.cell 5 (v := .int .i64 (To.fi x)) rfl
  have b1_3_6 := B1xx.cell 6 (v := .int .i64 (To.fi y)) rfl
  have b1_3_7 := B1xx.cell 7 (v := .int .i64 x) rfl
  have b1_3_8 := B1xx.cell 8 (v := .int .i64 y) rfl
  have b2_3_0 := B2x.cell 0 (v := .bool false) rfl
  have b2_3_1 := B2x.cell 1 (v := .int .i64 0) rfl
  have b2_3_2 := B2x.cell 2 (v := .int .i64 0) rfl
  have b2_3_3 := B2x.cell 3 (v := .int .i64 0) rfl
  have b2_3_4 := B2x.cell 4 (v := .bool false) rfl
  have b2_3_5 := B2x.cell 5 (v := .int .i64 0) rfl
  have b2_3_6 := B2x.cell 6 (v := .int .i64 0) rfl
  have b2_3_7 := B2x.cell 7 (v := .int .i64 0) rfl
  have zb2_3_0 := B2x.frozen 0
  have zb2_3_1 := B2x.frozen 1
  have zb2_3_2 := B2x.frozen 2
  have zb2_3_3 := B2x.frozen 3
  have zb2_3_4 := B2x.frozen 4
  have zb2_3_5 := B2x.frozen 5
  have zb2_3_6 := B2x.frozen 6
  have zb2_3_7 := B2x.frozen 7
  have b3_3_0 := B3.cell 0 (v := .nilFunc) rfl
  have b3_3_1 := B3.cell 1 (v := .func (.func 53) #[] #[]) rfl
  have b3_3_2 := B3.cell 2 (v := .func (.func 54) #[] #[]) rfl
  have b3_3_3 := B3.cell 3 (v := .func (.func 55) #[] #[]) rfl
  have b3_3_4 := B3.cell 4 (v := .func (.func 56) #[] #[]) rfl
  have b3_3_5 := B3.cell 5 (v := .func (.func 53) #[] #[]) rfl
  go_enter Try.func33, Try.ntmps33
  go_wp2
  have ap0 := Nat.ne_of_lt B1.lt
  have aq0 := Nat.ne_of_gt B1.lt
  have ap2 := Nat.ne_of_lt B2.lt
  have aq2 := Nat.ne_of_gt B2.lt
  go_region_held2 (fun w' => w'.cell? ⟨w.heap.size, 0, none⟩ = some (.int .u8 5) ∧ w'.cell? ⟨w.heap.size, 1, none⟩ = some (.int .i64 x) ∧ w'.cell? ⟨w.heap.size, 2, none⟩ = some (.int .i64 y) ∧ w'.cell? ⟨w.heap.size, 3, none⟩ = some (.int .u8 t) ∧ w'.cell? ⟨w.heap.size, 4, none⟩ = some (.int .i64 z) ∧ w'.cell? ⟨w.heap.size, 5, none⟩ = some (.int .i64 (To.fi x)) ∧ w'.cell? ⟨w.heap.size, 6, none⟩ = some (.int .i64 (To.fi y)) ∧ w'.cell? ⟨w.heap.size, 7, none⟩ = some (.int .i64 x) ∧ w'.cell? ⟨w.heap.size, 8, none⟩ = some (.int .i64 y) ∧ w'.cell? ⟨W2.heap.size, 0, none⟩ = some (.nilFunc) ∧ w'.cell? ⟨W2.heap.size, 1, none⟩ = some (.func (.func 53) #[] #[]) ∧ w'.cell? ⟨W2.heap.size, 2, none⟩ = some (.func (.func 54) #[] #[]) ∧ w'.cell? ⟨W2.heap.size, 3, none⟩ = some (.func (.func 55) #[] #[]) ∧ w'.cell? ⟨W2.heap.size, 4, none⟩ = some (.func (.func 56) #[] #[]) ∧ w'.cell? ⟨W2.heap.size, 5, none⟩ = some (.func (.func 53) #[] #[])) (go_keep) (first | (go_at_call 53; refine (hf _).mono ?_; rintro e w9 ⟨rfl, g9⟩; have G9 := gb_trans (gb_drew G3) g9; have S9_0 := B1xx.dr.kept g9 (by simp); have s9_0_0 := S9_0.cell 0 (v := .int .u8 5) rfl; have s9_0_1 := S9_0.cell 1 (v := .int .i64 x) rfl; have s9_0_2 := S9_0.cell 2 (v := .int .i64 y) rfl; have s9_0_3 := S9_0.cell 3 (v := .int .u8 t) rfl; have s9_0_4 := S9_0.cell 4 (v := .int .i64 z) rfl; have s9_0_5 := S9_0.cell 5 (v := .int .i64 (To.fi x)) rfl; have s9_0_6 := S9_0.cell 6 (v := .int .i64 (To.fi y)) rfl; have s9_0_7 := S9_0.cell 7 (v := .int .i64 x) rfl; have s9_0_8 := S9_0.cell 8 (v := .int .i64 y) rfl; have R9 := B2x.dr.kept g9 (by simp); have s9_1_0 := R9.cell 0 (v := .bool false) rfl; have s9_1_1 := R9.cell 1 (v := .int .i64 0) rfl; have s9_1_2 := R9.cell 2 (v := .int .i64 0) rfl; have s9_1_3 := R9.cell 3 (v := .int .i64 0) rfl; have s9_1_4 := R9.cell 4 (v := .bool false) rfl; have s9_1_5 := R9.cell 5 (v := .int .i64 0) rfl; have s9_1_6 := R9.cell 6 (v := .int .i64 0) rfl; have s9_1_7 := R9.cell 7 (v := .int .i64 0) rfl; have f9_1_0 := R9.frozen 0; have f9_1_1 := R9.frozen 1; have f9_1_2 := R9.frozen 2; have f9_1_3 := R9.frozen 3; have f9_1_4 := R9.frozen 4; have f9_1_5 := R9.frozen 5; have f9_1_6 := R9.frozen 6; have f9_1_7 := R9.frozen 7; have S9_2 := B3.dr.kept g9 (by simp); have s9_2_0 := S9_2.cell 0 (v := .nilFunc) rfl; have s9_2_1 := S9_2.cell 1 (v := .func (.func 53) #[] #[]) rfl; have s9_2_2 := S9_2.cell 2 (v := .func (.func 54) #[] #[]) rfl; have s9_2_3 := S9_2.cell 3 (v := .func (.func 55) #[] #[]) rfl; have s9_2_4 := S9_2.cell 4 (v := .func (.func 56) #[] #[]) rfl; have s9_2_5 := S9_2.cell 5 (v := .func (.func 53) #[] #[]) rfl))
  all_goals go_wp2
  all_goals refine ret_a1 (g := W1.heap.size) (cs := #[.bool gA, .int .i64 p1, .int .i64 x1, .int .i64 y1, .bool gB, .int .i64 p2, .int .i64 x2, .int .i64 y2]) rfl hu infoE rfl (bo8 R9) rfl ⟨rfl, gb8 G9 g1.size⟩

set_option maxHeartbeats 1000000 in
theorem partOfC (k : Nat) (h : k < 8) (w : World) : Calls Try.prog 59 #[.int .i64 k] w fun e w' => e = .returned (.agg (mv (pa k) (pb k) (fl4 k) 0 0)) ∧ w.grownBy w' none := by
  obtain ⟨fs, hfs⟩ := underI
  have st := stC
  have hp := partYes k h
  obtain ⟨W1, hW1, sz1, g1, B1⟩ := boxn w #[.complex .f64 0 0, .bool false, .complex .f64 0 0] 48
  have b1_1_0 := B1.cell 0 (v := .complex .f64 0 0) rfl
  have b1_1_1 := B1.cell 1 (v := .bool false) rfl
  have b1_1_2 := B1.cell 2 (v := .complex .f64 0 0) rfl
  have zb1_1_0 := B1.frozen 0
  have zb1_1_1 := B1.frozen 1
  have zb1_1_2 := B1.frozen 2
  go_enter Try.func59, Try.ntmps59
  go_wp2_with (first | (go_at_call 74; (fail_if_success (guard_hyp g2)); refine (hp _).mono ?_; rintro e w2 ⟨rfl, g2⟩; have G2 := gb_trans g1 g2; have B1x := B1.kept g2 (by simp); obtain ⟨W3, hW3, sz3, g3, B3⟩ := boxn w2 #[.complex .f64 (pa k) (pb k), .bool (fl4 k), .complex .f64 0 0] 48; have G3 := gb_trans G2 g3; have B1xx := B1x.kept g3 (by simp); have sm3_0 := Bo.same B3 0 (v := .complex .f64 (pa k) (pb k)) rfl; have sm3_1 := Bo.same B3 1 (v := .bool (fl4 k)) rfl; have sm3_2 := Bo.same B3 2 (v := .complex .f64 0 0) rfl; have fz3_0 := B3.frozen 0; have fz3_1 := B3.frozen 1; have fz3_2 := B3.frozen 2; clear b1_1_0 b1_1_1 b1_1_2 zb1_1_0 zb1_1_1 zb1_1_2; have b1_3_0 := B1xx.cell 0 (v := .complex .f64 0 0) rfl; have b1_3_1 := B1xx.cell 1 (v := .bool false) rfl; have b1_3_2 := B1xx.cell 2 (v := .complex .f64 0 0) rfl; have zb1_3_0 := B1xx.frozen 0; have zb1_3_1 := B1xx.frozen 1; have zb1_3_2 := B1xx.frozen 2; have b3_3_0 := B3.cell 0 (v := .complex .f64 (pa k) (pb k)) rfl; have b3_3_1 := B3.cell 1 (v := .bool (fl4 k)) rfl; have b3_3_2 := B3.cell 2 (v := .complex .f64 0 0) rfl))
  refine ret_c1 (g := w.heap.size) (cs := mv (pa k) (pb k) (fl4 k) 0 0) rfl hfs infoI rfl (bo3 B1xx) rfl ⟨rfl, gb3 G3 (Nat.le_refl _)⟩
end Go.Proofs.Ytgiiaokkmnjckab
