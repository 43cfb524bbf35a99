/- The first lines of every statement: the document's examples. -/
import Derived.Test.YtgiiaokkmnjckabF9
import Derived.Test.YtgiiaokkmnjckabF13a
import Derived.Test.YtgiiaokkmnjckabF14
import Derived.Test.YtgiiaokkmnjckabF15
namespace Go.Proofs.Ytgiiaokkmnjckab
open Go.RowKit
open Fl
set_option linter.unusedVariables false
set_option linter.unusedSimpArgs false
set_option maxRecDepth 100000

set_option maxHeartbeats 1000000 in
theorem partY (k x y t z a b : Int) (u v i j : Int) (ib : Bool) (hl : ∀ w, Calls Try.prog 27 #[.agg #[.int .u8 k, .int .i64 x, .int .i64 y, .int .u8 t, .int .i64 z], .agg #[.int .i64 a, .int .i64 b]] w fun e w' => e = .returned (.tuple #[.agg #[.int .u8 k, .int .i64 x, .int .i64 y, .int .u8 t, .int .i64 z, .int .i64 (To.fi x), .int .i64 (To.fi y), .int .i64 x, .int .i64 y, .int .i64 u, .int .i64 v, .int .i64 i, .int .i64 j, .bool ib], .int .i64 0]) ∧ w.grownBy w' none) (hb : loB k ib = false) (n : Int) (hp : ∀ w, Calls Try.prog 46 #[.agg #[.int .u8 k, .int .i64 x, .int .i64 y, .int .u8 t, .int .i64 z, .int .i64 (To.fi x), .int .i64 (To.fi y), .int .i64 x, .int .i64 y, .int .i64 u, .int .i64 v, .int .i64 i, .int .i64 j, .bool ib]] w fun e w' => e = .returned (.int .i64 n) ∧ w.grownBy w' none) (w : World) : Calls Try.prog 20 #[.agg #[.int .u8 k, .int .i64 x, .int .i64 y, .int .u8 t, .int .i64 z], .agg #[.int .i64 a, .int .i64 b]] w fun e w' => e = .returned (.tuple #[.int .i64 n, .int .i64 0]) ∧ w.grownBy w' none := by
  have hlo := isLostC k x y t z u v i j ib
  rw [hb] at hlo
  clear hb
  obtain ⟨W1, hW1, sz1, g1, B1⟩ := boxn w #[.int .u8 k, .int .i64 x, .int .i64 y, .int .u8 t, .int .i64 z] 23
  obtain ⟨W2, hW2, sz2, g2, B2⟩ := boxn W1 #[.int .i64 a, .int .i64 b] 33
  have G2 := gb_trans g1 g2
  have B1x := B1.kept g2 (by simp)
  have b1_2_0 := B1x.cell 0 (v := .int .u8 k) rfl
  have b1_2_1 := B1x.cell 1 (v := .int .i64 x) rfl
  have b1_2_2 := B1x.cell 2 (v := .int .i64 y) rfl
  have b1_2_3 := B1x.cell 3 (v := .int .u8 t) rfl
  have b1_2_4 := B1x.cell 4 (v := .int .i64 z) rfl
  have b2_2_0 := B2.cell 0 (v := .int .i64 a) rfl
  have b2_2_1 := B2.cell 1 (v := .int .i64 b) rfl
  go_enter Try.func20, Try.ntmps20
  go_wp2_with (first | (go_at_call 27; (fail_if_success (guard_hyp g3)); refine (hl _).mono ?_; rintro e w3 ⟨rfl, g3⟩; have G3 := gb_trans G2 g3; have B1xx := B1x.kept g3 (by simp); have B2x := B2.kept g3 (by simp); obtain ⟨W4, hW4, sz4, g4, B4⟩ := boxn w3 #[.int .u8 k, .int .i64 x, .int .i64 y, .int .u8 t, .int .i64 z, .int .i64 (To.fi x), .int .i64 (To.fi y), .int .i64 x, .int .i64 y, .int .i64 u, .int .i64 v, .int .i64 i, .int .i64 j, .bool ib] 65; have G4 := gb_trans G3 g4; have B1xxx := B1xx.kept g4 (by simp); have B2xx := B2x.kept g4 (by simp); clear b1_2_0 b1_2_1 b1_2_2 b1_2_3 b1_2_4 b2_2_0 b2_2_1; have b1_4_0 := B1xxx.cell 0 (v := .int .u8 k) rfl; have b1_4_1 := B1xxx.cell 1 (v := .int .i64 x) rfl; have b1_4_2 := B1xxx.cell 2 (v := .int .i64 y) rfl; have b1_4_3 := B1xxx.cell 3 (v := .int .u8 t) rfl; have b1_4_4 := B1xxx.cell 4 (v := .int .i64 z) rfl; have b2_4_0 := B2xx.cell 0 (v := .int .i64 a) rfl; have b2_4_1 := B2xx.cell 1 (v := .int .i64 b) rfl; have b4_4_0 := B4.cell 0 (v := .int .u8 k) rfl; have b4_4_1 := B4.cell 1 (v := .int .i64 x) rfl; have b4_4_2 := B4.cell 2 (v := .int .i64 y) rfl; have b4_4_3 := B4.cell 3 (v := .int .u8 t) rfl; have b4_4_4 := B4.cell 4 (v := .int .i64 z) rfl; have b4_4_5 := B4.cell 5 (v := .int .i64 (To.fi x)) rfl; have b4_4_6 := B4.cell 6 (v := .int .i64 (To.fi y)) rfl; have b4_4_7 := B4.cell 7 (v := .int .i64 x) rfl; have b4_4_8 := B4.cell 8 (v := .int .i64 y) rfl; have b4_4_9 := B4.cell 9 (v := .int .i64 u) rfl; have b4_4_10 := B4.cell 10 (v := .int .i64 v) rfl; have b4_4_11 := B4.cell 11 (v := .int .i64 i) rfl; have b4_4_12 := B4.cell 12 (v := .int .i64 j) rfl; have b4_4_13 := B4.cell 13 (v := .bool ib) rfl) | (go_at_call 45; (fail_if_success (guard_hyp g5)); refine (hlo _).mono ?_; rintro e w5 ⟨rfl, g5⟩; have G5 := gb_trans G4 g5; have B1xxxx := B1xxx.kept g5 (by simp); have B2xxx := B2xx.kept g5 (by simp); have B4x := B4.kept g5 (by simp); clear b1_4_0 b1_4_1 b1_4_2 b1_4_3 b1_4_4 b2_4_0 b2_4_1 b4_4_0 b4_4_1 b4_4_2 b4_4_3 b4_4_4 b4_4_5 b4_4_6 b4_4_7 b4_4_8 b4_4_9 b4_4_10 b4_4_11 b4_4_12 b4_4_13; have b1_5_0 := B1xxxx.cell 0 (v := .int .u8 k) rfl; have b1_5_1 := B1xxxx.cell 1 (v := .int .i64 x) rfl; have b1_5_2 := B1xxxx.cell 2 (v := .int .i64 y) rfl; have b1_5_3 := B1xxxx.cell 3 (v := .int .u8 t) rfl; have b1_5_4 := B1xxxx.cell 4 (v := .int .i64 z) rfl; have b2_5_0 := B2xxx.cell 0 (v := .int .i64 a) rfl; have b2_5_1 := B2xxx.cell 1 (v := .int .i64 b) rfl; have b4_5_0 := B4x.cell 0 (v := .int .u8 k) rfl; have b4_5_1 := B4x.cell 1 (v := .int .i64 x) rfl; have b4_5_2 := B4x.cell 2 (v := .int .i64 y) rfl; have b4_5_3 := B4x.cell 3 (v := .int .u8 t) rfl; have b4_5_4 := B4x.cell 4 (v := .int .i64 z) rfl; have b4_5_5 := B4x.cell 5 (v := .int .i64 (To.fi x)) rfl; have b4_5_6 := B4x.cell 6 (v := .int .i64 (To.fi y)) rfl; have b4_5_7 := B4x.cell 7 (v := .int .i64 x) rfl; have b4_5_8 := B4x.cell 8 (v := .int .i64 y) rfl; have b4_5_9 := B4x.cell 9 (v := .int .i64 u) rfl; have b4_5_10 := B4x.cell 10 (v := .int .i64 v) rfl; have b4_5_11 := B4x.cell 11 (v := .int .i64 i) rfl; have b4_5_12 := B4x.cell 12 (v := .int .i64 j) rfl; have b4_5_13 := B4x.cell 13 (v := .bool ib) rfl) | (go_at_call 46; (fail_if_success (guard_hyp g6)); refine (hp _).mono ?_; rintro e w6 ⟨rfl, g6⟩; have G6 := gb_trans G5 g6; have B1xxxxx := B1xxxx.kept g6 (by simp); have B2xxxx := B2xxx.kept g6 (by simp); have B4xx := B4x.kept g6 (by simp); clear b1_5_0 b1_5_1 b1_5_2 b1_5_3 b1_5_4 b2_5_0 b2_5_1 b4_5_0 b4_5_1 b4_5_2 b4_5_3 b4_5_4 b4_5_5 b4_5_6 b4_5_7 b4_5_8 b4_5_9 b4_5_10 b4_5_11 b4_5_12 b4_5_13; have b1_6_0 := B1xxxxx.cell 0 (v := .int .u8 k) rfl; have b1_6_1 := B1xxxxx.cell 1 (v := .int .i64 x) rfl; have b1_6_2 := B1xxxxx.cell 2 (v := .int .i64 y) rfl; have b1_6_3 := B1xxxxx.cell 3 (v := .int .u8 t) rfl; have b1_6_4 := B1xxxxx.cell 4 (v := .int .i64 z) rfl; have b2_6_0 := B2xxxx.cell 0 (v := .int .i64 a) rfl; have b2_6_1 := B2xxxx.cell 1 (v := .int .i64 b) rfl; have b4_6_0 := B4xx.cell 0 (v := .int .u8 k) rfl; have b4_6_1 := B4xx.cell 1 (v := .int .i64 x) rfl; have b4_6_2 := B4xx.cell 2 (v := .int .i64 y) rfl; have b4_6_3 := B4xx.cell 3 (v := .int .u8 t) rfl; have b4_6_4 := B4xx.cell 4 (v := .int .i64 z) rfl; have b4_6_5 := B4xx.cell 5 (v := .int .i64 (To.fi x)) rfl; have b4_6_6 := B4xx.cell 6 (v := .int .i64 (To.fi y)) rfl; have b4_6_7 := B4xx.cell 7 (v := .int .i64 x) rfl; have b4_6_8 := B4xx.cell 8 (v := .int .i64 y) rfl; have b4_6_9 := B4xx.cell 9 (v := .int .i64 u) rfl; have b4_6_10 := B4xx.cell 10 (v := .int .i64 v) rfl; have b4_6_11 := B4xx.cell 11 (v := .int .i64 i) rfl; have b4_6_12 := B4xx.cell 12 (v := .int .i64 j) rfl; have b4_6_13 := B4xx.cell 13 (v := .bool ib) rfl))
  go_ret2
  exact ⟨rfl, G6⟩

theorem aw_edges (w : World) : Calls Try.prog 33 #[.agg #[.int .u8 3, .int .i64 3, .int .i64 2, .int .u8 1, .int .i64 1, .int .i64 (To.fi 3), .int .i64 (To.fi 2), .int .i64 3, .int .i64 2]] w fun e w' => e = .returned (.agg #[.bool true, .int .i64 ((0 : Nat) : Int), .int .i64 3, .int .i64 0, .bool true, .int .i64 ((6 : Nat) : Int), .int .i64 (3 - 1 + 1), .int .i64 2]) ∧ w.grownBy w' none :=
  edges3 3 2 1 1 true true _ _ _ _ _ _ (klein1C 3 3 2 1 (by decide) (by decide) (by decide) (by decide) (by decide) (by decide)) w
theorem aw_cell (w : World) : Calls Try.prog 9 #[.agg #[.int .u8 3, .int .i64 3, .int .i64 2, .int .u8 1, .int .i64 1], .agg #[.int .i64 0, .int .i64 (-2)]] w fun e w' => e = .returned (.tuple #[.agg #[.int .i64 1, .int .i64 0], .int .i64 0]) ∧ w.grownBy w' none := by
  have h := cellC 3 3 2 1 1 0 (-2) (by decide) w
  have e1 : ceE 3 3 2 1 1 0 (-2) = 0 := by decide
  have e2 : ceX 3 3 2 1 1 0 (-2) = 1 := by decide
  have e3 : ceY 3 3 2 1 1 0 (-2) = 0 := by decide
  rw [ce_yes e1, e1, e2, e3] at h
  exact h
theorem aw_ring (w : World) : Calls Try.prog 8 #[.agg #[.int .u8 5, .int .i64 2, .int .i64 2, .int .u8 0, .int .i64 0], .agg #[.int .i64 (-2), .int .i64 0]] w fun e w' => e = .returned (.tuple #[.agg #[.int .i64 0, .int .i64 (-1)], .bool true, .int .i64 0]) ∧ w.grownBy w' none := by
  have h := ringC 5 2 2 0 0 (-2) 0 (by decide) w
  have e0 : riB 5 2 2 0 0 (-2) 0 = true := by decide
  have e1 : riE 5 2 2 0 0 (-2) 0 = 0 := by decide
  have e2 : riX 5 2 2 0 0 (-2) 0 = 0 := by decide
  have e3 : riY 5 2 2 0 0 (-2) 0 = -1 := by decide
  rw [riV_yes e0, e0, e1, e2, e3] at h
  exact h
theorem aw_plane (w : World) : Calls Try.prog 8 #[.agg #[.int .u8 1, .int .i64 3, .int .i64 2, .int .u8 0, .int .i64 0], .agg #[.int .i64 2, .int .i64 0]] w fun e w' => e = .returned (.tuple #[.agg #[.int .i64 0, .int .i64 0], .bool false, .int .i64 0]) ∧ w.grownBy w' none := by
  have h := ringC 1 3 2 0 0 2 0 (by decide) w
  have e0 : riB 1 3 2 0 0 2 0 = false := by decide
  have e1 : riE 1 3 2 0 0 2 0 = 0 := by decide
  rw [riV_no e0, e0, e1] at h
  exact h
theorem aw_glue (w : World) : Calls Try.prog 15 #[.agg #[.int .u8 3, .int .i64 3, .int .i64 2, .int .u8 1, .int .i64 1]] w fun e w' => ∃ q cp, e = .returned (.tuple #[.slice (some ⟨q, 0, none⟩) 2 cp, .int .i64 0]) ∧ w.grownBy w' none := by
  refine (glue2 3 3 2 1 1 (by decide) (by decide) _ _ _ _ _ _ aw_edges (fun _ _ _ _ _ => True) (fun _ _ _ _ _ => True) ?_ ?_ w).mono ?_
  · intro w
    refine (mapOfC 3 3 2 1 1 true 0 (by decide) 3 0 (by decide) (by decide) (by decide) (by decide) w).mono ?_
    rintro e w' ⟨a, b, f, c, d, he, _, hg⟩
    exact ⟨a, b, f, c, d, he, trivial, hg⟩
  · intro w
    refine (mapOfC 3 3 2 1 1 true 6 (by decide) (3 - 1 + 1) 2 (by decide) (by decide) (by decide) (by decide) w).mono ?_
    rintro e w' ⟨a, b, f, c, d, he, _, hg⟩
    exact ⟨a, b, f, c, d, he, trivial, hg⟩
  · rintro e w' ⟨q, cp, _, _, _, _, _, _, _, _, _, _, he, _, _, _, hg⟩
    exact ⟨q, cp, he, hg⟩
theorem aw_part (w : World) : Calls Try.prog 20 #[.agg #[.int .u8 3, .int .i64 3, .int .i64 2, .int .u8 1, .int .i64 1], .agg #[.int .i64 0, .int .i64 1]] w fun e w' => e = .returned (.tuple #[.int .i64 6, .int .i64 0]) ∧ w.grownBy w' none :=
  partY 3 3 2 1 1 0 1 _ _ _ _ _ (lookE 3 3 2 1 1 0 1 (by decide) (by decide) (by decide) (by decide)) rfl _ (part01 3 3 2 1 1 _ _ _ _ _ (by decide) (by decide) true true 0 6 3 0 (3 - 1 + 1) 2 (by decide) (by decide) aw_edges) w
end Go.Proofs.Ytgiiaokkmnjckab
