/- What Part answers, of every topology and place. -/
import Derived.Test.YtgiiaokkmnjckaaF16
import Derived.Test.YtgiiaokkmnjckaaF10t
import Derived.Test.YtgiiaokkmnjckaaF12
import Derived.Test.YtgiiaokkmnjckaaF13b
namespace Go.Proofs.Ytgiiaokkmnjckaa
open Go.RowKit
open Fl
set_option linter.unusedVariables false
set_option linter.unusedSimpArgs false
set_option maxRecDepth 100000

set_option maxHeartbeats 1000000 in
theorem partX (k x y t z a b E : Int) (hE : (E == 0) = false) (hl : ∀ w, Calls Try.prog 28 #[.agg #[.int .u8 k, .int .i64 x, .int .i64 y, .int .u8 t, .int .i64 z], .agg #[.int .i64 a, .int .i64 b]] w fun e w' => e = .returned (.tuple #[.agg #[.int .u8 0, .int .i64 0, .int .i64 0, .int .u8 0, .int .i64 0, .int .i64 0, .int .i64 0, .int .i64 0, .int .i64 0, .int .i64 0, .int .i64 0, .int .i64 0, .int .i64 0, .bool false], .int .i64 E]) ∧ w.grownBy w' none) (w : World) : Calls Try.prog 12 #[.agg #[.int .u8 k, .int .i64 x, .int .i64 y, .int .u8 t, .int .i64 z], .agg #[.int .i64 a, .int .i64 b]] w fun e w' => e = .returned (.tuple #[.int .i64 0, .int .i64 E]) ∧ w.grownBy w' none := by
  obtain ⟨W1, hW1, sz1, g1, B1⟩ := boxn w #[.int .u8 k, .int .i64 x, .int .i64 y, .int .u8 t, .int .i64 z] 23
  obtain ⟨W2, hW2, sz2, g2, B2⟩ := boxn W1 #[.int .i64 a, .int .i64 b] 25
  have G2 := gb_trans g1 g2
  have B1x := B1.kept g2 (by simp)
  have b1_2_0 := B1x.cell 0 (v := .int .u8 k) rfl
  have b1_2_1 := B1x.cell 1 (v := .int .i64 x) rfl
  have b1_2_2 := B1x.cell 2 (v := .int .i64 y) rfl
  have b1_2_3 := B1x.cell 3 (v := .int .u8 t) rfl
  have b1_2_4 := B1x.cell 4 (v := .int .i64 z) rfl
  have b2_2_0 := B2.cell 0 (v := .int .i64 a) rfl
  have b2_2_1 := B2.cell 1 (v := .int .i64 b) rfl
  go_enter Try.func12, Try.ntmps12
  go_wp2_with (first | (go_at_call 28; (fail_if_success (guard_hyp g3)); refine (hl _).mono ?_; rintro e w3 ⟨rfl, g3⟩; have G3 := gb_trans G2 g3; have B1xx := B1x.kept g3 (by simp); have B2x := B2.kept g3 (by simp); obtain ⟨W4, hW4, sz4, g4, B4⟩ := boxn w3 #[.int .u8 0, .int .i64 0, .int .i64 0, .int .u8 0, .int .i64 0, .int .i64 0, .int .i64 0, .int .i64 0, .int .i64 0, .int .i64 0, .int .i64 0, .int .i64 0, .int .i64 0, .bool false] 60; have G4 := gb_trans G3 g4; have B1xxx := B1xx.kept g4 (by simp); have B2xx := B2x.kept g4 (by simp); have sm4_0 := Bo.same B4 0 (v := .int .u8 0) rfl; have sm4_1 := Bo.same B4 1 (v := .int .i64 0) rfl; have sm4_2 := Bo.same B4 2 (v := .int .i64 0) rfl; have sm4_3 := Bo.same B4 3 (v := .int .u8 0) rfl; have sm4_4 := Bo.same B4 4 (v := .int .i64 0) rfl; have sm4_5 := Bo.same B4 5 (v := .int .i64 0) rfl; have sm4_6 := Bo.same B4 6 (v := .int .i64 0) rfl; have sm4_7 := Bo.same B4 7 (v := .int .i64 0) rfl; have sm4_8 := Bo.same B4 8 (v := .int .i64 0) rfl; have sm4_9 := Bo.same B4 9 (v := .int .i64 0) rfl; have sm4_10 := Bo.same B4 10 (v := .int .i64 0) rfl; have sm4_11 := Bo.same B4 11 (v := .int .i64 0) rfl; have sm4_12 := Bo.same B4 12 (v := .int .i64 0) rfl; have sm4_13 := Bo.same B4 13 (v := .bool false) rfl; have fz4_0 := B4.frozen 0; have fz4_1 := B4.frozen 1; have fz4_2 := B4.frozen 2; have fz4_3 := B4.frozen 3; have fz4_4 := B4.frozen 4; have fz4_5 := B4.frozen 5; have fz4_6 := B4.frozen 6; have fz4_7 := B4.frozen 7; have fz4_8 := B4.frozen 8; have fz4_9 := B4.frozen 9; have fz4_10 := B4.frozen 10; have fz4_11 := B4.frozen 11; have fz4_12 := B4.frozen 12; have fz4_13 := B4.frozen 13; clear b1_2_0 b1_2_1 b1_2_2 b1_2_3 b1_2_4 b2_2_0 b2_2_1; have b1_4_0 := B1xxx.cell 0 (v := .int .u8 k) rfl; have b1_4_1 := B1xxx.cell 1 (v := .int .i64 x) rfl; have b1_4_2 := B1xxx.cell 2 (v := .int .i64 y) rfl; have b1_4_3 := B1xxx.cell 3 (v := .int .u8 t) rfl; have b1_4_4 := B1xxx.cell 4 (v := .int .i64 z) rfl; have b2_4_0 := B2xx.cell 0 (v := .int .i64 a) rfl; have b2_4_1 := B2xx.cell 1 (v := .int .i64 b) rfl; have b4_4_0 := B4.cell 0 (v := .int .u8 0) rfl; have b4_4_1 := B4.cell 1 (v := .int .i64 0) rfl; have b4_4_2 := B4.cell 2 (v := .int .i64 0) rfl; have b4_4_3 := B4.cell 3 (v := .int .u8 0) rfl; have b4_4_4 := B4.cell 4 (v := .int .i64 0) rfl; have b4_4_5 := B4.cell 5 (v := .int .i64 0) rfl; have b4_4_6 := B4.cell 6 (v := .int .i64 0) rfl; have b4_4_7 := B4.cell 7 (v := .int .i64 0) rfl; have b4_4_8 := B4.cell 8 (v := .int .i64 0) rfl; have b4_4_9 := B4.cell 9 (v := .int .i64 0) rfl; have b4_4_10 := B4.cell 10 (v := .int .i64 0) rfl; have b4_4_11 := B4.cell 11 (v := .int .i64 0) rfl; have b4_4_12 := B4.cell 12 (v := .int .i64 0) rfl; have b4_4_13 := B4.cell 13 (v := .bool false) rfl))
  go_ret2
  exact ⟨rfl, G4⟩

set_option maxHeartbeats 1000000 in
theorem partLost (k x y t z a b : Int) (u v i j : Int) (ib : Bool) (hl : ∀ w, Calls Try.prog 28 #[.agg #[.int .u8 k, .int .i64 x, .int .i64 y, .int .u8 t, .int .i64 z], .agg #[.int .i64 a, .int .i64 b]] w fun e w' => e = .returned (.tuple #[.agg #[.int .u8 k, .int .i64 x, .int .i64 y, .int .u8 t, .int .i64 z, .int .i64 (To.fi x), .int .i64 (To.fi y), .int .i64 x, .int .i64 y, .int .i64 u, .int .i64 v, .int .i64 i, .int .i64 j, .bool ib], .int .i64 0]) ∧ w.grownBy w' none) (hb : loB k ib = true) (w : World) : Calls Try.prog 12 #[.agg #[.int .u8 k, .int .i64 x, .int .i64 y, .int .u8 t, .int .i64 z], .agg #[.int .i64 a, .int .i64 b]] w fun e w' => e = .returned (.tuple #[.int .i64 0, .int .i64 60]) ∧ w.grownBy w' none := by
  have hlo := isLostC k x y t z u v i j ib
  rw [hb] at hlo
  clear hb
  obtain ⟨W1, hW1, sz1, g1, B1⟩ := boxn w #[.int .u8 k, .int .i64 x, .int .i64 y, .int .u8 t, .int .i64 z] 23
  obtain ⟨W2, hW2, sz2, g2, B2⟩ := boxn W1 #[.int .i64 a, .int .i64 b] 25
  have G2 := gb_trans g1 g2
  have B1x := B1.kept g2 (by simp)
  have b1_2_0 := B1x.cell 0 (v := .int .u8 k) rfl
  have b1_2_1 := B1x.cell 1 (v := .int .i64 x) rfl
  have b1_2_2 := B1x.cell 2 (v := .int .i64 y) rfl
  have b1_2_3 := B1x.cell 3 (v := .int .u8 t) rfl
  have b1_2_4 := B1x.cell 4 (v := .int .i64 z) rfl
  have b2_2_0 := B2.cell 0 (v := .int .i64 a) rfl
  have b2_2_1 := B2.cell 1 (v := .int .i64 b) rfl
  go_enter Try.func12, Try.ntmps12
  go_wp2_with (first | (go_at_call 28; (fail_if_success (guard_hyp g3)); refine (hl _).mono ?_; rintro e w3 ⟨rfl, g3⟩; have G3 := gb_trans G2 g3; have B1xx := B1x.kept g3 (by simp); have B2x := B2.kept g3 (by simp); obtain ⟨W4, hW4, sz4, g4, B4⟩ := boxn w3 #[.int .u8 k, .int .i64 x, .int .i64 y, .int .u8 t, .int .i64 z, .int .i64 (To.fi x), .int .i64 (To.fi y), .int .i64 x, .int .i64 y, .int .i64 u, .int .i64 v, .int .i64 i, .int .i64 j, .bool ib] 60; have G4 := gb_trans G3 g4; have B1xxx := B1xx.kept g4 (by simp); have B2xx := B2x.kept g4 (by simp); clear b1_2_0 b1_2_1 b1_2_2 b1_2_3 b1_2_4 b2_2_0 b2_2_1; have b1_4_0 := B1xxx.cell 0 (v := .int .u8 k) rfl; have b1_4_1 := B1xxx.cell 1 (v := .int .i64 x) rfl; have b1_4_2 := B1xxx.cell 2 (v := .int .i64 y) rfl; have b1_4_3 := B1xxx.cell 3 (v := .int .u8 t) rfl; have b1_4_4 := B1xxx.cell 4 (v := .int .i64 z) rfl; have b2_4_0 := B2xx.cell 0 (v := .int .i64 a) rfl; have b2_4_1 := B2xx.cell 1 (v := .int .i64 b) rfl; have b4_4_0 := B4.cell 0 (v := .int .u8 k) rfl; have b4_4_1 := B4.cell 1 (v := .int .i64 x) rfl; have b4_4_2 := B4.cell 2 (v := .int .i64 y) rfl; have b4_4_3 := B4.cell 3 (v := .int .u8 t) rfl; have b4_4_4 := B4.cell 4 (v := .int .i64 z) rfl; have b4_4_5 := B4.cell 5 (v := .int .i64 (To.fi x)) rfl; have b4_4_6 := B4.cell 6 (v := .int .i64 (To.fi y)) rfl; have b4_4_7 := B4.cell 7 (v := .int .i64 x) rfl; have b4_4_8 := B4.cell 8 (v := .int .i64 y) rfl; have b4_4_9 := B4.cell 9 (v := .int .i64 u) rfl; have b4_4_10 := B4.cell 10 (v := .int .i64 v) rfl; have b4_4_11 := B4.cell 11 (v := .int .i64 i) rfl; have b4_4_12 := B4.cell 12 (v := .int .i64 j) rfl; have b4_4_13 := B4.cell 13 (v := .bool ib) rfl) | (go_at_call 35; (fail_if_success (guard_hyp g5)); refine (hlo _).mono ?_; rintro e w5 ⟨rfl, g5⟩; have G5 := gb_trans G4 g5; have B1xxxx := B1xxx.kept g5 (by simp); have B2xxx := B2xx.kept g5 (by simp); have B4x := B4.kept g5 (by simp); clear b1_4_0 b1_4_1 b1_4_2 b1_4_3 b1_4_4 b2_4_0 b2_4_1 b4_4_0 b4_4_1 b4_4_2 b4_4_3 b4_4_4 b4_4_5 b4_4_6 b4_4_7 b4_4_8 b4_4_9 b4_4_10 b4_4_11 b4_4_12 b4_4_13; have b1_5_0 := B1xxxx.cell 0 (v := .int .u8 k) rfl; have b1_5_1 := B1xxxx.cell 1 (v := .int .i64 x) rfl; have b1_5_2 := B1xxxx.cell 2 (v := .int .i64 y) rfl; have b1_5_3 := B1xxxx.cell 3 (v := .int .u8 t) rfl; have b1_5_4 := B1xxxx.cell 4 (v := .int .i64 z) rfl; have b2_5_0 := B2xxx.cell 0 (v := .int .i64 a) rfl; have b2_5_1 := B2xxx.cell 1 (v := .int .i64 b) rfl; have b4_5_0 := B4x.cell 0 (v := .int .u8 k) rfl; have b4_5_1 := B4x.cell 1 (v := .int .i64 x) rfl; have b4_5_2 := B4x.cell 2 (v := .int .i64 y) rfl; have b4_5_3 := B4x.cell 3 (v := .int .u8 t) rfl; have b4_5_4 := B4x.cell 4 (v := .int .i64 z) rfl; have b4_5_5 := B4x.cell 5 (v := .int .i64 (To.fi x)) rfl; have b4_5_6 := B4x.cell 6 (v := .int .i64 (To.fi y)) rfl; have b4_5_7 := B4x.cell 7 (v := .int .i64 x) rfl; have b4_5_8 := B4x.cell 8 (v := .int .i64 y) rfl; have b4_5_9 := B4x.cell 9 (v := .int .i64 u) rfl; have b4_5_10 := B4x.cell 10 (v := .int .i64 v) rfl; have b4_5_11 := B4x.cell 11 (v := .int .i64 i) rfl; have b4_5_12 := B4x.cell 12 (v := .int .i64 j) rfl; have b4_5_13 := B4x.cell 13 (v := .bool ib) rfl))
  go_ret2
  exact ⟨rfl, G5⟩
def prt (P0 P1 : Nat) (i j : Int) : Nat := if odB i then (if odB j then both (both 0 P0) P1 else both 0 P0) else (if odB j then both 0 P1 else 0)

theorem spartC (k x y t z u v i j : Int) (b : Bool) (gA gB : Bool) (P0 P1 : Nat) (x1 y1 x2 y2 : Int) (hP0 : P0 < 8) (hP1 : P1 < 8) (he : ∀ w, Calls Try.prog 49 #[.agg #[.int .u8 k, .int .i64 x, .int .i64 y, .int .u8 t, .int .i64 z, .int .i64 (To.fi x), .int .i64 (To.fi y), .int .i64 x, .int .i64 y]] w fun e w' => e = .returned (.agg #[.bool gA, .int .i64 (P0 : Nat), .int .i64 x1, .int .i64 y1, .bool gB, .int .i64 (P1 : Nat), .int .i64 x2, .int .i64 y2]) ∧ w.grownBy w' none) (w : World) : Calls Try.prog 36 #[.agg #[.int .u8 k, .int .i64 x, .int .i64 y, .int .u8 t, .int .i64 z, .int .i64 (To.fi x), .int .i64 (To.fi y), .int .i64 x, .int .i64 y, .int .i64 u, .int .i64 v, .int .i64 i, .int .i64 j, .bool b]] w fun e w' => e = .returned (.int .i64 (prt P0 P1 i j : Nat)) ∧ w.grownBy w' none := by
  unfold prt
  cases hi : odB i <;> cases hj : odB j
  · exact part00 k x y t z u v i j b hi hj gA gB P0 P1 x1 y1 x2 y2 hP0 hP1 he w
  · exact part01 k x y t z u v i j b hi hj gA gB P0 P1 x1 y1 x2 y2 hP0 hP1 he w
  · exact part10 k x y t z u v i j b hi hj gA gB P0 P1 x1 y1 x2 y2 hP0 hP1 he w
  · exact part11 k x y t z u v i j b hi hj gA gB P0 P1 x1 y1 x2 y2 hP0 hP1 he w
theorem prt_pt (k t i j : Int) (P0 P1 : Nat) (h0 : P0 = if k = 3 ∧ t = 2 ∨ k = 4 then 4 else 0) (h1 : P1 = if k = 3 ∧ t = 1 ∨ k = 4 then 6 else 0) : prt P0 P1 i j = Fo.pt k t i j := by
  unfold prt Fo.pt Fo.ov odB
  have e : (k = 3 ∧ 3 - t = 1 ∨ k = 4) ↔ (k = 3 ∧ t = 2 ∨ k = 4) := by omega
  by_cases c0 : k = 3 ∧ t = 2 ∨ k = 4 <;> by_cases c1 : k = 3 ∧ t = 1 ∨ k = 4 <;> by_cases ci : i % 2 = 1 <;> by_cases cj : j % 2 = 1 <;> simp [e, c0, c1, ci, cj, h0, h1] <;> decide
theorem edgesAll (k x y t z : Int) (ht : 0 ≤ t) (ok : Tp.Ok k x y t z) : ∃ (gA gB : Bool) (P0 P1 : Nat) (x1 y1 x2 y2 : Int), P0 < 8 ∧ P1 < 8 ∧ (∀ i j, prt P0 P1 i j = Fo.pt k t i j) ∧ ∀ w, Calls Try.prog 49 #[.agg #[.int .u8 k, .int .i64 x, .int .i64 y, .int .u8 t, .int .i64 z, .int .i64 (To.fi x), .int .i64 (To.fi y), .int .i64 x, .int .i64 y]] w fun e w' => e = .returned (.agg #[.bool gA, .int .i64 (P0 : Nat), .int .i64 x1, .int .i64 y1, .bool gB, .int .i64 (P1 : Nat), .int .i64 x2, .int .i64 y2]) ∧ w.grownBy w' none := by
  have hk := ok.kind
  have hx := ok.wide
  have hy := ok.high
  have htt := ok.turn
  have hz : t ≠ 0 → -65536 ≤ z ∧ z ≤ 65536 := fun h => by
    have h1 := ok.near h
    unfold Tp.sd at h1
    split at h1 <;> omega
  obtain rfl | rfl | rfl | rfl | rfl : k = 1 ∨ k = 2 ∨ k = 3 ∨ k = 4 ∨ k = 5 := by omega
  · exact ⟨_, _, 0, 0, _, _, _, _, by decide, by decide, fun i j => prt_pt 1 t i j 0 0 (by rw [if_neg (by omega)]) (by rw [if_neg (by omega)]), edges1 x y t z _ _ _ _ _ _ _ _ (openC 1 x y t z)⟩
  · by_cases t1 : t = 1
    · exact ⟨_, _, 0, 0, _, _, _, _, by decide, by decide, fun i j => prt_pt 2 t i j 0 0 (by rw [if_neg (by omega)]) (by rw [if_neg (by omega)]), edges2 x y t z _ _ _ _ _ _ _ _ (torusC 2 x y t z _ _ rfl rfl 0 z (.inl ⟨by rw [t1]; rfl, rfl, rfl⟩))⟩
    · by_cases t2 : t = 2
      · exact ⟨_, _, 0, 0, _, _, _, _, by decide, by decide, fun i j => prt_pt 2 t i j 0 0 (by rw [if_neg (by omega)]) (by rw [if_neg (by omega)]), edges2 x y t z _ _ _ _ _ _ _ _ (torusC 2 x y t z _ _ rfl rfl z 0 (.inr (.inl ⟨by simpa using t1, by rw [t2]; rfl, rfl, rfl⟩)))⟩
      · exact ⟨_, _, 0, 0, _, _, _, _, by decide, by decide, fun i j => prt_pt 2 t i j 0 0 (by rw [if_neg (by omega)]) (by rw [if_neg (by omega)]), edges2 x y t z _ _ _ _ _ _ _ _ (torusC 2 x y t z _ _ rfl rfl 0 0 (.inr (.inr ⟨by simpa using t1, by simpa using t2, rfl, rfl⟩)))⟩
  · have hne : t ≠ 0 := fun e => ok.flips e rfl
    have hz' := hz hne
    obtain rfl | rfl : t = 1 ∨ t = 2 := by omega
    · exact ⟨_, _, 0, 6, _, _, _, _, by decide, by decide, fun i j => prt_pt 3 1 i j 0 6 (by decide) (by decide), edges3 x y 1 z _ _ _ _ _ _ _ _ (klein1C 3 x y z hx.1 hx.2 hy.1 hy.2 hz'.1 hz'.2)⟩
    · exact ⟨_, _, 4, 0, _, _, _, _, by decide, by decide, fun i j => prt_pt 3 2 i j 4 0 (by decide) (by decide), edges3 x y 2 z _ _ _ _ _ _ _ _ (klein2C 3 x y z hx.1 hx.2 hy.1 hy.2 hz'.1 hz'.2)⟩
  · exact ⟨_, _, 4, 6, _, _, _, _, by decide, by decide, fun i j => prt_pt 4 t i j 4 6 (by rw [if_pos (by omega)]) (by rw [if_pos (by omega)]), edges4 x y t z _ _ _ _ _ _ _ _ (crossC 4 x y t z hx.1 hx.2 hy.1 hy.2)⟩
  · exact ⟨_, _, 0, 0, _, _, _, _, by decide, by decide, fun i j => prt_pt 5 t i j 0 0 (by rw [if_neg (by omega)]) (by rw [if_neg (by omega)]), edges5 x y t z _ _ _ _ _ _ _ _ (openC 5 x y t z)⟩
/-- What Part answers. -/
def paV (k x y t z a b : Int) : Int := if ceE k x y t z a b = 0 then ((Fo.pt k t (Nm.divZ (a - To.fi x) x) (Nm.divZ (b - To.fi y) y) : Nat) : Int) else 0
theorem partC (k x y t z a b : Int) (ht : 0 ≤ t) (w : World) : Calls Try.prog 12 #[.agg #[.int .u8 k, .int .i64 x, .int .i64 y, .int .u8 t, .int .i64 z], .agg #[.int .i64 a, .int .i64 b]] w fun e w' => e = .returned (.tuple #[.int .i64 (paV k x y t z a b), .int .i64 (ceE k x y t z a b)]) ∧ w.grownBy w' none := by
  by_cases h : Tp.chk k x y t z = 0
  · have ok := Tp.ok_of h
    have hkk := ok.kind
    cases hf : (To.frB a || To.frB b)
    · have h1 := Bool.or_eq_false_iff.1 hf
      have hl := lookE k x y t z a b ht h h1.1 h1.2
      cases hb : loB k (giB x y a b)
      · have e1 : ceE k x y t z a b = 0 := by
          unfold ceE
          rw [if_pos h, if_neg (by rw [hf]; decide), if_neg]
          rintro ⟨q1, q2⟩
          rw [q2] at hb
          unfold loB at hb
          unfold glB at q1
          have q3 := of_decide_eq_false q1
          have : k = 1 ∨ k = 5 := by omega
          rcases this with rfl | rfl <;> simp at hb
        have e2 : paV k x y t z a b = ((Fo.pt k t (Nm.divZ (a - To.fi x) x) (Nm.divZ (b - To.fi y) y) : Nat) : Int) := by unfold paV; rw [if_pos e1]
        obtain ⟨gA, gB, P0, P1, x1, y1, x2, y2, hP0, hP1, hpt, he⟩ := edgesAll k x y t z ht ok
        have hp := fun w => spartC k x y t z (a - To.fi x) (b - To.fi y) (Nm.divZ (a - To.fi x) x) (Nm.divZ (b - To.fi y) y) (giB x y a b) gA gB P0 P1 x1 y1 x2 y2 hP0 hP1 he w
        rw [hpt] at hp
        rw [e2, e1]
        exact partY k x y t z a b _ _ _ _ _ hl hb _ hp w
      · have e1 : ceE k x y t z a b = 60 := by
          unfold loB at hb
          have hb' := Bool.and_eq_true_iff.1 hb
          have q2 : giB x y a b = false := by simpa using hb'.1
          have q3 : k = 1 ∨ k = 5 := by simpa using hb'.2
          unfold ceE
          rw [if_pos h, if_neg (by rw [hf]; decide), if_pos ⟨by unfold glB; exact decide_eq_false (by omega), q2⟩]
        have e2 : paV k x y t z a b = 0 := by unfold paV; rw [if_neg (by rw [e1]; decide)]
        rw [e2, e1]
        exact partLost k x y t z a b _ _ _ _ _ hl hb w
    · have e1 : ceE k x y t z a b = 5 := by unfold ceE; rw [if_pos h, if_pos hf]
      have e2 : paV k x y t z a b = 0 := by unfold paV; rw [if_neg (by rw [e1]; decide)]
      rw [e2, e1]
      exact partX k x y t z a b 5 rfl (lookF k x y t z a b ht h hf) w
  · have e1 : ceE k x y t z a b = 9 := by unfold ceE; rw [if_neg h]
    have e2 : paV k x y t z a b = 0 := by unfold paV; rw [if_neg (by rw [e1]; decide)]
    rw [e2, e1]
    exact partX k x y t z a b 9 rfl (lookNo k x y t z a b ht h) w
end Go.Proofs.Ytgiiaokkmnjckaa
