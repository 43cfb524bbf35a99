/- A tile's part, as the program reckons it. -/
import Derived.Deep.RegionWith
import Derived.Test.YtgiiaokkmnjckabF12
namespace Go.Proofs.Ytgiiaokkmnjckab
open Go.RowKit
open Fl
set_option linter.unusedVariables false
set_option linter.unusedSimpArgs false
set_option maxRecDepth 100000

theorem l_zero (k : Nat) : lx k 0 0 = 0 ∧ ly k 0 0 = 0 := by
  have h : cj (fl4 k) 0 = 0 := by unfold cj; split <;> rfl
  unfold lx ly
  rw [h]; simp
theorem pm0' : May 4607182418800017408 0 false 0 0 0 0 0 := (part_may 0 (by decide)).1
theorem bo3b {w : World} {g b : Nat} {t : TypeId} {cs : Array Value} {u0 u1 u2 : Value} (h : Bo w g t cs) (hb : b ≠ g) : Bo (((w.setCell ⟨b, 0, none⟩ u0).setCell ⟨b, 1, none⟩ u1).setCell ⟨b, 2, none⟩ u2) g t cs := ((h.set2 hb).set2 hb).set2 hb
theorem thenZ (a b : Nat) (f : Bool) (c d : Nat) (l : Nat) (hl : l < 8) {k : Nat} (h1 : May a b f c d k 0 0) (f3 : Bool) (hf3 : Hid ((f != fl4 l) = f3)) (w : World) : Calls Try.prog 58 #[.agg (mv a b f c d), .agg (mv (pa l) (pb l) (fl4 l) 0 0)] w fun e w' => ∃ p q r s, e = .returned (.tuple #[.agg (mv p q f3 r s), .int .i64 0]) ∧ May p q f3 r s (both k l) 0 0 ∧ w.grownBy w' none := by
  refine (thenYes a b f c d (pa l) (pb l) (fl4 l) 0 0 f3 hf3.out _ rfl 0 0 (by rw [(l_zero l).1]; rfl) (by rw [(l_zero l).2]; rfl) h1 (part_may l hl).1 rfl rfl w).mono ?_
  rintro e w' ⟨p, q, r, s, h, my, cl, g⟩
  exact ⟨p, q, r, s, h, my, g⟩

set_option maxHeartbeats 2000000 in
theorem part00 (k x y t z u v i j : Int) (b : Bool) (hi : odB i = false) (hj : odB j = false) (gA gB : Bool) (P0 P1 : Nat) (x1 y1 x2 y2 : Int) (hP0 : P0 < 8) (hP1 : P1 < 8) (he : ∀ w, Calls Try.prog 33 #[.agg #[.int .u8 k, .int .i64 x, .int .i64 y, .int .u8 t, .int .i64 z, .int .i64 (To.fi x), .int .i64 (To.fi y), .int .i64 x, .int .i64 y]] w fun e w' => e = .returned (.agg #[.bool gA, .int .i64 (P0 : Nat), .int .i64 x1, .int .i64 y1, .bool gB, .int .i64 (P1 : Nat), .int .i64 x2, .int .i64 y2]) ∧ w.grownBy w' none) (w : World) : Calls Try.prog 46 #[.agg #[.int .u8 k, .int .i64 x, .int .i64 y, .int .u8 t, .int .i64 z, .int .i64 (To.fi x), .int .i64 (To.fi y), .int .i64 x, .int .i64 y, .int .i64 u, .int .i64 v, .int .i64 i, .int .i64 j, .bool b]] w fun e w' => e = .returned (.int .i64 (0 : Nat)) ∧ w.grownBy w' none := by
  have st := stC
  have hp : ∀ w, Calls Try.prog 59 #[.int .i64 0] w fun e w' => e = .returned (.agg #[.complex .f64 4607182418800017408 0, .bool false, .complex .f64 0 0]) ∧ w.grownBy w' none := partOfC 0 (by decide)
  have hhP0 := hP0
  have hhP1 := hP1
  clear hP0 hP1
  have hP0 := partOfC P0 hhP0
  have hP1 := partOfC P1 hhP1
  obtain ⟨W1, hW1, sz1, g1, B1⟩ := boxn w #[.int .u8 k, .int .i64 x, .int .i64 y, .int .u8 t, .int .i64 z, .int .i64 (To.fi x), .int .i64 (To.fi y), .int .i64 x, .int .i64 y, .int .i64 u, .int .i64 v, .int .i64 i, .int .i64 j, .bool b] 65
  have b1_1_0 := B1.cell 0 (v := .int .u8 k) rfl
  have b1_1_1 := B1.cell 1 (v := .int .i64 x) rfl
  have b1_1_2 := B1.cell 2 (v := .int .i64 y) rfl
  have b1_1_3 := B1.cell 3 (v := .int .u8 t) rfl
  have b1_1_4 := B1.cell 4 (v := .int .i64 z) rfl
  have b1_1_5 := B1.cell 5 (v := .int .i64 (To.fi x)) rfl
  have b1_1_6 := B1.cell 6 (v := .int .i64 (To.fi y)) rfl
  have b1_1_7 := B1.cell 7 (v := .int .i64 x) rfl
  have b1_1_8 := B1.cell 8 (v := .int .i64 y) rfl
  have b1_1_9 := B1.cell 9 (v := .int .i64 u) rfl
  have b1_1_10 := B1.cell 10 (v := .int .i64 v) rfl
  have b1_1_11 := B1.cell 11 (v := .int .i64 i) rfl
  have b1_1_12 := B1.cell 12 (v := .int .i64 j) rfl
  have b1_1_13 := B1.cell 13 (v := .bool b) rfl
  go_enter Try.func46, Try.ntmps46
  go_wp2_with (first | (go_at_call 33; (fail_if_success (guard_hyp g2)); refine (he _).mono ?_; rintro e w2 ⟨rfl, g2⟩; have G2 := gb_trans g1 g2; have B1x := B1.kept g2 (by simp); obtain ⟨W3, hW3, sz3, g3, B3⟩ := boxn w2 #[.bool gA, .int .i64 (P0 : Nat), .int .i64 x1, .int .i64 y1, .bool gB, .int .i64 (P1 : Nat), .int .i64 x2, .int .i64 y2] 76; have G3 := gb_trans G2 g3; have B1xx := B1x.kept g3 (by simp); clear b1_1_0 b1_1_1 b1_1_2 b1_1_3 b1_1_4 b1_1_5 b1_1_6 b1_1_7 b1_1_8 b1_1_9 b1_1_10 b1_1_11 b1_1_12 b1_1_13; have b1_3_0 := B1xx.cell 0 (v := .int .u8 k) rfl; have b1_3_1 := B1xx.cell 1 (v := .int .i64 x) rfl; have b1_3_2 := B1xx.cell 2 (v := .int .i64 y) rfl; have b1_3_3 := B1xx.cell 3 (v := .int .u8 t) rfl; have b1_3_4 := B1xx.cell 4 (v := .int .i64 z) rfl; have b1_3_5 := B1xx.cell 5 (v := .int .i64 (To.fi x)) rfl; have b1_3_6 := B1xx.cell 6 (v := .int .i64 (To.fi y)) rfl; have b1_3_7 := B1xx.cell 7 (v := .int .i64 x) rfl; have b1_3_8 := B1xx.cell 8 (v := .int .i64 y) rfl; have b1_3_9 := B1xx.cell 9 (v := .int .i64 u) rfl; have b1_3_10 := B1xx.cell 10 (v := .int .i64 v) rfl; have b1_3_11 := B1xx.cell 11 (v := .int .i64 i) rfl; have b1_3_12 := B1xx.cell 12 (v := .int .i64 j) rfl; have b1_3_13 := B1xx.cell 13 (v := .bool b) rfl; have b3_3_0 := B3.cell 0 (v := .bool gA) rfl; have b3_3_1 := B3.cell 1 (v := .int .i64 (P0 : Nat)) rfl; have b3_3_2 := B3.cell 2 (v := .int .i64 x1) rfl; have b3_3_3 := B3.cell 3 (v := .int .i64 y1) rfl; have b3_3_4 := B3.cell 4 (v := .bool gB) rfl; have b3_3_5 := B3.cell 5 (v := .int .i64 (P1 : Nat)) rfl; have b3_3_6 := B3.cell 6 (v := .int .i64 x2) rfl; have b3_3_7 := B3.cell 7 (v := .int .i64 y2) rfl) | (go_at_call 59; (fail_if_success (guard_hyp g4)); refine (hp _).mono ?_; rintro e w4 ⟨rfl, g4⟩; have G4 := gb_trans G3 g4; have B1xxx := B1xx.kept g4 (by simp); have B3x := B3.kept g4 (by simp); obtain ⟨W5, hW5, sz5, g5, B5⟩ := boxn w4 #[.complex .f64 4607182418800017408 0, .bool false, .complex .f64 0 0] 48; have G5 := gb_trans G4 g5; have B1xxxx := B1xxx.kept g5 (by simp); have B3xx := B3x.kept g5 (by simp); have sm5_0 := Bo.same B5 0 (v := .complex .f64 4607182418800017408 0) rfl; have sm5_1 := Bo.same B5 1 (v := .bool false) rfl; have sm5_2 := Bo.same B5 2 (v := .complex .f64 0 0) rfl; have fz5_0 := B5.frozen 0; have fz5_1 := B5.frozen 1; have fz5_2 := B5.frozen 2; clear b1_3_0 b1_3_1 b1_3_2 b1_3_3 b1_3_4 b1_3_5 b1_3_6 b1_3_7 b1_3_8 b1_3_9 b1_3_10 b1_3_11 b1_3_12 b1_3_13 b3_3_0 b3_3_1 b3_3_2 b3_3_3 b3_3_4 b3_3_5 b3_3_6 b3_3_7; have b1_5_0 := B1xxxx.cell 0 (v := .int .u8 k) rfl; have b1_5_1 := B1xxxx.cell 1 (v := .int .i64 x) rfl; have b1_5_2 := B1xxxx.cell 2 (v := .int .i64 y) rfl; have b1_5_3 := B1xxxx.cell 3 (v := .int .u8 t) rfl; have b1_5_4 := B1xxxx.cell 4 (v := .int .i64 z) rfl; have b1_5_5 := B1xxxx.cell 5 (v := .int .i64 (To.fi x)) rfl; have b1_5_6 := B1xxxx.cell 6 (v := .int .i64 (To.fi y)) rfl; have b1_5_7 := B1xxxx.cell 7 (v := .int .i64 x) rfl; have b1_5_8 := B1xxxx.cell 8 (v := .int .i64 y) rfl; have b1_5_9 := B1xxxx.cell 9 (v := .int .i64 u) rfl; have b1_5_10 := B1xxxx.cell 10 (v := .int .i64 v) rfl; have b1_5_11 := B1xxxx.cell 11 (v := .int .i64 i) rfl; have b1_5_12 := B1xxxx.cell 12 (v := .int .i64 j) rfl; have b1_5_13 := B1xxxx.cell 13 (v := .bool b) rfl; have b3_5_0 := B3xx.cell 0 (v := .bool gA) rfl; have b3_5_1 := B3xx.cell 1 (v := .int .i64 (P0 : Nat)) rfl; have b3_5_2 := B3xx.cell 2 (v := .int .i64 x1) rfl; have b3_5_3 := B3xx.cell 3 (v := .int .i64 y1) rfl; have b3_5_4 := B3xx.cell 4 (v := .bool gB) rfl; have b3_5_5 := B3xx.cell 5 (v := .int .i64 (P1 : Nat)) rfl; have b3_5_6 := B3xx.cell 6 (v := .int .i64 x2) rfl; have b3_5_7 := B3xx.cell 7 (v := .int .i64 y2) rfl; have b5_5_0 := B5.cell 0 (v := .complex .f64 4607182418800017408 0) rfl; have b5_5_1 := B5.cell 1 (v := .bool false) rfl; have b5_5_2 := B5.cell 2 (v := .complex .f64 0 0) rfl) | (go_at_call 63; (fail_if_success (guard_hyp mo1)); refine (isOddC _ _).mono ?_; rintro e w' ⟨rfl, hw'⟩; subst w'; have mo1 : True := trivial) | (go_at_call 63; (fail_if_success (guard_hyp mo2)); refine (isOddC _ _).mono ?_; rintro e w' ⟨rfl, hw'⟩; subst w'; have mo2 : True := trivial) | (go_at_call 64; refine (whichYes _ _ _ _ _ pm0' _).mono ?_; rintro e w9 ⟨rfl, g9⟩))
  all_goals go_ret
  all_goals exact ⟨rfl, gb_trans G5 g9⟩
end Go.Proofs.Ytgiiaokkmnjckab
