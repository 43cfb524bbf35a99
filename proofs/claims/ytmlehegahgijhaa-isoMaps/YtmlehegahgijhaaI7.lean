/- Maps one behind the other, and where places come to, for a chain of calls; the first lines of every statement. -/
import Derived.Test.YtmlehegahgijhaaI6
namespace Go.Proofs.Ytmlehegahgijhaa
open Go.RowKit
open Fl
set_option linter.unusedVariables false
set_option linter.unusedSimpArgs false
set_option maxRecDepth 100000

theorem validYes (a b : Nat) (f : Bool) (c d : Nat) {k : Nat} {x y : Int} (h : May a b f c d k x y) (w : World) : Calls Try.prog 13 #[.agg (mv a b f c d)] w fun e w' => e = .returned (.bool true) ∧ w.grownBy w' none := by
  have hq := validC a b f c d w
  rw [h.v] at hq
  exact hq
theorem thenYes (a b : Nat) (f : Bool) (c d a2 b2 : Nat) (f2 : Bool) (c2 d2 : Nat) (f3 : Bool) (hf : (f != f2) = f3) {k l : Nat} {x y u v : Int} (m : Nat) (hm : both k l = m) (X Y : Int) (hX : lx l x y + u = X) (hY : ly l x y + v = Y) (h1 : May a b f c d k x y) (h2 : May a2 b2 f2 c2 d2 l u v) (n1 : nearB X = true) (n2 : nearB Y = true) (w : World) :
    Calls Try.prog 26 #[.agg (mv a b f c d), .agg (mv a2 b2 f2 c2 d2)] w fun e w' => ∃ p q r s, e = .returned (.tuple #[.agg (mv p q f3 r s), .int .i64 0]) ∧ May p q f3 r s m X Y ∧ Cl p q r s m X Y ∧ w.grownBy w' none := by
  subst hf hm hX hY
  refine (then_core a b f c d a2 b2 f2 c2 d2 h1 h2 w).mono ?_
  rintro e w' ⟨g, hy, hn⟩
  obtain ⟨p, q, r, s, he, my, cl⟩ := hy (by rw [n1, n2]; rfl)
  exact ⟨p, q, r, s, he, my, cl, g⟩
theorem thenFar (a b : Nat) (f : Bool) (c d a2 b2 : Nat) (f2 : Bool) (c2 d2 : Nat) {k l : Nat} {x y u v : Int} (h1 : May a b f c d k x y) (h2 : May a2 b2 f2 c2 d2 l u v) (n : (nearB (lx l x y + u) && nearB (ly l x y + v)) = false) (w : World) :
    Calls Try.prog 26 #[.agg (mv a b f c d), .agg (mv a2 b2 f2 c2 d2)] w fun e w' => e = .returned (.tuple #[.agg (mv 0 0 false 0 0), .int .i64 5]) ∧ w.grownBy w' none := by
  refine (then_core a b f c d a2 b2 f2 c2 d2 h1 h2 w).mono ?_
  rintro e w' ⟨g, hy, hn⟩
  exact ⟨hn n, g⟩
theorem atYes (a b : Nat) (f : Bool) (c d : Nat) (X Y : Int) {k : Nat} {x y : Int} (h : May a b f c d k x y) (hx : nearB X = true) (hy : nearB Y = true) (U V : Int) (hU : lx k X Y + x = U) (hV : ly k X Y + y = V) (nu : nearB U = true) (nv : nearB V = true) (w : World) :
    Calls Try.prog 11 #[.agg (mv a b f c d), .agg #[.int .i64 X, .int .i64 Y]] w fun e w' => e = .returned (.tuple #[.agg #[.int .i64 U, .int .i64 V], .int .i64 0]) ∧ w.grownBy w' none := by
  subst hU hV
  refine (at_core a b f c d X Y h hx hy w).mono ?_
  rw [nu, nv]
  exact fun e w' h => h
theorem atFar2 (a b : Nat) (f : Bool) (c d : Nat) (X Y : Int) {k : Nat} {x y : Int} (h : May a b f c d k x y) (hx : nearB X = true) (hy : nearB Y = true) (n : (nearB (lx k X Y + x) && nearB (ly k X Y + y)) = false) (w : World) :
    Calls Try.prog 11 #[.agg (mv a b f c d), .agg #[.int .i64 X, .int .i64 Y]] w fun e w' => e = .returned (.tuple #[.agg #[.int .i64 0, .int .i64 0], .int .i64 5]) ∧ w.grownBy w' none := by
  refine (at_core a b f c d X Y h hx hy w).mono ?_
  rw [n]
  exact fun e w' h => h
theorem shiftM (x y : Int) (hx : nearB x = true) (hy : nearB y = true) (w : World) : Calls Try.prog 10 #[.int .i64 x, .int .i64 y] w fun e w' => ∃ r s, e = .returned (.tuple #[.agg (mv 4607182418800017408 0 false r s), .int .i64 0]) ∧ May 4607182418800017408 0 false r s 0 x y ∧ Cl 4607182418800017408 0 r s 0 x y ∧ w.grownBy w' none := by
  refine (shiftYes x y hx hy w).mono ?_
  rintro e w' ⟨rfl, g⟩
  exact ⟨_, _, rfl, (shift_may x y hx hy).1, (shift_may x y hx hy).2, g⟩
theorem pm1 : May 0 4607182418800017408 false 0 0 1 0 0 := (part_may 1 (by decide)).1
theorem pm4 : May 4607182418800017408 0 true 0 0 4 0 0 := (part_may 4 (by decide)).1
theorem m10 : May 0 4607182418800017408 false 4621819117588971520 0 1 10 0 := ⟨⟨by decide, is0, is1, rfl, ⟨false, 5629499534213120, -49, by decide, by decide⟩, is0⟩, rfl, rfl⟩

set_option maxHeartbeats 2000000 in
theorem aliveC (w : World) : Calls Try.prog 9 #[] w fun e w' => e = .returned (.bool true) ∧ w.grownBy w' none := by
  have st := stC
  go_enter Try.func9, Try.ntmps9
  go_wp2_with (first | (go_at_call 14; (fail_if_success (guard_hyp g1)); refine (part1 _).mono ?_; rintro e w1 ⟨rfl, g1⟩; obtain ⟨W2, hW2, sz2, g2, B2⟩ := boxn w1 #[.complex .f64 0 4607182418800017408, .bool false, .complex .f64 0 0] 25; have G2 := gb_trans g1 g2; have sm2_0 := Bo.same B2 0 (v := .complex .f64 0 4607182418800017408) rfl; have sm2_1 := Bo.same B2 1 (v := .bool false) rfl; have sm2_2 := Bo.same B2 2 (v := .complex .f64 0 0) rfl; have fz2_0 := B2.frozen 0; have fz2_1 := B2.frozen 1; have fz2_2 := B2.frozen 2; have b2_2_0 := B2.cell 0 (v := .complex .f64 0 4607182418800017408) rfl; have b2_2_1 := B2.cell 1 (v := .bool false) rfl; have b2_2_2 := B2.cell 2 (v := .complex .f64 0 0) rfl) | (go_at_call 14; (fail_if_success (guard_hyp g3)); refine (part4 _).mono ?_; rintro e w3 ⟨rfl, g3⟩; have G3 := gb_trans G2 g3; have B2x := B2.kept g3 (by simp); obtain ⟨W4, hW4, sz4, g4, B4⟩ := boxn w3 #[.complex .f64 4607182418800017408 0, .bool true, .complex .f64 0 0] 25; have G4 := gb_trans G3 g4; have B2xx := B2x.kept g4 (by simp); have sm4_0 := Bo.same B4 0 (v := .complex .f64 4607182418800017408 0) rfl; have sm4_1 := Bo.same B4 1 (v := .bool true) rfl; have sm4_2 := Bo.same B4 2 (v := .complex .f64 0 0) rfl; have fz4_0 := B4.frozen 0; have fz4_1 := B4.frozen 1; have fz4_2 := B4.frozen 2; have b2_4_0 := B2xx.cell 0 (v := .complex .f64 0 4607182418800017408) rfl; have b2_4_1 := B2xx.cell 1 (v := .bool false) rfl; have b2_4_2 := B2xx.cell 2 (v := .complex .f64 0 0) rfl; have b4_4_0 := B4.cell 0 (v := .complex .f64 4607182418800017408 0) rfl; have b4_4_1 := B4.cell 1 (v := .bool true) rfl; have b4_4_2 := B4.cell 2 (v := .complex .f64 0 0) rfl) | (go_at_call 26; (fail_if_success (guard_hyp g5)); refine (thenYes _ _ _ _ _ _ _ _ _ _ true rfl 7 (by decide) 0 0 (by decide) (by decide) pm1 pm4 rfl rfl _).mono ?_; rintro e w5 ⟨p5, q5, r5, s5, rfl, my5, cl5, g5⟩; have G5 := gb_trans G4 g5; have B2xxx := B2xx.kept g5 (by simp); have B4x := B4.kept g5 (by simp); obtain ⟨W6, hW6, sz6, g6, B6⟩ := boxn w5 #[.complex .f64 p5 q5, .bool true, .complex .f64 r5 s5] 25; have G6 := gb_trans G5 g6; have B2xxxx := B2xxx.kept g6 (by simp); have B4xx := B4x.kept g6 (by simp); have b2_6_0 := B2xxxx.cell 0 (v := .complex .f64 0 4607182418800017408) rfl; have b2_6_1 := B2xxxx.cell 1 (v := .bool false) rfl; have b2_6_2 := B2xxxx.cell 2 (v := .complex .f64 0 0) rfl; have b4_6_0 := B4xx.cell 0 (v := .complex .f64 4607182418800017408 0) rfl; have b4_6_1 := B4xx.cell 1 (v := .bool true) rfl; have b4_6_2 := B4xx.cell 2 (v := .complex .f64 0 0) rfl; have b6_6_0 := B6.cell 0 (v := .complex .f64 p5 q5) rfl; have b6_6_1 := B6.cell 1 (v := .bool true) rfl; have b6_6_2 := B6.cell 2 (v := .complex .f64 r5 s5) rfl) | (go_at_call 12; (fail_if_success (guard_hyp g7)); refine (whichYes _ _ _ _ _ my5 _).mono ?_; rintro e w7 ⟨rfl, g7⟩; have G7 := gb_trans G6 g7; have B2xxxxx := B2xxxx.kept g7 (by simp); have B4xxx := B4xx.kept g7 (by simp); have B6x := B6.kept g7 (by simp); have b2_7_0 := B2xxxxx.cell 0 (v := .complex .f64 0 4607182418800017408) rfl; have b2_7_1 := B2xxxxx.cell 1 (v := .bool false) rfl; have b2_7_2 := B2xxxxx.cell 2 (v := .complex .f64 0 0) rfl; have b4_7_0 := B4xxx.cell 0 (v := .complex .f64 4607182418800017408 0) rfl; have b4_7_1 := B4xxx.cell 1 (v := .bool true) rfl; have b4_7_2 := B4xxx.cell 2 (v := .complex .f64 0 0) rfl; have b6_7_0 := B6x.cell 0 (v := .complex .f64 p5 q5) rfl; have b6_7_1 := B6x.cell 1 (v := .bool true) rfl; have b6_7_2 := B6x.cell 2 (v := .complex .f64 r5 s5) rfl) | (go_at_call 11; (fail_if_success (guard_hyp g8)); refine (atYes _ _ _ _ _ _ _ m10 rfl rfl 7 2 (by decide) (by decide) rfl rfl _).mono ?_; rintro e w8 ⟨rfl, g8⟩; have G8 := gb_trans G7 g8; have B2xxxxxx := B2xxxxx.kept g8 (by simp); have B4xxxx := B4xxx.kept g8 (by simp); have B6xx := B6x.kept g8 (by simp); obtain ⟨W9, hW9, sz9, g9, B9⟩ := boxn w8 #[.int .i64 7, .int .i64 2] 30; have G9 := gb_trans G8 g9; have B2xxxxxxx := B2xxxxxx.kept g9 (by simp); have B4xxxxx := B4xxxx.kept g9 (by simp); have B6xxx := B6xx.kept g9 (by simp); have b2_9_0 := B2xxxxxxx.cell 0 (v := .complex .f64 0 4607182418800017408) rfl; have b2_9_1 := B2xxxxxxx.cell 1 (v := .bool false) rfl; have b2_9_2 := B2xxxxxxx.cell 2 (v := .complex .f64 0 0) rfl; have b4_9_0 := B4xxxxx.cell 0 (v := .complex .f64 4607182418800017408 0) rfl; have b4_9_1 := B4xxxxx.cell 1 (v := .bool true) rfl; have b4_9_2 := B4xxxxx.cell 2 (v := .complex .f64 0 0) rfl; have b6_9_0 := B6xxx.cell 0 (v := .complex .f64 p5 q5) rfl; have b6_9_1 := B6xxx.cell 1 (v := .bool true) rfl; have b6_9_2 := B6xxx.cell 2 (v := .complex .f64 r5 s5) rfl; have b9_9_0 := B9.cell 0 (v := .int .i64 7) rfl; have b9_9_1 := B9.cell 1 (v := .int .i64 2) rfl))
  go_ret
  exact ⟨rfl, G9⟩
end Go.Proofs.Ytmlehegahgijhaa
