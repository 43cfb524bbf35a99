/- What the document's Linear, made and Both answer. -/
import Derived.Test.YtmlehegahgijhaaJ1
import Derived.Test.YtmlehegahgijhaaIg
namespace Go.Proofs.Ytmlehegahgijhaa
open Go.RowKit
open Fl
set_option linter.unusedVariables false
set_option linter.unusedSimpArgs false
set_option maxRecDepth 100000

/-- Far from the ends of 64 bits. -/
abbrev Mid (x : Int) : Prop := -1000000000000000000 ≤ x ∧ x ≤ 1000000000000000000

theorem refLin0 (x y : Int) (hx : Mid x) (hy : Mid y) (w : World) : Calls Try.prog 44 #[.int .i64 0, .int .i64 x, .int .i64 y] w fun e w' => e = .returned (.tuple #[.int .i64 (x), .int .i64 (y)]) ∧ w' = w := by
  have w1 : IntKind.i64.wrap (-x) = -x := by rw [IntKind.wrap_i64]; omega
  have w2 : IntKind.i64.wrap (-y) = -y := by rw [IntKind.wrap_i64]; omega
  have w3 : IntKind.i64.wrap x = x := by rw [IntKind.wrap_i64]; omega
  have w4 : IntKind.i64.wrap y = y := by rw [IntKind.wrap_i64]; omega
  clear hx hy
  go_enter Try.func44, Try.ntmps44
  go_wp2
  refine wp_loop_rounds 5 ?_
  rw [rounds_succ]
  go_wp2
  go_ret2
  exact ⟨rfl, rfl⟩

theorem refLin1 (x y : Int) (hx : Mid x) (hy : Mid y) (w : World) : Calls Try.prog 44 #[.int .i64 1, .int .i64 x, .int .i64 y] w fun e w' => e = .returned (.tuple #[.int .i64 (-y), .int .i64 (x)]) ∧ w' = w := by
  have w1 : IntKind.i64.wrap (-x) = -x := by rw [IntKind.wrap_i64]; omega
  have w2 : IntKind.i64.wrap (-y) = -y := by rw [IntKind.wrap_i64]; omega
  have w3 : IntKind.i64.wrap x = x := by rw [IntKind.wrap_i64]; omega
  have w4 : IntKind.i64.wrap y = y := by rw [IntKind.wrap_i64]; omega
  clear hx hy
  go_enter Try.func44, Try.ntmps44
  go_wp2
  refine wp_loop_rounds 5 ?_
  rw [rounds_succ]
  go_wp2
  rw [rounds_succ]
  go_wp2
  go_ret2
  exact ⟨rfl, rfl⟩

theorem refLin2 (x y : Int) (hx : Mid x) (hy : Mid y) (w : World) : Calls Try.prog 44 #[.int .i64 2, .int .i64 x, .int .i64 y] w fun e w' => e = .returned (.tuple #[.int .i64 (-x), .int .i64 (-y)]) ∧ w' = w := by
  have w1 : IntKind.i64.wrap (-x) = -x := by rw [IntKind.wrap_i64]; omega
  have w2 : IntKind.i64.wrap (-y) = -y := by rw [IntKind.wrap_i64]; omega
  have w3 : IntKind.i64.wrap x = x := by rw [IntKind.wrap_i64]; omega
  have w4 : IntKind.i64.wrap y = y := by rw [IntKind.wrap_i64]; omega
  clear hx hy
  go_enter Try.func44, Try.ntmps44
  go_wp2
  refine wp_loop_rounds 5 ?_
  rw [rounds_succ]
  go_wp2
  rw [rounds_succ]
  go_wp2
  rw [rounds_succ]
  go_wp2
  go_ret2
  exact ⟨rfl, rfl⟩

theorem refLin3 (x y : Int) (hx : Mid x) (hy : Mid y) (w : World) : Calls Try.prog 44 #[.int .i64 3, .int .i64 x, .int .i64 y] w fun e w' => e = .returned (.tuple #[.int .i64 (y), .int .i64 (-x)]) ∧ w' = w := by
  have w1 : IntKind.i64.wrap (-x) = -x := by rw [IntKind.wrap_i64]; omega
  have w2 : IntKind.i64.wrap (-y) = -y := by rw [IntKind.wrap_i64]; omega
  have w3 : IntKind.i64.wrap x = x := by rw [IntKind.wrap_i64]; omega
  have w4 : IntKind.i64.wrap y = y := by rw [IntKind.wrap_i64]; omega
  clear hx hy
  go_enter Try.func44, Try.ntmps44
  go_wp2
  refine wp_loop_rounds 5 ?_
  rw [rounds_succ]
  go_wp2
  rw [rounds_succ]
  go_wp2
  rw [rounds_succ]
  go_wp2
  rw [rounds_succ]
  go_wp2
  go_ret2
  exact ⟨rfl, rfl⟩

theorem refLin4 (x y : Int) (hx : Mid x) (hy : Mid y) (w : World) : Calls Try.prog 44 #[.int .i64 4, .int .i64 x, .int .i64 y] w fun e w' => e = .returned (.tuple #[.int .i64 (x), .int .i64 (-y)]) ∧ w' = w := by
  have w1 : IntKind.i64.wrap (-x) = -x := by rw [IntKind.wrap_i64]; omega
  have w2 : IntKind.i64.wrap (-y) = -y := by rw [IntKind.wrap_i64]; omega
  have w3 : IntKind.i64.wrap x = x := by rw [IntKind.wrap_i64]; omega
  have w4 : IntKind.i64.wrap y = y := by rw [IntKind.wrap_i64]; omega
  clear hx hy
  go_enter Try.func44, Try.ntmps44
  go_wp2
  refine wp_loop_rounds 5 ?_
  rw [rounds_succ]
  go_wp2
  go_ret2
  exact ⟨rfl, rfl⟩

theorem refLin5 (x y : Int) (hx : Mid x) (hy : Mid y) (w : World) : Calls Try.prog 44 #[.int .i64 5, .int .i64 x, .int .i64 y] w fun e w' => e = .returned (.tuple #[.int .i64 (y), .int .i64 (x)]) ∧ w' = w := by
  have w1 : IntKind.i64.wrap (-x) = -x := by rw [IntKind.wrap_i64]; omega
  have w2 : IntKind.i64.wrap (-y) = -y := by rw [IntKind.wrap_i64]; omega
  have w3 : IntKind.i64.wrap x = x := by rw [IntKind.wrap_i64]; omega
  have w4 : IntKind.i64.wrap y = y := by rw [IntKind.wrap_i64]; omega
  clear hx hy
  go_enter Try.func44, Try.ntmps44
  go_wp2
  refine wp_loop_rounds 5 ?_
  rw [rounds_succ]
  go_wp2
  rw [rounds_succ]
  go_wp2
  go_ret2
  exact ⟨rfl, rfl⟩

theorem refLin6 (x y : Int) (hx : Mid x) (hy : Mid y) (w : World) : Calls Try.prog 44 #[.int .i64 6, .int .i64 x, .int .i64 y] w fun e w' => e = .returned (.tuple #[.int .i64 (-x), .int .i64 (y)]) ∧ w' = w := by
  have w1 : IntKind.i64.wrap (-x) = -x := by rw [IntKind.wrap_i64]; omega
  have w2 : IntKind.i64.wrap (-y) = -y := by rw [IntKind.wrap_i64]; omega
  have w3 : IntKind.i64.wrap x = x := by rw [IntKind.wrap_i64]; omega
  have w4 : IntKind.i64.wrap y = y := by rw [IntKind.wrap_i64]; omega
  clear hx hy
  go_enter Try.func44, Try.ntmps44
  go_wp2
  refine wp_loop_rounds 5 ?_
  rw [rounds_succ]
  go_wp2
  rw [rounds_succ]
  go_wp2
  rw [rounds_succ]
  go_wp2
  go_ret2
  exact ⟨rfl, rfl⟩

theorem refLin7 (x y : Int) (hx : Mid x) (hy : Mid y) (w : World) : Calls Try.prog 44 #[.int .i64 7, .int .i64 x, .int .i64 y] w fun e w' => e = .returned (.tuple #[.int .i64 (-y), .int .i64 (-x)]) ∧ w' = w := by
  have w1 : IntKind.i64.wrap (-x) = -x := by rw [IntKind.wrap_i64]; omega
  have w2 : IntKind.i64.wrap (-y) = -y := by rw [IntKind.wrap_i64]; omega
  have w3 : IntKind.i64.wrap x = x := by rw [IntKind.wrap_i64]; omega
  have w4 : IntKind.i64.wrap y = y := by rw [IntKind.wrap_i64]; omega
  clear hx hy
  go_enter Try.func44, Try.ntmps44
  go_wp2
  refine wp_loop_rounds 5 ?_
  rw [rounds_succ]
  go_wp2
  rw [rounds_succ]
  go_wp2
  rw [rounds_succ]
  go_wp2
  rw [rounds_succ]
  go_wp2
  go_ret2
  exact ⟨rfl, rfl⟩

theorem refLinC (k : Nat) (h : k < 8) (x y : Int) (hx : Mid x) (hy : Mid y) (U V : Int) (hU : lx k x y = U) (hV : ly k x y = V) (w : World) : Calls Try.prog 44 #[.int .i64 k, .int .i64 x, .int .i64 y] w fun e w' => e = .returned (.tuple #[.int .i64 U, .int .i64 V]) ∧ w' = w := by
  subst hU hV
  obtain rfl | rfl | rfl | rfl | rfl | rfl | rfl | rfl : k = 0 ∨ k = 1 ∨ k = 2 ∨ k = 3 ∨ k = 4 ∨ k = 5 ∨ k = 6 ∨ k = 7 := by omega
  · rw [(lt0 x y).1, (lt0 x y).2]; exact refLin0 x y hx hy w
  · rw [(lt1 x y).1, (lt1 x y).2]; exact refLin1 x y hx hy w
  · rw [(lt2 x y).1, (lt2 x y).2]; exact refLin2 x y hx hy w
  · rw [(lt3 x y).1, (lt3 x y).2]; exact refLin3 x y hx hy w
  · rw [(lt4 x y).1, (lt4 x y).2]; exact refLin4 x y hx hy w
  · rw [(lt5 x y).1, (lt5 x y).2]; exact refLin5 x y hx hy w
  · rw [(lt6 x y).1, (lt6 x y).2]; exact refLin6 x y hx hy w
  · rw [(lt7 x y).1, (lt7 x y).2]; exact refLin7 x y hx hy w

theorem refMadeC (k : Nat) (h : k < 8) (x y : Int) (w : World) : Calls Try.prog 36 #[.int .i64 k, .int .i64 x, .int .i64 y] w fun e w' => e = .returned (.agg (mv (pa k) (pb k) (fl4 k) (floatOfInt .f64 x) (floatOfInt .f64 y))) ∧ w.grownBy w' none := by
  obtain ⟨fs, hfs⟩ := underI
  obtain ⟨W1, hW1, sz1, g1, B1⟩ := boxn w #[.complex .f64 0 0, .bool false, .complex .f64 0 0] 25
  have st := stC
  have c0 := B1.cell 0 (v := .complex .f64 0 0) rfl; have c1 := B1.cell 1 (v := .bool false) rfl; have c2 := B1.cell 2 (v := .complex .f64 0 0) rfl
  have y0 := B1.frozen 0; have y1 := B1.frozen 1; have y2 := B1.frozen 2
  have hT := refTurnC k h
  have h4 : decide ((4 : Int) ≤ (k : Int)) = fl4 k := by unfold fl4; exact decide_eq_decide.2 (by omega)
  go_enter Try.func36, Try.ntmps36
  go_wp2_with (first | (go_at_call 47; refine (hT _).mono ?_; rintro e w2 ⟨rfl, g2⟩; have B2 := B1.kept g2 (by simp); have d0 := B2.cell 0 (v := .complex .f64 0 0) rfl; have d1 := B2.cell 1 (v := .bool false) rfl; have d2 := B2.cell 2 (v := .complex .f64 0 0) rfl; have z0 := B2.frozen 0; have z1 := B2.frozen 1; have z2 := B2.frozen 2))
  refine ret_c1 (g := w.heap.size) (cs := mv (pa k) (pb k) (fl4 k) (floatOfInt .f64 x) (floatOfInt .f64 y)) rfl hfs infoI rfl (bo3 B2) rfl ⟨rfl, gb3 (gb_trans g1 g2) (Nat.le_refl _)⟩
theorem made_may (k : Nat) (h : k < 8) (x y : Int) (hx : nearB x = true) (hy : nearB y = true) : May (pa k) (pb k) (fl4 k) (floatOfInt .f64 x) (floatOfInt .f64 y) k x y := by
  have h1 := near_of hx
  have h2 := near_of hy
  have hp := (part_may k h).1
  exact ⟨⟨h, hp.t1, hp.t2, rfl, is_fl (by omega), is_fl (by omega)⟩, hx, hy⟩
end Go.Proofs.Ytmlehegahgijhaa
