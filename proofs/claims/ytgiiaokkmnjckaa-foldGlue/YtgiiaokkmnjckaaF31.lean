/- What the document's plain, upright, lying answer. -/
import Derived.Test.YtgiiaokkmnjckaaF14
namespace Go.Proofs.Ytgiiaokkmnjckaa
open Go.RowKit
open Fl
set_option linter.unusedVariables false
set_option linter.unusedSimpArgs false
set_option maxRecDepth 100000

theorem refPlainW (x y : Int) (w : World) : Calls Try.prog 45 #[.int .i64 x, .int .i64 y] w fun e w' => e = .returned (.agg (mv 4607182418800017408 0 false (floatOfInt .f64 x) (floatOfInt .f64 y))) ∧ w.grownBy w' none := by
  obtain ⟨fs, hfs⟩ := underI
  obtain ⟨W1, hW1, sz1, g1, B1⟩ := boxn w #[.complex .f64 0 0, .bool false, .complex .f64 0 0] 41
  have st := stC
  have c0 := B1.cell 0 (v := .complex .f64 0 0) rfl; have c1 := B1.cell 1 (v := .bool false) rfl; have c2 := B1.cell 2 (v := .complex .f64 0 0) rfl
  have y0 := B1.frozen 0; have y1 := B1.frozen 1; have y2 := B1.frozen 2
  go_enter Try.func45, Try.ntmps45
  go_wp2
  refine ret_c1 (g := w.heap.size) (cs := mv 4607182418800017408 0 false (floatOfInt .f64 x) (floatOfInt .f64 y)) rfl hfs infoI rfl (bo3 B1) rfl ⟨rfl, gb3 g1 (Nat.le_refl _)⟩
theorem refPlainM (x y : Int) (hx : nearB x = true) (hy : nearB y = true) : May 4607182418800017408 0 false (floatOfInt .f64 x) (floatOfInt .f64 y) 0 x y := by
  have p := (part_may 0 (by decide)).1
  have h1 := of_decide_eq_true hx
  have h2 := of_decide_eq_true hy
  exact ⟨⟨p.lt, p.t1, p.t2, p.fl, is_fl (by omega), is_fl (by omega)⟩, hx, hy⟩

theorem refUprightW (x y : Int) (w : World) : Calls Try.prog 47 #[.int .i64 x, .int .i64 y] w fun e w' => e = .returned (.agg (mv 13830554455654793216 0 true (floatOfInt .f64 x) (floatOfInt .f64 y))) ∧ w.grownBy w' none := by
  obtain ⟨fs, hfs⟩ := underI
  obtain ⟨W1, hW1, sz1, g1, B1⟩ := boxn w #[.complex .f64 0 0, .bool false, .complex .f64 0 0] 41
  have st := stC
  have c0 := B1.cell 0 (v := .complex .f64 0 0) rfl; have c1 := B1.cell 1 (v := .bool false) rfl; have c2 := B1.cell 2 (v := .complex .f64 0 0) rfl
  have y0 := B1.frozen 0; have y1 := B1.frozen 1; have y2 := B1.frozen 2
  go_enter Try.func47, Try.ntmps47
  go_wp2
  refine ret_c1 (g := w.heap.size) (cs := mv 13830554455654793216 0 true (floatOfInt .f64 x) (floatOfInt .f64 y)) rfl hfs infoI rfl (bo3 B1) rfl ⟨rfl, gb3 g1 (Nat.le_refl _)⟩
theorem refUprightM (x y : Int) (hx : nearB x = true) (hy : nearB y = true) : May 13830554455654793216 0 true (floatOfInt .f64 x) (floatOfInt .f64 y) 6 x y := by
  have p := (part_may 6 (by decide)).1
  have h1 := of_decide_eq_true hx
  have h2 := of_decide_eq_true hy
  exact ⟨⟨p.lt, p.t1, p.t2, p.fl, is_fl (by omega), is_fl (by omega)⟩, hx, hy⟩

theorem refLyingW (x y : Int) (w : World) : Calls Try.prog 46 #[.int .i64 x, .int .i64 y] w fun e w' => e = .returned (.agg (mv 4607182418800017408 0 true (floatOfInt .f64 x) (floatOfInt .f64 y))) ∧ w.grownBy w' none := by
  obtain ⟨fs, hfs⟩ := underI
  obtain ⟨W1, hW1, sz1, g1, B1⟩ := boxn w #[.complex .f64 0 0, .bool false, .complex .f64 0 0] 41
  have st := stC
  have c0 := B1.cell 0 (v := .complex .f64 0 0) rfl; have c1 := B1.cell 1 (v := .bool false) rfl; have c2 := B1.cell 2 (v := .complex .f64 0 0) rfl
  have y0 := B1.frozen 0; have y1 := B1.frozen 1; have y2 := B1.frozen 2
  go_enter Try.func46, Try.ntmps46
  go_wp2
  refine ret_c1 (g := w.heap.size) (cs := mv 4607182418800017408 0 true (floatOfInt .f64 x) (floatOfInt .f64 y)) rfl hfs infoI rfl (bo3 B1) rfl ⟨rfl, gb3 g1 (Nat.le_refl _)⟩
theorem refLyingM (x y : Int) (hx : nearB x = true) (hy : nearB y = true) : May 4607182418800017408 0 true (floatOfInt .f64 x) (floatOfInt .f64 y) 4 x y := by
  have p := (part_may 4 (by decide)).1
  have h1 := of_decide_eq_true hx
  have h2 := of_decide_eq_true hy
  exact ⟨⟨p.lt, p.t1, p.t2, p.fl, is_fl (by omega), is_fl (by omega)⟩, hx, hy⟩

end Go.Proofs.Ytgiiaokkmnjckaa
