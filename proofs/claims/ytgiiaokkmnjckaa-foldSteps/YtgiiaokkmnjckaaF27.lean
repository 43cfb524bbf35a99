/- A step within a tile, for the cells: the reckoning at the end of FoldSteps. -/
import Derived.Test.YtgiiaokkmnjckaaF25
namespace Go.Proofs.Ytgiiaokkmnjckaa
open Go.RowKit
open Fl
set_option linter.unusedVariables false
set_option linter.unusedSimpArgs false
set_option maxRecDepth 100000

theorem l_pt (k t i j X Y : Int) : lx (Fo.pt k t i j) X Y = (if Fo.ov k t j then -X else X) ∧ ly (Fo.pt k t i j) X Y = (if Fo.ov k (3 - t) i then -Y else Y) := by
  unfold Fo.pt
  cases Fo.ov k t j <;> cases Fo.ov k (3 - t) i
  · exact lt0 X Y
  · exact lt4 X Y
  · exact lt6 X Y
  · exact lt2 X Y
/-- What the statement asks of a difference: nought, or a whole number of sides. -/
def offB (d n : Int) : Bool := (d == 0) || (decide (0 < n) && (d.tmod n == 0))
theorem off_of {d n q : Int} (h0 : 0 ≤ n) (h : d = n * q) : offB d n = true := by
  unfold offB
  by_cases hn : n = 0
  · rw [hn, Int.zero_mul] at h
    rw [h]; rfl
  · have h1 : 0 < n := by omega
    rw [decide_eq_true h1, h, Int.mul_tmod_right]
    simp
theorem steps_x {k x y t : Int} (z : Int) {u v u2 v2 : Int} (h : Fo.Gl k x y t) (hx : 0 ≤ x) (hj : Nm.divZ v2 y = Nm.divZ v y) (f : Int) : offB (Fo.cx k x y t z u2 v2 + f - (Fo.cx k x y t z u v + f) - (lx (Fo.pt k t (Nm.divZ u x) (Nm.divZ v y)) (u2 - u) (v2 - v) + 0)) x = true := by
  obtain ⟨q, e⟩ := Fo.step_x z (u := u) (u2 := u2) h hj
  refine off_of hx (q := q) ?_
  rw [(l_pt k t _ _ _ _).1]
  omega
theorem steps_y {k x y t : Int} (z : Int) {u v u2 v2 : Int} (h : Fo.Gl k x y t) (hy : 0 ≤ y) (hi : Nm.divZ u2 x = Nm.divZ u x) (f : Int) : offB (Fo.cy k x y t z u2 v2 + f - (Fo.cy k x y t z u v + f) - (ly (Fo.pt k t (Nm.divZ u x) (Nm.divZ v y)) (u2 - u) (v2 - v) + 0)) y = true := by
  obtain ⟨q, e⟩ := Fo.step_y z (v := v) (v2 := v2) h hi
  refine off_of hy (q := q) ?_
  rw [(l_pt k t _ _ _ _).2]
  omega
end Go.Proofs.Ytgiiaokkmnjckaa
