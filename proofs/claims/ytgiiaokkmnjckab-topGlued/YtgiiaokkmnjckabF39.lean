/- The maps of a glued grid in whole numbers: what they do; they keep the cell. -/
import Derived.Test.YtgiiaokkmnjckabF14
import Derived.Test.YtgiiaokkmnjckabF9
import Derived.Test.YtgiiaokkmnjckabF38
namespace Go.Proofs.Ytgiiaokkmnjckab
open Go.RowKit
open Fl
set_option linter.unusedVariables false
set_option linter.unusedSimpArgs false
set_option maxRecDepth 100000

/-- The maps of a glued grid. -/
def gluA (k x y t z : Int) : Nat × Int × Int := (if k = 4 ∨ k = 3 ∧ t = 2 then 4 else 0, x, if k = 4 then 2 * To.fi y + y - 1 else if k = 3 ∧ t = 2 then 2 * To.fi y + y - 1 + z else if k = 2 ∧ t = 2 then z else 0)
def gluB (k x y t z : Int) : Nat × Int × Int := (if k = 4 ∨ k = 3 ∧ t = 1 then 6 else 0, if k = 4 then 2 * To.fi x + x - 1 else if k = 3 ∧ t = 1 then 2 * To.fi x + x - 1 + z else if k = 2 ∧ t = 1 then z else 0, y)
def gluL (k x y t z : Int) : List (Nat × Int × Int) := (if 0 < x then [gluA k x y t z] else []) ++ (if 0 < y then [gluB k x y t z] else [])

theorem lb4 : back 4 = 4 := by decide
theorem lb6 : back 6 = 6 := by decide
theorem lb0 : back 0 = 0 := by decide
/-- What the map A does, there and back. -/
theorem actA (k x y t z : Int) (hk : k = 2 ∨ k = 3 ∨ k = 4) (a b : Int) : lx (gluA k x y t z).1 a b + (gluA k x y t z).2.1 = a + x ∧ ly (gluA k x y t z).1 a b + (gluA k x y t z).2.2 = Fo.gv k y t z (b - To.fi y) + To.fi y ∧
    lx (back (gluA k x y t z).1) a b + -(lx (back (gluA k x y t z).1) (gluA k x y t z).2.1 (gluA k x y t z).2.2) = a - x ∧ ly (back (gluA k x y t z).1) a b + -(ly (back (gluA k x y t z).1) (gluA k x y t z).2.1 (gluA k x y t z).2.2) = Fo.gw k y t z (b - To.fi y) + To.fi y := by
  unfold gluA Fo.gv Fo.gw
  rcases hk with rfl | rfl | rfl
  · by_cases h : t = 2
    · simp [h, lb0, (lt0 _ _).1, (lt0 _ _).2]; omega
    · simp [h, lb0, (lt0 _ _).1, (lt0 _ _).2]; omega
  · by_cases h : t = 2
    · simp [h, lb4, (lt4 _ _).1, (lt4 _ _).2]; omega
    · simp [h, lb0, (lt0 _ _).1, (lt0 _ _).2]; omega
  · simp [lb4, (lt4 _ _).1, (lt4 _ _).2]; omega
/-- What the map B does, there and back. -/
theorem actB (k x y t z : Int) (hk : k = 2 ∨ k = 3 ∨ k = 4) (a b : Int) : lx (gluB k x y t z).1 a b + (gluB k x y t z).2.1 = Fo.gv k x (3 - t) z (a - To.fi x) + To.fi x ∧ ly (gluB k x y t z).1 a b + (gluB k x y t z).2.2 = b + y ∧
    lx (back (gluB k x y t z).1) a b + -(lx (back (gluB k x y t z).1) (gluB k x y t z).2.1 (gluB k x y t z).2.2) = Fo.gw k x (3 - t) z (a - To.fi x) + To.fi x ∧ ly (back (gluB k x y t z).1) a b + -(ly (back (gluB k x y t z).1) (gluB k x y t z).2.1 (gluB k x y t z).2.2) = b - y := by
  unfold gluB Fo.gv Fo.gw
  rcases hk with rfl | rfl | rfl
  · by_cases h : t = 1
    · simp [h, lb0, (lt0 _ _).1, (lt0 _ _).2]; omega
    · have e : ¬ 3 - t = 2 := by omega
      simp [h, e, lb0, (lt0 _ _).1, (lt0 _ _).2]; omega
  · by_cases h : t = 1
    · simp [h, lb6, (lt6 _ _).1, (lt6 _ _).2]; omega
    · have e : ¬ 3 - t = 2 := by omega
      simp [h, e, lb0, (lt0 _ _).1, (lt0 _ _).2]; omega
  · simp [lb6, (lt6 _ _).1, (lt6 _ _).2]; omega
theorem ceX_gl {k x y t z a b : Int} (h : glB k = true) : ceX k x y t z a b = Fo.cx k x y t z (a - To.fi x) (b - To.fi y) + To.fi x := by unfold ceX; rw [h]; rfl
theorem ceY_gl {k x y t z a b : Int} (h : glB k = true) : ceY k x y t z a b = Fo.cy k x y t z (a - To.fi x) (b - To.fi y) + To.fi y := by unfold ceY; rw [h]; rfl
end Go.Proofs.Ytgiiaokkmnjckab
