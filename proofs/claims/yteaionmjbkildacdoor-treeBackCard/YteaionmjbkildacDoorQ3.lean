/- TreeNone, where alive says yes. -/
import Derived.Test.YteaionmjbkildacDoorQ2
import Derived.LoopN
namespace Go.Proofs.YteaionmjbkildacDoor
open Go.RowKit
set_option linter.unusedVariables false
set_option linter.unusedSimpArgs false
set_option maxRecDepth 100000

theorem Bo.same {w : World} {g : Nat} {t : TypeId} {cs : Array Value} (h : Bo w g t cs) (i : Nat) {v : Value} (hi : cs[i]? = some v) : w.setCell ⟨g, i, none⟩ v = w := by
  have hcs : cs.setIfInBounds i v = cs := by
    obtain ⟨h1, h2⟩ := Array.getElem?_eq_some_iff.1 hi
    subst h2
    apply Array.ext
    · simp
    · intro j h3 h4
      rw [Array.getElem_setIfInBounds]
      split
      · subst_vars; rfl
      · rfl
  have h2 := h.set i v
  rw [hcs] at h2
  have hh : (w.setCell ⟨g, i, none⟩ v).heap = w.heap := by
    apply Array.ext_getElem?
    intro j
    by_cases hj : j = g
    · subst hj; rw [show (w.setCell ⟨j, i, none⟩ v).heap[j]? = _ from h2, show w.heap[j]? = _ from h]
    · simp [World.setCell, Array.getElem?_modify, Ne.symm hj]
  show { w with heap := _ } = w
  exact congrArg (fun x => { w with heap := x }) hh

end Go.Proofs.YteaionmjbkildacDoor
