/- Small facts on boxes. -/
import Derived.Test.YthjiiljglgmkpaaGreatDoorProg
import Derived.Test.YthjiiljglgmkpaaGreatDoorBo
import Derived.WalkLawsBesides
import Derived.Deep.QuietTactic
import Derived.Deep.RegionWith
import Derived.Deep.RegionHeld2
namespace Go.Proofs.YthjiiljglgmkpaaGreatDoor
open Go.RowKit
set_option linter.unusedVariables false
theorem ret_a1 {P : Program} {fn : Func} {R : Ending → World → Prop} {a : Act} {w : World} {p : Tmp} {ty : TypeId} (h : fn.results = #[.cell p ty]) {g : Nat} {t : TypeId} {cs : Array Value} {el : TypeId} {n : Nat}
    (hu : P.underlying ty = some (.array n el)) (hi : (P.info? ty).map (·.size) = some cs.size) (hp : a.tmps.getD p undef = .pointer (some ⟨g, 0, none⟩)) (hg : Bo w g t cs) (hdf : a.defers = []) (hR : R (.returned (.agg cs)) w) :
    bodyPost P fn R .ret a w :=
  bodyPost_ret (results_cell_row h a.tmps w g t cs (0, 0) (.array n el) hp hg hu rfl hi) hdf hR
theorem underP : ∃ fs, Tryz.prog.underlying 135 = some (.struct fs) := by
  first | exact ⟨_, Tryz.underlying135⟩ | exact ⟨_, by kernel_rfl⟩
theorem infoP : (Tryz.prog.info? 135).map (·.size) = some 2 := by kernel_rfl
theorem bo2 {w : World} {g : Nat} {t : TypeId} {x y u v : Value} (h : Bo w g t #[x, y]) : Bo ((w.setCell ⟨g, 0, none⟩ u).setCell ⟨g, 1, none⟩ v) g t #[u, v] := (h.set 0 u).set 1 v
theorem gb2 {w w' : World} (h : w.grownBy w' none) {b : Nat} (hb : w.heap.size ≤ b) {u v : Value} : w.grownBy ((w'.setCell ⟨b, 0, none⟩ u).setCell ⟨b, 1, none⟩ v) none := gb_new (gb_new h hb _) hb _
theorem Bo.same {w : World} {g : Nat} {t : TypeId} {cs : Array Value} (h : Bo w g t cs) (i : Nat) {v : Value} (hi : cs[i]? = some v) : w.setCell ⟨g, i, none⟩ v = w := by
  have hcs : cs.setIfInBounds i v = cs := by
    obtain ⟨h1, h2⟩ := Array.getElem?_eq_some_iff.1 hi
    subst h2
    apply Array.ext
    · simp
    · intro j h3 h4
      rw [Array.getElem_setIfInBounds]
      split
      · subst_vars; rfl
      · rfl
  have h2 := h.set i v
  rw [hcs] at h2
  have hh : (w.setCell ⟨g, i, none⟩ v).heap = w.heap := by
    apply Array.ext_getElem?
    intro j
    by_cases hj : j = g
    · subst hj; rw [show (w.setCell ⟨j, i, none⟩ v).heap[j]? = _ from h2, show w.heap[j]? = _ from h]
    · simp [World.setCell, Array.getElem?_modify, Ne.symm hj]
  show { w with heap := _ } = w
  exact congrArg (fun x => { w with heap := x }) hh
end Go.Proofs.YthjiiljglgmkpaaGreatDoor
