/- Boxes of cells in memory: what a call's own box holds, what a call leaves, results that lie in a box. Nothing of the program in it. -/
import Derived.Test.YtjacoifhjfipaaaMem
namespace Go.Proofs.Ytjacoifhjfipaaa
open Go.RowKit
set_option linter.unusedVariables false

/-- A box of cells. -/
def Bo (w : World) (g : Nat) (t : TypeId) (cs : Array Value) : Prop := w.heap[g]? = some (.cells cs t (0, 0))
theorem Bo.new (w : World) (t : TypeId) (cs : Array Value) : Bo (w.alloc (.cells cs t)) w.heap.size t cs := heap_alloc_new w _
theorem Bo.lt {w : World} {g : Nat} {t : TypeId} {cs : Array Value} (h : Bo w g t cs) : g < w.heap.size := (Array.getElem?_eq_some_iff.1 h).1
theorem Bo.kept {w w' : World} {g : Nat} {t : TypeId} {cs : Array Value} {r : Option Nat} (h : Bo w g t cs) (hg : w.grownBy w' r) (hne : some g ≠ r) : Bo w' g t cs := (hg.block g h.lt hne).trans h
theorem Bo.cell {w : World} {g : Nat} {t : TypeId} {cs : Array Value} (h : Bo w g t cs) (i : Nat) {v : Value} (hi : cs[i]? = some v) : w.cell? ⟨g, i, none⟩ = some v := by unfold Bo at h; simp [World.cell?, h, hi]
theorem Bo.frozen {w : World} {g : Nat} {t : TypeId} {cs : Array Value} (h : Bo w g t cs) (i : Nat) : w.frozen? ⟨g, i, none⟩ = false := by unfold Bo at h; simp [World.frozen?, h]
theorem Bo.set {w : World} {g : Nat} {t : TypeId} {cs : Array Value} (h : Bo w g t cs) (i : Nat) (v : Value) : Bo (w.setCell ⟨g, i, none⟩ v) g t (cs.setIfInBounds i v) := by
  unfold Bo at h ⊢
  simp [World.setCell, Array.getElem?_modify, h]
theorem Bo.drew {w : World} {g : Nat} {t : TypeId} {cs : Array Value} {k : Nat} (h : Bo w g t cs) : Bo (w.drewN k) g t cs := h
theorem Bo.dr {w : World} {g : Nat} {t : TypeId} {cs : Array Value} (h : Bo w g t cs) : Bo w.drew g t cs := h
theorem ret_c1 {P : Program} {fn : Func} {R : Ending → World → Prop} {a : Act} {w : World} {p : Tmp} {ty : TypeId} (h : fn.results = #[.cell p ty]) {g : Nat} {t : TypeId} {cs : Array Value} {fs : Array Field}
    (hu : P.underlying ty = some (.struct fs)) (hi : (P.info? ty).map (·.size) = some cs.size) (hp : a.tmps.getD p undef = .pointer (some ⟨g, 0, none⟩)) (hg : Bo w g t cs) (hdf : a.defers = []) (hR : R (.returned (.agg cs)) w) :
    bodyPost P fn R .ret a w :=
  bodyPost_ret (results_cell_row h a.tmps w g t cs (0, 0) (.struct fs) hp hg hu rfl hi) hdf hR
theorem ret_c2 {P : Program} {fn : Func} {R : Ending → World → Prop} {a : Act} {w : World} {p u : Tmp} {ty : TypeId} (h : fn.results = #[.cell p ty, .tmp u]) {g : Nat} {t : TypeId} {cs : Array Value} {fs : Array Field}
    (hu : P.underlying ty = some (.struct fs)) (hi : (P.info? ty).map (·.size) = some cs.size) (hp : a.tmps.getD p undef = .pointer (some ⟨g, 0, none⟩)) (hg : Bo w g t cs) (hdf : a.defers = []) (hR : R (.returned (.tuple #[.agg cs, a.tmps.getD u undef])) w) :
    bodyPost P fn R .ret a w := by
  refine bodyPost_ret ?_ hdf hR
  have hp' : a.tmps[p]?.getD undef = .pointer (some ⟨g, 0, none⟩) := by simpa using hp
  simp [results, h, hp', asAddr, run_loadVar_row w g t ty cs (0, 0) (.struct fs) hg hu rfl hi]
theorem ret_a2 {P : Program} {fn : Func} {R : Ending → World → Prop} {a : Act} {w : World} {p u : Tmp} {ty : TypeId} (h : fn.results = #[.cell p ty, .tmp u]) {g : Nat} {t : TypeId} {cs : Array Value} {el : TypeId} {n : Nat}
    (hu : P.underlying ty = some (.array n el)) (hi : (P.info? ty).map (·.size) = some cs.size) (hp : a.tmps.getD p undef = .pointer (some ⟨g, 0, none⟩)) (hg : Bo w g t cs) (hdf : a.defers = []) (hR : R (.returned (.tuple #[.agg cs, a.tmps.getD u undef])) w) :
    bodyPost P fn R .ret a w := by
  refine bodyPost_ret ?_ hdf hR
  have hp' : a.tmps[p]?.getD undef = .pointer (some ⟨g, 0, none⟩) := by simpa using hp
  simp [results, h, hp', asAddr, run_loadVar_row w g t ty cs (0, 0) (.array n el) hg hu rfl hi]
theorem ret_c3 {P : Program} {fn : Func} {R : Ending → World → Prop} {a : Act} {w : World} {p u v : Tmp} {ty : TypeId} (h : fn.results = #[.cell p ty, .tmp u, .tmp v]) {g : Nat} {t : TypeId} {cs : Array Value} {fs : Array Field}
    (hu : P.underlying ty = some (.struct fs)) (hi : (P.info? ty).map (·.size) = some cs.size) (hp : a.tmps.getD p undef = .pointer (some ⟨g, 0, none⟩)) (hg : Bo w g t cs) (hdf : a.defers = []) (hR : R (.returned (.tuple #[.agg cs, a.tmps.getD u undef, a.tmps.getD v undef])) w) :
    bodyPost P fn R .ret a w := by
  refine bodyPost_ret ?_ hdf hR
  have hp' : a.tmps[p]?.getD undef = .pointer (some ⟨g, 0, none⟩) := by simpa using hp
  simp [results, h, hp', asAddr, run_loadVar_row w g t ty cs (0, 0) (.struct fs) hg hu rfl hi]
theorem boxn (w : World) (cs : Array Value) (t : TypeId) : ∃ W1, w.alloc (.cells cs t) = W1 ∧ Hid (W1.heap.size = w.heap.size + 1) ∧ w.grownBy W1 none ∧ Bo W1 w.heap.size t cs :=
  ⟨_, rfl, by unfold Hid; simp, World.grownBy_alloc _ _ _, Bo.new _ _ _⟩
theorem Bo.set2 {w : World} {g : Nat} {t : TypeId} {cs : Array Value} (h : Bo w g t cs) {b i : Nat} {v : Value} (hb : b ≠ g) : Bo (w.setCell ⟨b, i, none⟩ v) g t cs := by
  unfold Bo at h ⊢
  simp [World.setCell, Array.getElem?_modify, h, hb]
theorem Bo.more {w : World} {g : Nat} {t : TypeId} {cs : Array Value} (h : Bo w g t cs) (o : Obj) : Bo (w.alloc o) g t cs := h.kept (World.grownBy_alloc _ _ none) (by simp)
theorem gb_own' {w w' : World} {r : Option Nat} (h : w.grownBy w' r) {b i : Nat} (hb : w.heap.size ≤ b) (v : Value) : w.grownBy (w'.setCell ⟨b, i, none⟩ v) r := gb_new h hb v
end Go.Proofs.Ytjacoifhjfipaaa
