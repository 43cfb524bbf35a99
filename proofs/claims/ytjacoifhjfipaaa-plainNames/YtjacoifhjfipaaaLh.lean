/- Plain facts on pieces of texts; blocks that stay. -/
import Derived.Test.YtjacoifhjfipaaaSc
import Derived.Test.YtjacoifhjfipaaaCl
import Derived.Test.YtjacoifhjfipaaaShelf
import Derived.RangeFuncNested
import Derived.Deep.QuietTactic
import Derived.BigQuiet
import Derived.WalkSmall
namespace Go.Proofs.Ytjacoifhjfipaaa
open Go.RowKit Go.Shelf
set_option linter.unusedVariables false
set_option linter.unusedSimpArgs false

theorem ext_all (d : ByteArray) : d.extract 0 d.size = d := by
  refine Sc.ext ?_ fun i hi => ?_
  · rw [Sc.size_ext d (Nat.le_refl _)]; omega
  · rw [Sc.size_ext d (Nat.le_refl _)] at hi
    rw [Sc.bt_ext d (Nat.le_refl _) (by omega)]
    congr 1; omega

theorem list_ext (s : ByteArray) (a b : Nat) : (s.extract a b).data.toList = (s.data.toList.drop a).take (b - a) := by
  rw [ByteArray.data_extract, Array.toList_extract]
theorem ext_head (s : ByteArray) {i k : Nat} (h : i + k ≤ s.size) : (s.extract i s.size).extract 0 k = s.extract i (i + k) := by
  have e0 := Sc.size_ext s (a := i) (Nat.le_refl s.size)
  have e2 := Sc.size_ext s (a := i) h
  refine Sc.ext ?_ fun j hj => ?_
  · rw [Sc.size_ext _ (by rw [e0]; omega), e2]; omega
  · rw [Sc.size_ext _ (by rw [e0]; omega)] at hj
    rw [Sc.bt_ext _ (by rw [e0]; omega) (by omega), Sc.bt_ext _ (Nat.le_refl _) (by omega), Sc.bt_ext _ h (by omega)]
    congr 1; omega
def Kb (b : Nat) (A B : World) : Prop := B.heap[b]? = A.heap[b]?
theorem Kb.refl (b : Nat) (A : World) : Kb b A A := rfl
theorem Kb.trans {b : Nat} {A B C : World} (h : Kb b A B) (k : Kb b B C) : Kb b A C := Eq.trans k h
theorem Kb.cell {b o : Nat} {A B : World} (h : Kb b A B) : B.cell? ⟨b, o, none⟩ = A.cell? ⟨b, o, none⟩ := World.cell?_of_block h
theorem Kb.put {b : Nat} {w : World} (hb : b < w.heap.size) (W : World) (l : Nat) (o o' : Obj) (hl : w.heap.size ≤ l) (h : W.heap[l]? = some o) (_ : o.isCells = false) (_ : o.isWalk = false) : Kb b W (W.putObj l o') :=
  World.putObj_heap_other (by omega)
theorem Kb.of {b : Nat} {W W' : World} {r : Option Nat} (hg : W.grownBy W' r) (hb : b < W.heap.size) (hne : some b ≠ r) : Kb b W W' := hg.block b hb hne

end Go.Proofs.Ytjacoifhjfipaaa
