/- A text that is written on, its row made by '[]byte(s)'. -/
import Derived.Test.YteaionmjbkildabDoorQm
import Derived.Test.YteaionmjbkildabDoorQ24
namespace Go.Proofs.YteaionmjbkildabDoor
open Go.RowKit Go.Lib
set_option linter.unusedVariables false
set_option linter.unusedSimpArgs false
set_option maxRecDepth 100000

structure Tm (B : Nat) (w0 w : World) (v : Value) (l : List UInt8) : Prop where
  own : ownsM w B 5 v (byteCells l)
  below : Below B w0 w
  kept : OthersKept 5 none w0 w
theorem byteCells_len (l : List UInt8) : (byteCells l).length = l.length := by simp [byteCells]
theorem byteCells_app (l m : List UInt8) : byteCells (l ++ m) = byteCells l ++ byteCells m := by simp [byteCells]
theorem str_cells (l : List UInt8) : strCells ⟨l.toArray⟩ = byteCells l := by simp [strCells, byteCells]
theorem Tm.bo {B : Nat} {w0 w : World} {v : Value} {l : List UInt8} (h : Tm B w0 w v l) {g : Nat} {t : TypeId} {cs : Array Value} (b : Bo w0 g t cs) (ht : t ≠ 5) : Bo w g t cs :=
  h.kept g _ b (by simp) (fun c fz e => by injection e with _ e2; exact ht e2)
theorem Tm.form {B : Nat} {w0 w : World} {v : Value} {l : List UInt8} (h : Tm B w0 w v l) : ∃ g cap, v = .slice (some ⟨g, 0, none⟩) l.length cap := by
  obtain ⟨g, cap, cur, fz, e, _⟩ := h.own
  exact ⟨g, cap, by rw [e, byteCells_len]⟩
/-- Behind an append of bytes that lie in a new block. -/
theorem Tm.app {B : Nat} {w0 w w' : World} {v v' : Value} {l m : List UInt8} {o : Obj} (h : Tm B w0 w v l) (hB : B ≤ w.heap.size) (own' : ownsM w' B 5 v' (byteCells l ++ byteCells m)) (g : (w.alloc o).grownBy w' v.ownBlock) : Tm B w0 w' v' (l ++ m) :=
  ⟨by rw [byteCells_app]; exact own', (h.below.alloc (by have := h.below.size; omega) o).grown g (by have := h.below.size; simp; omega) (fun k hk => (h.own.lt k hk).1), (h.kept.alloc o).grown g (fun k hk => by
    obtain ⟨c, fz, hc⟩ := h.own.row k hk
    exact ⟨c, fz, (alloc_old w o k (Array.getElem?_eq_some_iff.1 hc).1).trans hc⟩)⟩
theorem Tm.str {B : Nat} {w0 w w' : World} {v v' : Value} {l m : List UInt8} (h : Tm B w0 w v l) (hB : B ≤ w.heap.size) (own' : ownsM w' B 5 v' (byteCells l ++ strCells ⟨m.toArray⟩)) (g : w.grownBy w' v.ownBlock) : Tm B w0 w' v' (l ++ m) :=
  ⟨by rw [byteCells_app, ← str_cells m]; exact own', h.below.grown g hB (fun k hk => (h.own.lt k hk).1), h.kept.grown g h.own.row⟩
/-- Behind what leaves all as it was. -/
theorem Tm.gb {B : Nat} {w0 w w' : World} {v : Value} {l : List UInt8} (h : Tm B w0 w v l) (hB : B ≤ w.heap.size) (g : w.grownBy w' none) : Tm B w0 w' v l :=
  ⟨h.own.kept g (fun e => by obtain ⟨g', cap, cur, fz, rfl, _⟩ := h.own; simp [Value.ownBlock] at e), h.below.grown g hB (by simp), h.kept.grown g (by simp)⟩
theorem Tm.alloc {B : Nat} {w0 w : World} {v : Value} {l : List UInt8} (h : Tm B w0 w v l) (hB : B ≤ w.heap.size) (o : Obj) : Tm B w0 (w.alloc o) v l := ⟨h.own.alloc o, h.below.alloc (by have := h.below.size; omega) o, h.kept.alloc o⟩
/-- '[]byte(s)'. -/
theorem Tm.made {B : Nat} {w0 w : World} (h : w0.grownBy w none) (hB : B ≤ w0.heap.size) (l : List UInt8) (hl : l.length ≤ 4194304) : Tm B w0 (bytesWorld w 5 ⟨l.toArray⟩) (.slice (some ⟨w.heap.size, 0, none⟩) l.length (grownCap w l.length 0 5)) l := by
  obtain ⟨ho, hg⟩ := made_ownsM w 5 ⟨l.toArray⟩ B (Nat.le_trans hB h.size) (by show l.toArray.size ≤ _; rw [List.size_toArray]; unfold maxLen; omega)
  rw [str_cells] at ho
  have e : (⟨l.toArray⟩ : ByteArray).size = l.length := by show l.toArray.size = _; simp
  rw [e] at ho
  have G := gb_trans h hg
  exact ⟨ho, (Below.refl B w0).grown G hB (by simp), (OthersKept.refl _ _ _).grown G (by simp)⟩
theorem convB (w : World) (l : List UInt8) : (convert 9 44 (.string ⟨l.toArray⟩)).run Tryd.prog w = .ok (.slice (some ⟨w.heap.size, 0, none⟩) l.length (grownCap w l.length 0 5)) (bytesWorld w 5 ⟨l.toArray⟩) := by
  have h := Lib.run_convert_string_bytes (P := Tryd.prog) w 9 44 5 ⟨l.toArray⟩ underSt under8S under8
  have e : (⟨l.toArray⟩ : ByteArray).size = l.length := by show l.toArray.size = _; simp
  rw [e] at h
  exact h
theorem addS (l m : List UInt8) (h : l.length + m.length ≤ 4194304) (w : World) : (Op.stringOp .add ⟨l.toArray⟩ ⟨m.toArray⟩).run Tryd.prog w = .ok (.string ⟨(l ++ m).toArray⟩) w := by
  have := run_string_add_sum (P := Tryd.prog) w (⟨l.toArray⟩ : ByteArray) ⟨m.toArray⟩ (by show l.toArray.size + m.toArray.size ≤ _; simp; omega)
  rw [this]
  congr 2
end Go.Proofs.YteaionmjbkildabDoor
