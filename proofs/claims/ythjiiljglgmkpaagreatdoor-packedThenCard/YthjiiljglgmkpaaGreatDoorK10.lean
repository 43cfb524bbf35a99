/- alive. -/
import Derived.Test.YthjiiljglgmkpaaGreatDoorKc
import Derived.Test.YthjiiljglgmkpaaGreatDoorZc
namespace Go.Proofs.YthjiiljglgmkpaaGreatDoor
open Go.RowKit
set_option linter.unusedVariables false
set_option linter.unusedSimpArgs false
set_option maxRecDepth 100000

theorem Fb.keptX {w w' : World} {b s q C R S : Nat} {g : Nat → Nat} {r : Option Nat} (h : Fb w b s q C R S g) (hg : w.grownBy w' r) (hr : ∀ i, r = some i → b ≠ i ∧ s ≠ i ∧ q ≠ i) : Fb w' b s q C R S g := by
  refine ⟨h.fld.kept hg (fun e => (hr _ e.symm).1 rfl), ?_⟩
  obtain ⟨K, k1, k2, f0, k3, k4⟩ := h.st.cap
  exact ⟨K, k1.kept hg (fun e => (hr _ e.symm).2.1 rfl), k2, f0, rowIs_kept k3 hg (fun e => (hr _ e.symm).2.2 rfl), k4⟩
theorem Fb.qlt {w : World} {b s q C R S : Nat} {g : Nat → Nat} (h : Fb w b s q C R S g) : b < w.heap.size ∧ s < w.heap.size ∧ q < w.heap.size := by
  obtain ⟨K, k1, k2, f0, ⟨c, hc, _⟩, k4⟩ := h.st.cap
  exact ⟨h.fld.lt, k1.lt, (Array.getElem?_eq_some_iff.1 hc).1⟩
/-- A field of bytes, by what its calls answer. -/
theorem Fb.fdm {b s q C R S : Nat} {g : Nat → Nat} (hz : Sz C R S) (n0 : Nat) (hn : b < n0 ∧ s < n0 ∧ q < n0) : FdM (fun X => Fb X b s q C R S g) n0 b C R S g :=
  ⟨fun X Y r h hg hr => h.keptX hg (fun i e => by have := hr i e; omega), fun X h => fW b s q C R S g X h, fun X h => fH b s q C R S g X h, fun X h => fStates b s q C R S g X h, fun y hy X h => fLineY b s q C R S g hz y hy X h⟩
theorem By.congr {w : World} {sp : Option Addr} {n : Nat} {f f' : Nat → Nat} (h : By w sp n f) (e : ∀ k, k < n → f k = f' k) : By w sp n f' := fun k hk => by
  rw [← e k hk]; exact h k hk
/-- A list of bytes as a function. -/
def lsF (l : List Nat) (k : Nat) : Nat := l.getD k 0
theorem lsF_lt (l : List Nat) (h : l.all (fun x => decide (x < 256)) = true) (k : Nat) : lsF l k < 256 := by
  unfold lsF
  rw [List.getD_eq_getElem?_getD]
  cases hk : l[k]? with
  | none => simp
  | some x =>
    have := List.all_eq_true.1 h x (List.mem_of_getElem? hk)
    simpa using this
theorem by_list (w : World) (l : List Nat) : By (w.alloc (.cells ((l.map fun x => Value.int .u8 (x : Nat)).toArray) 5)) (some ⟨w.heap.size, 0, none⟩) l.length (lsF l) := fun k hk => ⟨_, rfl, by
  have B := Bo.new w 5 ((l.map fun x => Value.int .u8 (x : Nat)).toArray)
  rw [add_mid, Nat.zero_add]
  refine B.cell k ?_
  unfold lsF
  simp [hk]⟩
theorem rowIs_by {w : World} {d n : Nat} {f : Nat → Nat} (h : w.rowIs d 5 n (fun x => .int .u8 (f x : Nat))) : By w (some ⟨d, 0, none⟩) n f := fun k hk => ⟨_, rfl, by rw [add_mid, Nat.zero_add]; exact h.cell hk⟩
end Go.Proofs.YthjiiljglgmkpaaGreatDoor
