/- Lists of cells in memory. -/
import Derived.Test.YtjacoifhjfipaaaMem
import Derived.Test.YtjacoifhjfipaaaBo
import Derived.Test.YtjacoifhjfipaaaProg
import Derived.RangeFuncNested
import Derived.RangeFuncBound
import Derived.RangeFuncCalls
import Derived.RangeFuncLeaves
import Derived.RangeFuncBox
import Derived.RangeFuncWrites
import Derived.Shelf.Abstract
import Derived.WalkKit
import Derived.OwnWalk
import Derived.OwnWalkIn
import Derived.TacticsInMore
import Derived.LoopNIn
import Derived.LoopIn
import Derived.Lib.Hide
import Derived.StillTailTactics
import Derived.Deep.RegionHeld2
import Derived.Laws.Small
import Derived.Lib.SmallJoins
import Derived.Deep.AppendLies
namespace Go.Proofs.Ytjacoifhjfipaaa
open Go.RowKit Go.Shelf
set_option linter.unusedVariables false
set_option linter.unusedSimpArgs false
attribute [local go_sem] Oper.semAt_some

theorem info_parts {P : Program} {t : TypeId} {z : Value} {a b : Nat} (h : (P.info? t).map (fun i => (i.zero, i.size, i.bytes)) = some (some z, a, b)) : ∃ i, P.info? t = some i ∧ i.zero = some z ∧ i.size = a ∧ i.bytes = b := by
  obtain ⟨i, h1, h2⟩ := Option.map_eq_some_iff.1 h
  simp only [Prod.mk.injEq] at h2
  exact ⟨i, h1, h2⟩
theorem new1 (w : World) (x : Value) (t : TypeId) : ∀ j u, [x][j]? = some u → (w.alloc (.cells #[x] t)).cell? ((⟨w.heap.size, 0, none⟩ : Addr).add j) = some u :=
  World.news_of_block (cs := #[x]) (heap_alloc_new w _)
theorem new3 (w : World) (x y z : Value) (t : TypeId) : ∀ j u, [x, y, z][j]? = some u → (w.alloc (.cells #[x, y, z] t)).cell? ((⟨w.heap.size, 0, none⟩ : Addr).add j) = some u :=
  World.news_of_block (cs := #[x, y, z]) (heap_alloc_new w _)
theorem gb_row {a b c : World} {r : Option Nat} (h : a.grownBy b none) (k : b.grownBy c r) (hr : ∀ i, r = some i → a.heap.size ≤ i) : a.grownBy c none :=
  ⟨k.os.trans h.os, k.tape.trans h.tape, k.output.trans h.output, Nat.le_trans h.size k.size, fun i hi hne => (k.block i (Nat.lt_of_lt_of_le hi h.size) (fun e => by have := hr i e.symm; omega)).trans (h.block i hi hne)⟩
theorem cells_own {W W' : World} {row : Option Nat} {g : Nat} {c : Array Value} {t : TypeId} {z : Nat × Nat} (h : W.heap[g]? = some (.cells c t z)) (hg : W.grownBy W' row) (hr : ∀ r, row = some r → ∃ o : Obj, W.heap[r]? = some o ∧ o.isCells = false) : W'.heap[g]? = some (.cells c t z) :=
  (hg.block g (Array.getElem?_eq_some_iff.1 h).1 (fun e => by
    obtain ⟨o, ho, hc⟩ := hr g e.symm
    rw [h] at ho; cases ho; cases hc)).trans h
theorem rows_own {W W' : World} {row : Option Nat} {base e size n : Nat} {v : Value} {xs : List Value} (h : W.ownsRow base e size v n xs) (hg : W.grownBy W' row) (hr : ∀ r, row = some r → ∃ o : Obj, W.heap[r]? = some o ∧ o.isCells = false) : W'.ownsRow base e size v n xs := by
  refine h.kept hg ?_
  rcases h.2 with ⟨rfl, _⟩ | ⟨g, cap, cur, rfl, _, hg', _⟩
  · exact .inl rfl
  · refine .inr (fun e => ?_)
    obtain ⟨o, ho, hc⟩ := hr g e.symm
    rw [hg'] at ho; cases ho; cases hc
/-- The one cell of a variable. -/
def B1 (w : World) (g : Nat) (t : TypeId) (x : Value) : Prop := w.heap[g]? = some (.cells #[x] t (0, 0))
theorem B1.lt {w : World} {g : Nat} {t : TypeId} {x : Value} (h : B1 w g t x) : g < w.heap.size := (Array.getElem?_eq_some_iff.1 h).1
theorem B1.kept {w w' : World} {g : Nat} {t : TypeId} {x : Value} {r : Option Nat} (h : B1 w g t x) (hg : w.grownBy w' r) (hne : some g ≠ r) : B1 w' g t x := (hg.block g h.lt hne).trans h
theorem B1.cell {w : World} {g : Nat} {t : TypeId} {x : Value} (h : B1 w g t x) : w.cell? ⟨g, 0, none⟩ = some x := by unfold B1 at h; simp [World.cell?, h]
theorem B1.free {w : World} {g : Nat} {t : TypeId} {x : Value} (h : B1 w g t x) : w.frozen? ⟨g, 0, none⟩ = false := by unfold B1 at h; simp [World.frozen?, h]
theorem B1.set {w : World} {g : Nat} {t : TypeId} {x : Value} (h : B1 w g t x) (y : Value) : B1 (w.setCell ⟨g, 0, none⟩ y) g t y := by unfold B1 at h ⊢; simp [World.setCell, Array.getElem?_modify, h]
theorem B1.ne {w : World} {b base n k t t' : Nat} {x : Value} {v : Value} {xs : List Value} (h : B1 w b t x) (ho : w.ownsRow base t' k v n xs) (ht : t ≠ t') : some b ≠ v.ownBlock := by
  rcases ho.2 with ⟨rfl, _⟩ | ⟨g, cap, cur, rfl, _, hg, _⟩
  · simp [Value.ownBlock]
  · intro e
    simp only [Value.ownBlock, Option.some.injEq] at e
    subst e
    rw [show w.heap[b]? = _ from h] at hg
    simp only [Option.some.injEq, Obj.cells.injEq] at hg
    exact ht hg.2.1
theorem own_set {w : World} {base e size n g o : Nat} {v x : Value} {xs : List Value} (h : w.ownsRow base e size v n xs) (hne : some g ≠ v.ownBlock) : (w.setCell ⟨g, o, none⟩ x).ownsRow base e size v n xs := by
  refine ⟨h.1, ?_⟩
  rcases h.2 with h0 | ⟨b, cap, cur, rfl, h1, h2, h3⟩
  · exact .inl h0
  · exact .inr ⟨b, cap, cur, rfl, h1, (Below.heap_setCell _ _ _ _ (fun e => hne (by simp [Value.ownBlock, e]))).trans h2, h3⟩
theorem rows_cells {W : World} {base e size n : Nat} {v : Value} {xs : List Value} (h : W.ownsRow base e size v n xs) (j : Nat) (o : Obj) (ej : v.ownBlock = some j) (ho : W.heap[j]? = some o) : o.isCells = true := by
  rcases h.2 with ⟨rfl, _⟩ | ⟨g, cap, cur, rfl, _, hg', _⟩
  · cases ej
  · cases ej
    rw [hg'] at ho; cases ho; rfl

theorem row_mono {w : World} {base base' e size n : Nat} {v : Value} {xs : List Value} (h : w.ownsRow base e size v n xs) (hb : base' ≤ base) : w.ownsRow base' e size v n xs := by
  refine ⟨h.1, ?_⟩
  rcases h.2 with h0 | ⟨g, cap, cur, hv, h1, h2⟩
  · exact .inl h0
  · exact .inr ⟨g, cap, cur, hv, Nat.le_trans hb h1, h2⟩

/-- A cell: X, Y, its state. -/
abbrev Cx := Int × Int × Nat
def cvs (c : Cx) : List Value := [.int .i64 c.1, .int .i64 c.2.1, .int .u8 (c.2.2 : Nat)]
def ccs (l : List Cx) : List Value := l.flatMap cvs
theorem ccs_snoc (l : List Cx) (c : Cx) : ccs (l ++ [c]) = ccs l ++ cvs c := by
  unfold ccs; rw [List.flatMap_append]; simp
theorem ccs_app (l k : List Cx) : ccs (l ++ k) = ccs l ++ ccs k := by unfold ccs; rw [List.flatMap_append]
theorem ccs_len : ∀ l : List Cx, (ccs l).length = l.length * 3
  | [] => rfl
  | c :: l => by
    have e : ccs (c :: l) = cvs c ++ ccs l := by unfold ccs; rw [List.flatMap_cons]
    rw [e, List.length_append, ccs_len l]
    simp only [cvs, List.length_cons, List.length_nil]; omega
theorem ccs_at (l : List Cx) : ∀ k (hk : k < l.length), (ccs l)[k * 3]? = some (.int .i64 l[k].1) ∧ (ccs l)[k * 3 + 1]? = some (.int .i64 l[k].2.1) ∧ (ccs l)[k * 3 + 2]? = some (.int .u8 (l[k].2.2 : Nat)) := by
  induction l with
  | nil => intro k hk; simp at hk
  | cons r l ih =>
    intro k hk
    have e : ccs (r :: l) = cvs r ++ ccs l := by unfold ccs; rw [List.flatMap_cons]
    rw [e]
    cases k with
    | zero => exact ⟨rfl, rfl, rfl⟩
    | succ k =>
      have := ih k (by simpa using hk)
      have e3 : (cvs r).length = 3 := rfl
      rw [List.getElem?_append_right (by rw [e3]; omega), List.getElem?_append_right (by rw [e3]; omega), List.getElem?_append_right (by rw [e3]; omega)]
      simp only [e3, List.getElem_cons_succ]
      rw [show (k + 1) * 3 - 3 = k * 3 by omega, show (k + 1) * 3 + 1 - 3 = k * 3 + 1 by omega, show (k + 1) * 3 + 2 - 3 = k * 3 + 2 by omega]
      exact this
/-- The cells l can be read from a slice. -/
def Ce (w : World) (sp : Option Addr) (l : List Cx) : Prop := ∀ k (hk : k < l.length), ∃ q o, sp = some ⟨q, o, none⟩ ∧ w.cell? ⟨q, o + k * 3, none⟩ = some (.int .i64 l[k].1) ∧ w.cell? ⟨q, o + k * 3 + 1, none⟩ = some (.int .i64 l[k].2.1) ∧ w.cell? ⟨q, o + k * 3 + 2, none⟩ = some (.int .u8 (l[k].2.2 : Nat))
theorem Ce.kept {w w' : World} {sp : Option Addr} {l : List Cx} {r : Option Nat} (h : Ce w sp l) (hg : w.grownBy w' r) (hne : ∀ a, sp = some a → some a.block ≠ r) : Ce w' sp l := fun k hk => by
  obtain ⟨q, o, rfl, h1, h2, h3⟩ := h k hk
  have hb : some q ≠ r := hne ⟨q, o, none⟩ rfl
  exact ⟨q, o, rfl, hg.cell h1 hb, hg.cell h2 hb, hg.cell h3 hb⟩
theorem Ce.nil (w : World) (sp : Option Addr) : Ce w sp [] := fun k hk => absurd hk (Nat.not_lt_zero _)
abbrev Own (w : World) (base : Nat) (v : Value) (l : List Cx) : Prop := w.ownsRow base 33 3 v l.length (ccs l)
theorem ce_of {w : World} {base : Nat} {v : Value} {l : List Cx} (h : Own w base v l) : ∃ sp cap, v = .slice sp l.length cap ∧ Ce w sp l ∧ (∀ a, sp = some a → v.ownBlock = some a.block ∧ a.block < w.heap.size ∧ base ≤ a.block) := by
  rcases h.2 with ⟨rfl, h0⟩ | ⟨g, cap, cur, rfl, hb, hg, _⟩
  · refine ⟨none, 0, by rw [h0], fun k hk => by omega, fun a e => by cases e⟩
  · refine ⟨_, cap, rfl, fun k hk => ?_, fun a e => by cases e; exact ⟨rfl, (h.lt g rfl).2, hb⟩⟩
    obtain ⟨h1, h2, h3⟩ := ccs_at l k hk
    have hc := h.cells (g := g) rfl
    have e : ∀ j, (⟨g, 0, none⟩ : Addr).add j = ⟨g, j, none⟩ := fun j => by rw [add_mid, Nat.zero_add]
    refine ⟨g, 0, rfl, ?_, ?_, ?_⟩
    · rw [Nat.zero_add, ← e]; exact hc _ _ h1
    · rw [Nat.zero_add, ← e]; exact hc _ _ h2
    · rw [Nat.zero_add, ← e]; exact hc _ _ h3
theorem infoCx : (Try.prog.info? 33).map (fun i => (i.zero, i.size, i.bytes)) = some (some (.agg #[.int .i64 0, .int .i64 0, .int .u8 0]), 3, 24) := by kernel_rfl
theorem underCS : Try.prog.underlying 24 = some (.slice 33) := by kernel_rfl
end Go.Proofs.Ytjacoifhjfipaaa
