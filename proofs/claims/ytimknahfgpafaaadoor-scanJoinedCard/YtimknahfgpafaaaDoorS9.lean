/- Fields of package scan: what it answers. -/
import Derived.Test.YtimknahfgpafaaaDoorS8
namespace Go.Proofs.YtimknahfgpafaaaDoor
open Go.RowKit Go.Shelf
set_option linter.unusedVariables false
set_option linter.unusedSimpArgs false
attribute [local go_sem] Oper.semAt_some

/-- Pieces' cells. -/
def scs (s : ByteArray) (l : List (Nat × Nat)) : List Value := l.flatMap fun x => [.int .i64 (x.1 : Nat), .string (s.extract x.1 x.2)]
theorem scs_snoc (s : ByteArray) (l : List (Nat × Nat)) (x : Nat × Nat) : scs s (l ++ [x]) = scs s l ++ [.int .i64 (x.1 : Nat), .string (s.extract x.1 x.2)] := by
  unfold scs; rw [List.flatMap_append]; rfl
theorem infoSp : (Tryd.prog.info? 28).map (fun i => (i.zero, i.size, i.bytes)) = some (some (.agg #[.int .i64 0, .string ⟨#[]⟩]), 2, 24) := by kernel_rfl
theorem underSpS : Tryd.prog.underlying 24 = some (.slice 28) := by kernel_rfl
theorem new2 (w : World) (x y : Value) (t : TypeId) : ∀ j u, [x, y][j]? = some u → (w.alloc (.cells #[x, y] t)).cell? ((⟨w.heap.size, 0, none⟩ : Addr).add j) = some u :=
  World.news_of_block (cs := #[x, y]) (heap_alloc_new w _)
theorem cells_own {W W' : World} {row : Option Nat} {g : Nat} {c : Array Value} {t : TypeId} {z : Nat × Nat} (h : W.heap[g]? = some (.cells c t z)) (hg : W.grownBy W' row) (hr : ∀ r, row = some r → ∃ o : Obj, W.heap[r]? = some o ∧ o.isCells = false) : W'.heap[g]? = some (.cells c t z) :=
  (hg.block g (Array.getElem?_eq_some_iff.1 h).1 (fun e => by
    obtain ⟨o, ho, hc⟩ := hr g e.symm
    rw [h] at ho; cases ho; cases hc)).trans h
theorem rows_own {W W' : World} {row : Option Nat} {base e size n : Nat} {v : Value} {xs : List Value} (h : W.ownsRow base e size v n xs) (hg : W.grownBy W' row) (hr : ∀ r, row = some r → ∃ o : Obj, W.heap[r]? = some o ∧ o.isCells = false) : W'.ownsRow base e size v n xs := by
  refine h.kept hg ?_
  rcases h.2 with ⟨rfl, _⟩ | ⟨g, cap, cur, rfl, _, hg', _⟩
  · exact .inl rfl
  · refine .inr (fun e => ?_)
    obtain ⟨o, ho, hc⟩ := hr g e.symm
    rw [hg'] at ho; cases ho; cases hc
/-- The one cell of a variable. -/
def B1 (w : World) (g : Nat) (t : TypeId) (x : Value) : Prop := w.heap[g]? = some (.cells #[x] t (0, 0))
theorem B1.lt {w : World} {g : Nat} {t : TypeId} {x : Value} (h : B1 w g t x) : g < w.heap.size := (Array.getElem?_eq_some_iff.1 h).1
theorem B1.kept {w w' : World} {g : Nat} {t : TypeId} {x : Value} {r : Option Nat} (h : B1 w g t x) (hg : w.grownBy w' r) (hne : some g ≠ r) : B1 w' g t x := (hg.block g h.lt hne).trans h
theorem B1.cell {w : World} {g : Nat} {t : TypeId} {x : Value} (h : B1 w g t x) : w.cell? ⟨g, 0, none⟩ = some x := by unfold B1 at h; simp [World.cell?, h]
theorem B1.free {w : World} {g : Nat} {t : TypeId} {x : Value} (h : B1 w g t x) : w.frozen? ⟨g, 0, none⟩ = false := by unfold B1 at h; simp [World.frozen?, h]
theorem B1.set {w : World} {g : Nat} {t : TypeId} {x : Value} (h : B1 w g t x) (y : Value) : B1 (w.setCell ⟨g, 0, none⟩ y) g t y := by unfold B1 at h ⊢; simp [World.setCell, Array.getElem?_modify, h]
theorem B1.ne {w : World} {b base n k t t' : Nat} {x : Value} {v : Value} {xs : List Value} (h : B1 w b t x) (ho : w.ownsRow base t' k v n xs) (ht : t ≠ t') : some b ≠ v.ownBlock := by
  rcases ho.2 with ⟨rfl, _⟩ | ⟨g, cap, cur, rfl, _, hg, _⟩
  · simp [Value.ownBlock]
  · intro e
    simp only [Value.ownBlock, Option.some.injEq] at e
    subst e
    rw [show w.heap[b]? = _ from h] at hg
    simp only [Option.some.injEq, Obj.cells.injEq] at hg
    exact ht hg.2.1
theorem own_set {w : World} {base e size n g o : Nat} {v x : Value} {xs : List Value} (h : w.ownsRow base e size v n xs) (hne : some g ≠ v.ownBlock) : (w.setCell ⟨g, o, none⟩ x).ownsRow base e size v n xs := by
  refine ⟨h.1, ?_⟩
  rcases h.2 with h0 | ⟨b, cap, cur, rfl, h1, h2, h3⟩
  · exact .inl h0
  · exact .inr ⟨b, cap, cur, rfl, h1, (Below.heap_setCell _ _ _ _ (fun e => hne (by simp [Value.ownBlock, e]))).trans h2, h3⟩
theorem rows_cells {W : World} {base e size n : Nat} {v : Value} {xs : List Value} (h : W.ownsRow base e size v n xs) (j : Nat) (o : Obj) (ej : v.ownBlock = some j) (ho : W.heap[j]? = some o) : o.isCells = true := by
  rcases h.2 with ⟨rfl, _⟩ | ⟨g, cap, cur, rfl, _, hg', _⟩
  · cases ej
  · cases ej
    rw [hg'] at ho; cases ho; rfl

theorem row_mono {w : World} {base base' e size n : Nat} {v : Value} {xs : List Value} (h : w.ownsRow base e size v n xs) (hb : base' ≤ base) : w.ownsRow base' e size v n xs := by
  refine ⟨h.1, ?_⟩
  rcases h.2 with h0 | ⟨g, cap, cur, hv, h1, h2⟩
  · exact .inl h0
  · exact .inr ⟨g, cap, cur, hv, Nat.le_trans hb h1, h2⟩
/-- What Fields leaves: a slice of its own that holds the pieces. -/
def LeftF (w : World) (s : ByteArray) (e : Ending) (w' : World) : Prop :=
  ∃ v, e = .returned v ∧ w'.ownsRow w.heap.size 28 2 v (pcs s).length (scs s (pcs s)) ∧ w.grownBy w' none

set_option maxRecDepth 100000 in
set_option maxHeartbeats 2000000 in
theorem fieldsC (s : ByteArray) (hs : s.size ≤ 1048576) (w : World) :
    Calls Tryd.prog 12 #[.string s] w (LeftF w s) := by
  have hsm : s.size ≤ maxLen := by unfold maxLen; omega
  obtain ⟨i0, hi⟩ := info_parts infoSp
  have HI : Hid (Tryd.prog.info? 28 = some i0 ∧ i0.zero = some (.agg #[.int .i64 0, .string ⟨#[]⟩]) ∧ i0.size = 2 ∧ i0.bytes = 24) := hi
  clear hi
  refine (callsIn_wide (n := 3)).1 ?_
  refine callsIn_of_wp_marks Tryd.func12 rfl trivial ?_ rfl
  simp only [Tryd.ntmps12, List.size_toArray, List.length_cons, List.length_nil, Nat.reduceAdd, Nat.reduceSub, Array.replicate_succ, Array.replicate_zero, List.push_toArray, List.append_toArray, List.nil_append, List.cons_append]
  gi_wp2_with (refine ⟨trivial, ?_⟩; gi_at_call 32; refine (pieces_in _ s _).mono ?_; rintro e w3 ⟨rfl, hw3⟩; subst w3)
  obtain ⟨W1, hW1⟩ : ∃ W1, w.alloc (.cells #[.slice none 0 0] 24) = W1 := ⟨_, rfl⟩
  have b1 : B1 W1 w.heap.size 24 (.slice none 0 0) := by rw [← hW1]; exact heap_alloc_new w _
  have g1 : w.grownBy W1 none := by rw [← hW1]; exact World.grownBy_alloc _ _ _
  have s1 : Hid (W1.heap.size = w.heap.size + 1) := by unfold Hid; rw [← hW1]; simp
  rw [hW1, ← s1.out]
  obtain ⟨W2, hW2⟩ : ∃ W2, W1.alloc (.cells #[.string s] 9) = W2 := ⟨_, rfl⟩
  have b2 : B1 W2 W1.heap.size 9 (.string s) := by rw [← hW2]; exact heap_alloc_new W1 _
  have g2 : W1.grownBy W2 none := by rw [← hW2]; exact World.grownBy_alloc _ _ _
  have s2 : Hid (W2.heap.size = W1.heap.size + 1) := by unfold Hid; rw [← hW2]; simp
  rw [hW2]
  clear hW1 hW2
  have q1 : w.heap.size < W1.heap.size := by have := s1.out; omega
  have q2 : W1.heap.size < W2.heap.size := by have := s2.out; omega
  have g12 := gb_trans g1 g2
  refine wpIn_rangeFunc_ownF rfl (by omega) (gf := 60) (lb := #[.pointer (some ⟨W1.heap.size, 0, none⟩)]) rfl trivial (enters_of Tryd.func60 (by kernel_rfl) rfl)
    (pieces_stops 2 (by omega) W1.heap.size s hsm W2 b2.cell) Kb.trans (Kb.put (by omega)) (Below.refl _ _) (fun _ => rfl)
    (fun pre W => (∃ v, B1 W w.heap.size 24 v ∧ B1 W W1.heap.size 9 (.string s) ∧ W.ownsRow W2.heap.size 28 2 v pre.length (scs s pre)) ∧ Below w.heap.size w W ∧ W2.heap.size ≤ W.heap.size)
    (fun _ _ _ => False)
    (OwnFrom.and (Own.from (fun p A B row hs hg hr => by
      obtain ⟨v, h1, h2, h3⟩ := hs
      exact ⟨v, cells_own h1 hg hr, cells_own h2 hg hr, rows_own h3 hg hr⟩) _) (OwnFrom.and (ownFrom_below (Nat.le_refl _) (by omega)) (fun _ _ _ _ h hg _ => Nat.le_trans h hg.size)))
    (fun _ _ _ _ _ hs _ _ => hs)
    ⟨⟨_, b1.kept g2 (by simp), b2, World.ownsRow_nil _ _ _ _⟩, gb_below g12, Nat.le_refl _⟩
    (fun x => { tmps := #[.string s, undef, .slice none 0 0, .pointer (some ⟨w.heap.size, 0, none⟩), .int .i64 (x.1 : Nat), .string (s.extract x.1 x.2), .string s, .func (.func 60) #[] #[.pointer (some ⟨W1.heap.size, 0, none⟩)], .int .i64 (x.1 : Nat), .string (s.extract x.1 x.2), undef, undef, undef, undef, undef, undef, undef], defers := [] }) ?assign ?body ?done ?stop
  case assign =>
    intro l x W K hK
    gi_wp2
    exact hK
  case body =>
    rintro l pre x W ⟨⟨v, h1, h2, h3⟩, hBel, hsz⟩ hlen
    have z0 := h1.cell
    have y0 := h1.free
    gi_wp2_with (gi_at_builtin; refine wpListIn_append_own _ rfl _ _ 24 rfl W2.heap.size 28 i0 (.agg #[.int .i64 0, .string ⟨#[]⟩]) 2 24 underSpS HI.out.1 HI.out.2.1 HI.out.2.2.1 HI.out.2.2.2 rfl (by decide) _ _ _ rfl (h3.alloc _) ⟨W.heap.size, 0, none⟩ 1 1 [.int .i64 (x.1 : Nat), .string (s.extract x.1 x.2)] rfl rfl (new2 _ _ _ _) ?_ ?_ ?_ ?_ ?_; rotate_right; intro v4 w4 hown4 hgrow4 hnil4; obtain ⟨gg, cap4, rfl⟩ := ownsRow_succ hown4; have HA := h3.alloc (.cells #[.int .i64 (x.1 : Nat), .string (s.extract x.1 x.2)] 28); have h1a := h1.kept (World.grownBy_alloc W (.cells #[.int .i64 (x.1 : Nat), .string (s.extract x.1 x.2)] 28) none) (by simp); have h2a := h2.kept (World.grownBy_alloc W (.cells #[.int .i64 (x.1 : Nat), .string (s.extract x.1 x.2)] 28) none) (by simp); have h14 := h1a.kept hgrow4 (h1a.ne HA (by decide)); have h24 := h2a.kept hgrow4 (h2a.ne HA (by decide)); have z4 := h14.cell; have y4 := h14.free)
    · have ga := World.grownBy_alloc W (.cells #[.int .i64 (x.1 : Nat), .string (s.extract x.1 x.2)] 28) none
      have hne : W1.heap.size ≠ w.heap.size := by omega
      have h24s : B1 (w4.setCell ⟨w.heap.size, 0, none⟩ (.slice (some ⟨gg, 0, none⟩) (pre.length + 1) cap4)) W1.heap.size 9 (.string s) := (Below.heap_setCell _ _ _ _ hne).trans h24
      have G0 := gb_row (gb_alloc (gb_of_below hBel) (.cells #[.int .i64 (x.1 : Nat), .string (s.extract x.1 x.2)] 28)) hgrow4 (fun i e => by have := (HA.lt i e).1; omega)
      have q3 := ga.size
      have q4 := hgrow4.size
      refine ⟨((KeepsOthers.of_grownBy ga (by simp)).trans (KeepsOthers.of_grownBy hgrow4 (fun j o e ho => rows_cells HA j o e ho))).trans (KeepsOthers.setCell _ _ _), Eq.trans h24s h2.symm, ⟨_, h14.set _, h24s, ?_⟩, gb_below (gb_new G0 (Nat.le_refl _) _), ?_⟩
      · rw [scs_snoc, List.length_append]; exact own_set hown4 (h14.ne hown4 (by decide))
      · show W2.heap.size ≤ (w4.setCell _ _).heap.size
        simp only [World.setCell, Array.size_modify]
        omega
    · intro u hu
      simp at hu
      rcases hu with rfl | rfl <;> rfl
    · unfold maxLen; omega
    · omega
    · simp; omega
  case done =>
    rintro D ys W hD hS ⟨⟨v, h1, h2, h3⟩, hBel, hsz⟩ hK
    have z0 := h1.cell
    gi_wp2
    refine ⟨by simp, .inl ⟨_, _, rfl, run_takeDeferred hK, ?_⟩⟩
    have hr : ∀ r, some D = some r → ∃ o : Obj, W.heap[r]? = some o ∧ o.isCells = false := fun r e => by cases e; exact ⟨_, hK, rfl⟩
    rw [hS] at h3
    exact ⟨_, results_tmp rfl _ _ _, v, rfl, row_mono (rows_own h3 (grownBy_putObj' _ D _) hr) (by omega), gb_past (gb_of_below hBel) (grownBy_putObj' _ D _) (by omega)⟩
  case stop =>
    rintro D c pre W _ _ h _
    exact h.elim
end Go.Proofs.YtimknahfgpafaaaDoor
