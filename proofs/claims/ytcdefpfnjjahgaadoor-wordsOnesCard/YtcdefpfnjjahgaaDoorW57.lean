/- WordsOnes: the walk. -/
import Derived.RangeFuncBox
import Derived.Stop.RegionWithIn
import Derived.Test.YtcdefpfnjjahgaaDoorW58
import Derived.Test.YtcdefpfnjjahgaaDoorW36
import Derived.Test.YtcdefpfnjjahgaaDoorW37
import Derived.Test.YtcdefpfnjjahgaaDoorW7
namespace Go.Proofs.YtcdefpfnjjahgaaDoor
open Go.RowKit Go.Shelf
set_option linter.unusedVariables false
set_option linter.unusedSimpArgs false
attribute [local go_sem] Oper.semAt_some

theorem cells_own {W W' : World} {row : Option Nat} {g : Nat} {c : Array Value} {t : TypeId} {z : Nat × Nat} (h : W.heap[g]? = some (.cells c t z)) (hg : W.grownBy W' row) (hr : ∀ r, row = some r → ∃ o : Obj, W.heap[r]? = some o ∧ o.isCells = false) : W'.heap[g]? = some (.cells c t z) :=
  (hg.block g (Array.getElem?_eq_some_iff.1 h).1 (fun e => by
    obtain ⟨o, ho, hc⟩ := hr g e.symm
    rw [h] at ho; cases ho; cases hc)).trans h
theorem rows_own {W W' : World} {row : Option Nat} {base e size n : Nat} {v : Value} {xs : List Value} (h : W.ownsRow base e size v n xs) (hg : W.grownBy W' row) (hr : ∀ r, row = some r → ∃ o : Obj, W.heap[r]? = some o ∧ o.isCells = false) : W'.ownsRow base e size v n xs := by
  refine h.kept hg ?_
  rcases h.2 with ⟨rfl, _⟩ | ⟨g, cap, cur, rfl, _, hg', _⟩
  · exact .inl rfl
  · refine .inr (fun e => ?_)
    obtain ⟨o, ho, hc⟩ := hr g e.symm
    rw [hg'] at ho; cases ho; cases hc
/-- The one cell of a variable. -/
def B1 (w : World) (g : Nat) (t : TypeId) (x : Value) : Prop := w.heap[g]? = some (.cells #[x] t (0, 0))
theorem B1.lt {w : World} {g : Nat} {t : TypeId} {x : Value} (h : B1 w g t x) : g < w.heap.size := (Array.getElem?_eq_some_iff.1 h).1
theorem B1.kept {w w' : World} {g : Nat} {t : TypeId} {x : Value} {r : Option Nat} (h : B1 w g t x) (hg : w.grownBy w' r) (hne : some g ≠ r) : B1 w' g t x := (hg.block g h.lt hne).trans h
theorem B1.cell {w : World} {g : Nat} {t : TypeId} {x : Value} (h : B1 w g t x) : w.cell? ⟨g, 0, none⟩ = some x := by unfold B1 at h; simp [World.cell?, h]
theorem B1.free {w : World} {g : Nat} {t : TypeId} {x : Value} (h : B1 w g t x) : w.frozen? ⟨g, 0, none⟩ = false := by unfold B1 at h; simp [World.frozen?, h]
theorem B1.set {w : World} {g : Nat} {t : TypeId} {x : Value} (h : B1 w g t x) (y : Value) : B1 (w.setCell ⟨g, 0, none⟩ y) g t y := by unfold B1 at h ⊢; simp [World.setCell, Array.getElem?_modify, h]
theorem B1.ne {w : World} {b base n k t t' : Nat} {x : Value} {v : Value} {xs : List Value} (h : B1 w b t x) (ho : w.ownsRow base t' k v n xs) (ht : t ≠ t') : some b ≠ v.ownBlock := by
  rcases ho.2 with ⟨rfl, _⟩ | ⟨g, cap, cur, rfl, _, hg, _⟩
  · simp [Value.ownBlock]
  · intro e
    simp only [Value.ownBlock, Option.some.injEq] at e
    subst e
    rw [show w.heap[b]? = _ from h] at hg
    simp only [Option.some.injEq, Obj.cells.injEq] at hg
    exact ht hg.2.1
theorem rows_cells {W : World} {base e size n : Nat} {v : Value} {xs : List Value} (h : W.ownsRow base e size v n xs) (j : Nat) (o : Obj) (ej : v.ownBlock = some j) (ho : W.heap[j]? = some o) : o.isCells = true := by
  rcases h.2 with ⟨rfl, _⟩ | ⟨g, cap, cur, rfl, _, hg', _⟩
  · cases ej
  · cases ej
    rw [hg'] at ho; cases ho; rfl


theorem with_tmps {c : Code} {F : Fence} {n : Nat} {P : Program} {Q : Exit → Act → World → Prop} {t : Array Value} {d : List Deferred} {w : World} (h : ∀ AR, AR = t → c.wpIn F n P Q { tmps := AR, defers := d } w) : c.wpIn F n P Q { tmps := t, defers := d } w := h t rfl
theorem bxd_own {W W' : World} {row : Option Nat} {g : Nat} {t : TypeId} {x : Value} (h : Boxed W g t x) (hg : W.grownBy W' row) (hr : ∀ r, row = some r → ∃ o : Obj, W.heap[r]? = some o ∧ o.isCells = false) : Boxed W' g t x :=
  h.kept hg (fun e => by
    obtain ⟨o, ho, hc⟩ := hr g e.symm
    rw [show W.heap[g]? = _ from h] at ho; cases ho; cases hc)
theorem own_sl {W : World} {base e size n : Nat} {v : Value} {xs : List Value} (h : W.ownsRow base e size v n xs) : ∃ p cap, v = .slice p n cap := by
  rcases h.2 with ⟨rfl, h0⟩ | ⟨g, cap, cur, rfl, _⟩
  · exact ⟨none, 0, by rw [h0]⟩
  · exact ⟨_, _, rfl⟩
theorem come_pre (p : Nat → Bool) (s : Nat) : ∀ d, come p s <+: come p (s + d)
  | 0 => List.prefix_refl _
  | d + 1 => by
    refine (come_pre p s d).trans ?_
    rw [show s + (d + 1) = (s + d) + 1 from rfl]
    cases h : p (s + d) with
    | true => rw [come_yes h]; exact List.prefix_append _ _
    | false => rw [come_no h]; exact List.prefix_refl _
theorem come_take {p : Nat → Bool} {s t : Nat} (h : s ≤ t) {l : List Nat} (hl : l = come p s) : l = (come p t).take l.length := by
  subst hl
  have e : t = s + (t - s) := by omega
  have := come_pre p s (t - s)
  rw [← e] at this
  exact List.prefix_iff_eq_take.1 this
theorem new1 (w : World) (x : Value) (t : TypeId) : ∀ j u, [x][j]? = some u → (w.alloc (.cells #[x] t)).cell? ((⟨w.heap.size, 0, none⟩ : Addr).add j) = some u :=
  World.news_of_block (cs := #[x]) (heap_alloc_new w _)
/-- A list that is gathered in the box n. -/
def Gt (n : Nat) (y : World) (k : Nat) (l : List Nat) (W : World) : Prop := (∃ v, B1 W n 40 v ∧ W.ownsRow n 3 1 v k (cl l)) ∧ Below n y W
theorem Gt.own {n k B0 : Nat} {y : World} {l : List Nat} {A B : World} {row : Option Nat} (h : Gt n y k l A) (hn : n ≤ B0) (hy : n ≤ A.heap.size) (hg : A.grownBy B row) (hr : ∀ r, row = some r → B0 ≤ r ∧ ∃ o : Obj, A.heap[r]? = some o ∧ o.isCells = false) : Gt n y k l B := by
  obtain ⟨⟨v, h1, h3⟩, h5⟩ := h
  exact ⟨⟨v, cells_own h1 hg (fun r e => (hr r e).2), rows_own h3 hg (fun r e => (hr r e).2)⟩, h5.grown hg hy (fun r e => by have := (hr r e).1; omega)⟩
theorem Gt.lt {n k : Nat} {y : World} {l : List Nat} {A : World} (h : Gt n y k l A) : n < A.heap.size := by
  obtain ⟨⟨v, h1, h3⟩, h5⟩ := h
  exact h1.lt
theorem gt_add {n k cv cap4 gg x : Nat} {y W w4 : World} {pv : Option Addr} {l : List Nat} (h1 : B1 W n 40 (.slice pv k cv)) (h3 : W.ownsRow n 3 1 (.slice pv k cv) k (cl l)) (hBel : Below n y W)
    (hown4 : w4.ownsRow n 3 1 (.slice (some ⟨gg, 0, none⟩) (k + 1) cap4) (k + 1) (cl l ++ [.int .i64 (x : Int)])) (hgrow4 : (W.alloc (.cells #[.int .i64 (x : Int)] 3)).grownBy w4 (Value.slice pv k cv).ownBlock) :
    KeepsOthers W (w4.setCell ⟨n, 0, none⟩ (.slice (some ⟨gg, 0, none⟩) (k + 1) cap4)) ∧ Below n W (w4.setCell ⟨n, 0, none⟩ (.slice (some ⟨gg, 0, none⟩) (k + 1) cap4)) ∧ Gt n y (k + 1) (l ++ [x]) (w4.setCell ⟨n, 0, none⟩ (.slice (some ⟨gg, 0, none⟩) (k + 1) cap4)) := by
  have HA := h3.alloc (.cells #[.int .i64 (x : Int)] 3)
  have ga := World.grownBy_alloc W (.cells #[.int .i64 (x : Int)] 3) none
  have h1a := h1.kept ga (by simp)
  have h14 := h1a.kept hgrow4 (h1a.ne HA (by decide))
  have ln := h1.lt
  have lg := ga.size
  have hb : Below n W (w4.setCell ⟨n, 0, none⟩ (.slice (some ⟨gg, 0, none⟩) (k + 1) cap4)) := (((Below.refl n W).grown ga (by omega) (by simp)).grown hgrow4 (by omega) (fun i e => (HA.lt i e).1)).setCell (p := ⟨n, 0, none⟩) (Nat.le_refl _) _
  refine ⟨((KeepsOthers.of_grownBy ga (by simp)).trans (KeepsOthers.of_grownBy hgrow4 (fun j o e ho => rows_cells HA j o e ho))).trans (KeepsOthers.setCell _ _ _), hb, ⟨_, h14.set _, ?_⟩, hBel.trans hb⟩
  rw [cl_app]
  exact own_set hown4 (h14.ne hown4 (by decide))
/-- The same, with a row that lies farther up than the box. -/
def G3 (n base : Nat) (y : World) (k : Nat) (l : List Nat) (W : World) : Prop := (∃ v, B1 W n 40 v ∧ W.ownsRow base 3 1 v k (cl l)) ∧ Below n y W ∧ base ≤ W.heap.size
theorem G3.own {n base k B0 : Nat} {y : World} {l : List Nat} {A B : World} {row : Option Nat} (h : G3 n base y k l A) (hn : n ≤ B0) (hg : A.grownBy B row) (hr : ∀ r, row = some r → B0 ≤ r ∧ ∃ o : Obj, A.heap[r]? = some o ∧ o.isCells = false) : G3 n base y k l B := by
  obtain ⟨⟨v, h1, h3⟩, h5, h6⟩ := h
  exact ⟨⟨v, cells_own h1 hg (fun r e => (hr r e).2), rows_own h3 hg (fun r e => (hr r e).2)⟩, h5.grown hg (Nat.le_of_lt h1.lt) (fun r e => by have := (hr r e).1; omega), Nat.le_trans h6 hg.size⟩
theorem g3_add {n base k cv cap4 gg x : Nat} {y W w4 : World} {pv : Option Addr} {l : List Nat} (h1 : B1 W n 40 (.slice pv k cv)) (h3 : W.ownsRow base 3 1 (.slice pv k cv) k (cl l)) (hBel : Below n y W) (hnb : n ≤ base) (hz : base ≤ W.heap.size)
    (hown4 : w4.ownsRow base 3 1 (.slice (some ⟨gg, 0, none⟩) (k + 1) cap4) (k + 1) (cl l ++ [.int .i64 (x : Int)])) (hgrow4 : (W.alloc (.cells #[.int .i64 (x : Int)] 3)).grownBy w4 (Value.slice pv k cv).ownBlock) :
    KeepsOthers W (w4.setCell ⟨n, 0, none⟩ (.slice (some ⟨gg, 0, none⟩) (k + 1) cap4)) ∧ (∀ j, j < base → j ≠ n → (w4.setCell ⟨n, 0, none⟩ (.slice (some ⟨gg, 0, none⟩) (k + 1) cap4)).heap[j]? = W.heap[j]?) ∧ G3 n base y (k + 1) (l ++ [x]) (w4.setCell ⟨n, 0, none⟩ (.slice (some ⟨gg, 0, none⟩) (k + 1) cap4)) := by
  have HA := h3.alloc (.cells #[.int .i64 (x : Int)] 3)
  have ga := World.grownBy_alloc W (.cells #[.int .i64 (x : Int)] 3) none
  have h1a := h1.kept ga (by simp)
  have h14 := h1a.kept hgrow4 (h1a.ne HA (by decide))
  have ln := h1.lt
  have lg := ga.size
  have lh := hgrow4.size
  have hb : Below n W (w4.setCell ⟨n, 0, none⟩ (.slice (some ⟨gg, 0, none⟩) (k + 1) cap4)) := (((Below.refl n W).grown ga (by omega) (by simp)).grown hgrow4 (by omega) (fun i e => by have := (HA.lt i e).1; omega)).setCell (p := ⟨n, 0, none⟩) (Nat.le_refl _) _
  refine ⟨((KeepsOthers.of_grownBy ga (by simp)).trans (KeepsOthers.of_grownBy hgrow4 (fun j o e ho => rows_cells HA j o e ho))).trans (KeepsOthers.setCell _ _ _), fun j hj hjn => ?_, ⟨_, h14.set _, ?_⟩, hBel.trans hb, ?_⟩
  · rw [Below.heap_setCell _ _ _ _ hjn, hgrow4.block j (by omega) (fun e => by have := (HA.lt j e.symm).1; omega), ga.block j (by omega) (by simp)]
  · rw [cl_app]
    exact own_set hown4 (h14.ne hown4 (by decide))
  · simp only [World.setCell, Array.size_modify]; omega
def I3 (n base : Nat) (y : World) {m : Nat} (pre : List (Fin m)) (W : World) : Prop := G3 n base y pre.length (pre.map Fin.val) W
theorem ri_own {W : World} {base n cap : Nat} {p : Option Addr} {l : List Nat} (h : W.ownsRow base 3 1 (.slice p n cap) n (cl l)) : Ri W p l := fun j x hj => by
  have hx : (cl l)[j]? = some (.int .i64 ((x : Nat) : Int)) := by unfold cl; rw [List.getElem?_map, hj]; rfl
  rcases h.2 with ⟨e, h0⟩ | ⟨g, c, cur, e, _⟩
  · have := h.1
    rw [h0, cl_len] at this
    have hl : l = [] := List.eq_nil_of_length_eq_zero (by omega)
    subst hl
    cases hj
  · injection e with e1 e2 e3
    subst e1
    exact ⟨_, rfl, h.cells rfl j _ hx⟩
theorem ri_take {W : World} {p : Option Addr} {l : List Nat} (h : Ri W p l) (k : Nat) : Ri W p (l.take k) := fun j x hj => by
  refine h j x ?_
  rw [List.getElem?_take] at hj
  split at hj
  · exact hj
  · cases hj
theorem same_n {l : List Nat} {n : Nat} (hl : l.length = n) (hn : n ≤ 9223372036854775806) (sa sb : Option Addr) (ca cb : Nat) (w : World) (ha : Ri w sa l) (hb : Ri w sb l) :
    Calls Tryd.prog 15 #[.slice sa n ca, .slice sb n cb] w fun e w' => e = .returned (.bool true) ∧ w.grownBy w' none := by
  subst hl
  exact sameC l hn sa sb ca cb w ha hb
/-- What stands while the first walk goes on. -/
def I1 (n : Nat) (y : World) (most : Int) {m : Nat} (pre : List (Fin m)) (W : World) : Prop := Gt n y pre.length (pre.map Fin.val) W ∧ (pre.length = 0 ∨ (pre.length : Int) ≤ most)
def Ix1 (n : Nat) (y : World) (most : Int) {m : Nat} (c : Code) (pre' : List (Fin m)) (W : World) : Prop := ∃ (pre : List (Fin m)) (x : Fin m), pre' = pre ++ [x] ∧ c = .exit 0 ∧ most ≤ (pre.length : Int) ∧ I1 n y most pre W
def I2 (n : Nat) (y : World) {m : Nat} (pre : List (Fin m)) (W : World) : Prop := Gt n y pre.length (pre.map Fin.val) W
theorem blk {Q : Exit → Act → World → Prop} {e : Exit} {a : Act} {W : World} (he : e = .normal ∨ e = .exit 0) (h : Exit.inBlock 0 Q .normal a W) : Exit.inBlock 0 Q e a W := by
  rcases he with rfl | rfl
  · exact h
  · exact h
/-- Deferred calls' marks, none of whose records holds a call. -/
def Marks (n0 B : Nat) : List Deferred → World → Prop
  | [], _ => True
  | d :: ds, W => (∃ E, d = { target := .collected E, args := #[] } ∧ n0 ≤ E ∧ E < B ∧ W.heap[E]? = some (.deferred (some [])) ∧ ∀ d' ∈ ds, d'.target ≠ .collected E) ∧ Marks n0 B ds W
theorem Marks.to {n0 B B' : Nat} {W W' : World} (h : ∀ E, n0 ≤ E → E < B → W.heap[E]? = some (.deferred (some [])) → W'.heap[E]? = some (.deferred (some []))) (hB : B ≤ B') : ∀ ds, Marks n0 B ds W → Marks n0 B' ds W'
  | [], _ => trivial
  | d :: ds, ⟨⟨E, h1, h2, h3, h4, h5⟩, hm⟩ => ⟨⟨E, h1, h2, Nat.lt_of_lt_of_le h3 hB, h E h2 h3 h4, h5⟩, Marks.to h hB ds hm⟩
/-- .. where a mark's own block is not among those that turn. -/
theorem Marks.to' {n0 B B' : Nat} {W W' : World} : ∀ ds, (∀ E, n0 ≤ E → E < B → (∃ d ∈ ds, d.target = .collected E) → W.heap[E]? = some (.deferred (some [])) → W'.heap[E]? = some (.deferred (some []))) → B ≤ B' → Marks n0 B ds W → Marks n0 B' ds W'
  | [], _, _, _ => trivial
  | d :: ds, h, hB, ⟨⟨E, h1, h2, h3, h4, h5⟩, hm⟩ => ⟨⟨E, h1, h2, Nat.lt_of_lt_of_le h3 hB, h E h2 h3 ⟨d, List.mem_cons_self .., by rw [h1]⟩ h4, h5⟩, Marks.to' ds (fun E a b ⟨d', hd, e⟩ => h E a b ⟨d', List.mem_cons_of_mem _ hd, e⟩) hB hm⟩
theorem Marks.away {n0 B : Nat} {W : World} : ∀ ds, Marks n0 B ds W → ∀ d ∈ ds, ∀ E, d.target = .collected E → E < B
  | [], _, d, hd, _, _ => by cases hd
  | d0 :: ds, ⟨⟨E0, h1, h2, h3, h4, h5⟩, hm⟩, d, hd, E, he => by
    rcases List.mem_cons.1 hd with rfl | hd
    · rw [h1] at he; cases he; exact h3
    · exact Marks.away ds hm d hd E he
/-- What the end of the function does with the marks. -/
theorem leaves_marks {F : Fence} {n : Nat} {P : Program} {fn : Func} {tmps : Array Value} {R : Ending → World → Prop} {n0 B : Nat} : ∀ (ds : List Deferred) (W : World), Marks n0 B ds W → n0 ≤ W.heap.size →
    (∀ W', Below n0 W W' → (∀ (b : Nat) (o : Obj), o.isCells = true → W.heap[b]? = some o → W'.heap[b]? = some o) → LeavesIn F n P fn tmps R [] .returning W') → LeavesInM F n P fn tmps R ds .returning W
  | [], W, _, _, h => h W (Below.refl _ _) (fun _ _ _ h => h)
  | d :: ds, W, ⟨⟨E, h1, h2, h3, h4, h5⟩, hm⟩, hn, h => by
    refine ⟨by simp, .inl ⟨E, _, by rw [h1], run_takeDeferred h4, ?_⟩⟩
    have hb : Below n0 W (W.putObj E (.deferred none)) := (Below.refl n0 W).grown (grownBy_putObj' W E _) hn (fun k e => by cases e; omega)
    refine leaves_marks ds _ (Marks.to' ds (fun E' _ _ he hd => ?_) (Nat.le_refl _) hm) (Nat.le_trans hn hb.size) (fun W' hb' hc' => h W' (hb.trans hb') (fun b o ho hbo => hc' b o ho ?_))
    · obtain ⟨d', hd', e'⟩ := he
      have hne : E' ≠ E := fun e => h5 d' hd' (by rw [e', e])
      rw [World.putObj_heap_other hne]; exact hd
    · have hne : b ≠ E := fun e => by rw [e, h4] at hbo; cases hbo; cases ho
      rw [World.putObj_heap_other hne]; exact hbo

theorem plA_len {N : Int} {n : Nat} {f : Nat → Nat} (hf : ∀ k, k < n → f k < 18446744073709551616) : (plA N n f).length ≤ 65538 := by
  unfold plA
  cases hv : validB N n f with
  | false => simp
  | true =>
    obtain ⟨m, p, rfl, M, _⟩ := may_of_validB hf hv
    rw [if_pos rfl]
    have := come_le (Pk.bitAt f) (m : Int).toNat
    have := M.le
    omega
theorem own_cap {W : World} {base e size n m cap : Nat} {p : Option Addr} {xs : List Value} (h : W.ownsRow base e size (.slice p m cap) n xs) : n ≤ cap := by
  rcases h.2 with ⟨_, h0⟩ | ⟨g, c, cur, e, h1, h2, h3, h4⟩
  · omega
  · injection e with _ _ e3
    subst e3
    omega
theorem then_false {c : Code} {F : Fence} {n : Nat} {P : Program} {K : Act → World → Prop} {Q : Exit → Act → World → Prop} {a : Act} {w : World} (h : c.wpIn F n P (Exit.then K (fun _ _ _ => False)) a w) : c.wpIn F n P (Exit.then K Q) a w := by
  refine wpIn_mono h ?_
  intro e a w h
  cases e
  case normal => exact h
  all_goals exact False.elim h
/-- How many a walk that is left early gathers. -/
def kE (most : Int) (n : Nat) : Nat := if most < (n : Int) then most.toNat else n

set_option maxRecDepth 100000 in
set_option maxHeartbeats 4000000 in
theorem ones_walk (N : Int) (n cap : Nat) (sp : Option Addr) (f : Nat → Nat) (most : Int) (hn : n ≤ 17592186043904) (hf : ∀ k, k < n → f k < 18446744073709551616) (w : World) (hc : Wd w sp n f) (h0 : sp = none → n = 0 ∧ cap = 0) (hT : Tab64 w) :
    Calls Tryd.prog 4 #[.agg #[.int .i64 N, .slice sp n cap], .int .i64 most] w fun e w' => e = .returned (.bool true) ∧ Below w.heap.size w w' := by
  have H0 : Hid (sp = none → n = 0 ∧ cap = 0) := h0
  clear h0
  have hx := xk_lt hf
  have hG0 : 0 < w.heap.size := cell_lt (hT 0 (by decide))
  have hRO := fun w h => refOnesU N n cap sp f hf (by omega) w h
  have hRP := fun w h => refPlacesU N n cap sp f hf (by omega) w h
  have hON := fun cap sp w h => onesU N n cap sp f hf (by omega) w h
  have hBI := fun cap sp w h => bitsU N n cap sp f hf (by omega) w h
  generalize (if validB N n f = true then (0 : Int) else 20) = ec at *
  have hLl := plA_len (N := N) hf
  generalize plA N n f = L at *
  obtain ⟨i0, hi⟩ := info_parts infoIn
  have HI : Hid (Tryd.prog.info? 3 = some i0 ∧ i0.zero = some (.int .i64 0) ∧ i0.size = 1 ∧ i0.bytes = 8) := hi
  clear hi
  have hnil : ∀ (B : Nat) (w : World), (binOp BinOp.eql 43 (.func (.func 42) #[] #[.pointer (some ⟨B, 0, none⟩)]) .nilFunc).run Tryd.prog w = .ok (.bool false) w := fun _ _ => by kernel_rfl
  obtain ⟨W0, hW0, c0, c1, sz0, g0, B0r⟩ := box2 w (.int .i64 N) (.slice sp n cap) 24
  obtain ⟨W1, hW1⟩ : ∃ W1, W0.alloc (.cells #[.int .i64 most] 3) = W1 := ⟨_, rfl⟩
  have g1 : W0.grownBy W1 none := by rw [← hW1]; exact World.grownBy_alloc _ _ _
  have M1 : Boxed W1 W0.heap.size 3 (.int .i64 most) := by rw [← hW1]; exact Boxed.new _ _ _
  have G1 := gb_trans g0 g1
  have B1r := B0r.kept g1 (by simp)
  have x1r0 := B1r.cell0
  have x1r1 := B1r.cell1
  clear c0 c1
  refine (callsIn_wide (n := 3)).1 ?_
  refine callsIn_of_wp_marks Tryd.func4 rfl trivial ?_ rfl
  simp only [Tryd.ntmps4, List.size_toArray, List.length_cons, List.length_nil, Nat.reduceAdd, Nat.reduceSub, Array.replicate_succ, Array.replicate_zero, List.push_toArray, List.append_toArray, List.nil_append, List.cons_append]
  gi_wp2_with (first | (refine ⟨trivial, ?_⟩; gi_at_call 5; guard_hyp G1; (fail_if_success (guard_hyp G2)); refine (callsIn_wide.2 (aliveC _)).mono ?_; rintro e y2 ⟨rfl, g2⟩; have G2 := gb_trans G1 g2; have B2r := B1r.kept g2 (by simp); have M2 := M1.kept g2 (by simp); have x2r0 := B2r.cell0; have x2r1 := B2r.cell1; clear x1r0 x1r1) | (refine ⟨trivial, ?_⟩; gi_at_call 6; guard_hyp G2; (fail_if_success (guard_hyp G3)); refine (callsIn_wide.2 (lentC N n cap sp f hn _ (hc.kept G2 (by simp)) H0.out)).mono ?_; rintro e y3 ⟨b, c, rfl, hb3, hrow3, g3⟩; obtain ⟨W3, hW3, p3, q3, sz3, gv3, B3x⟩ := box2 y3 (.int .i64 N) (.slice (some ⟨b, 0, none⟩) n c) 24; clear p3 q3; have E3 := gb_trans g3 gv3; have G3 := gb_trans G2 E3; have B3r := B2r.kept E3 (by simp); have M3 := M2.kept E3 (by simp); have X3 := (lent_of hrow3).kept gv3 (by simp); have lb3 : y2.heap.size ≤ b := hb3; have hlb3 : b < y3.heap.size := lent_lt hrow3; have x3r0 := B3r.cell0; have x3r1 := B3r.cell1; have x3x0 := B3x.cell0; have x3x1 := B3x.cell1; clear x2r0 x2r1) | (refine ⟨trivial, ?_⟩; gi_at_call 11; guard_hyp G3; (fail_if_success (guard_hyp G4)); refine (callsIn_wide.2 (hRO _ (hc.kept G3 (by simp)))).mono ?_; rintro e y4 ⟨rfl, g4⟩; have G4 := gb_trans G3 g4; have M4 := M3.kept g4 (by simp); have X4 := X3.kept g4 (by simp); have B4r := B3r.kept g4 (by simp); have x4r0 := B4r.cell0; have x4r1 := B4r.cell1; clear x3r0 x3r1; have B4x := B3x.kept g4 (by simp); have x4x0 := B4x.cell0; have x4x1 := B4x.cell1; clear x3x0 x3x1) | (refine ⟨trivial, ?_⟩; gi_at_call 12; guard_hyp G4; (fail_if_success (guard_hyp G5)); refine (callsIn_wide.2 (hON c (some ⟨b, 0, none⟩) _ X4.wd)).mono ?_; rintro e y5 ⟨rfl, g5⟩; have G5 := gb_trans G4 g5; have M5 := M4.kept g5 (by simp); have X5 := X4.kept g5 (by simp); have B5r := B4r.kept g5 (by simp); have x5r0 := B5r.cell0; have x5r1 := B5r.cell1; clear x4r0 x4r1; have B5x := B4x.kept g5 (by simp); have x5x0 := B5x.cell0; have x5x1 := B5x.cell1; clear x4x0 x4x1) | (refine ⟨trivial, ?_⟩; gi_at_call 13; guard_hyp G5; (fail_if_success (guard_hyp G6)); refine (callsIn_wide.2 (hRP _ (hc.kept G5 (by simp)))).mono ?_; rintro e y6 ⟨vp, rfl, hown6, g6⟩; have G6 := gb_trans G5 g6; have M6 := M5.kept g6 (by simp); have X6 := X5.kept g6 (by simp); have B6r := B5r.kept g6 (by simp); have x6r0 := B6r.cell0; have x6r1 := B6r.cell1; clear x5r0 x5r1; have B6x := B5x.kept g6 (by simp); have x6x0 := B6x.cell0; have x6x1 := B6x.cell1; clear x5x0 x5x1) | (refine ⟨trivial, ?_⟩; gi_at_call 14; guard_hyp G6; (fail_if_success (guard_hyp G7)); refine (callsIn_wide.2 (hBI c (some ⟨b, 0, none⟩) _ X6.wd)).mono ?_; rintro e y7 ⟨BS, rfl, sq7, g7⟩; have G7 := gb_trans G6 g7; have M7 := M6.kept g7 (by simp); have X7 := X6.kept g7 (by simp); have B7r := B6r.kept g7 (by simp); have x7r0 := B7r.cell0; have x7r1 := B7r.cell1; clear x6r0 x6r1; have B7x := B6x.kept g7 (by simp); have x7x0 := B7x.cell0; have x7x1 := B7x.cell1; clear x6x0 x6x1; have own7 := rows_own hown6 g7 (fun r e => by cases e); have hnilS := hnil BS) | (refine ⟨trivial, ?_⟩; gi_at_call 8; guard_hyp G7; (fail_if_success (guard_hyp G8)); refine (callsIn_wide.2 (keptC N n b c cap sp f hn _ X7 (hc.kept G7 (by simp)))).mono ?_; rintro e y8 ⟨rfl, g8⟩; have G8 := gb_trans G7 g8; have M8 := M7.kept g8 (by simp); have X8 := X7.kept g8 (by simp); have B8r := B7r.kept g8 (by simp); have x8r0 := B8r.cell0; have x8r1 := B8r.cell1; clear x7r0 x7r1; have B8x := B7x.kept g8 (by simp); have x8x0 := B8x.cell0; have x8x1 := B8x.cell1; clear x7x0 x7x1; have own8 := rows_own own7 g8 (fun r e => by cases e); have sq8 := sq7.kept g8 (by simp)) | (refine ⟨trivial, ?_⟩; gi_at_call 9; guard_hyp G8; (fail_if_success (guard_hyp G9)); refine (callsIn_wide.2 (wipeC N n b c f hn hf _ X8)).mono ?_; rintro e y9 ⟨⟨v9, rfl⟩, X9, g9⟩; have G9 : Hid True := trivial; have B9x := B8x.kept g9 (fun e => by injection e; omega); have x9x0 := B9x.cell0; have x9x1 := B9x.cell1; clear x8r0 x8r1; clear x8x0 x8x1))
  refine with_tmps ?_
  intro AR hAR
  have lz3 : b < y9.heap.size := by have := g4.size; have := g5.size; have := g6.size; have := g7.size; have := g8.size; have := g9.size; have := gv3.size; omega
  have own9 := own8.kept g9 (.inr (fun e => by have := (own8.lt b e).1; have := g4.size; have := g5.size; have := gv3.size; omega))
  obtain ⟨pp, cp, rfl⟩ := own_sl own8
  have sq9 := sq8.kept g9 (fun k e => by cases e; have := g4.size; have := g5.size; have := g6.size; have := gv3.size; omega)
  have M9 := M8.kept g9 (fun e => by injection e with e; have := g2.size; have := M1.lt; omega)
  have BL9 : Below w.heap.size w y9 := (gb_below G8).grown g9 G8.size (fun k e => by cases e; have := G2.size; omega)
  have hG9 : 0 < y9.heap.size := Nat.lt_of_lt_of_le hG0 BL9.size
  have hT9 := hT.below BL9 hG0
  clear hc hT own8 own7 hown6 sq7 sq8 M1 M2 M3 M4 M5 M6 M7 M8 G2 G3 G4 G5 G6 G7 X3 X4 X5 X6 X7 X8 hRO hRP B1r B2r B3r B3x B4r B4x B5r B5x B6r B6x B7r B7x B8r B8x
  have SQ9 : Hid (Sq y9 y6.heap.size BS L) := sq9
  obtain ⟨sb, k, q, m, e1, e2, e3, e4, e5, e6, e7, e8⟩ := sq9
  obtain ⟨V, hV⟩ : ∃ V, y9.alloc (.cells #[.slice none 0 0] 40) = V := ⟨_, rfl⟩
  rw [hV]
  have gV : y9.grownBy V none := by rw [← hV]; exact World.grownBy_alloc _ _ _
  have bV : B1 V y9.heap.size 40 (.slice none 0 0) := by rw [← hV]; exact heap_alloc_new y9 _
  have zV : y9.heap.size < V.heap.size := bV.lt
  clear hV
  refine wpIn_mono (Q := fun e a W => (e = .normal ∨ e = .exit 0) ∧ ∃ D, a = { tmps := AR, defers := [{ target := .collected D, args := #[] }] } ∧ W.heap[D]? = some (.deferred (some [])) ∧ V.heap.size ≤ D ∧ Gt y9.heap.size y9 (kE most L.length) (L.take (kE most L.length)) W) ?loop ?rest
  case loop =>
    refine wpIn_rangeFunc_ownF rfl (by omega) (gf := 42) (lb := #[.pointer (some ⟨BS, 0, none⟩)]) (by subst hAR; rfl) trivial (enters_of Tryd.func42 (by kernel_rfl) rfl)
      (places_stops 2 (by omega) BS y9.heap.size k k m sb q e3 (by omega) (fun a ha _ => (e7 a ha).2) e5 V (by omega) (gV.cell e1 (by simp)) (e2.kept gV (by simp)) (hT9.below (gb_below gV) hG9)) belowK_t (belowK_b (by omega)) (Below.refl _ _) (fun _ => rfl)
      (I1 y9.heap.size y9 most) (Ix1 y9.heap.size y9 most)
      (fun p A B row hs hg hr => ⟨hs.1.own (by omega) (Nat.le_of_lt hs.1.lt) hg hr, hs.2⟩)
      (fun c p A B row hs hg hr => by
        obtain ⟨pre, x, rfl, hc, hm, hi⟩ := hs
        exact ⟨pre, x, rfl, hc, hm, hi.1.own (by omega) (Nat.le_of_lt hi.1.lt) hg hr, hi.2⟩)
      ⟨⟨⟨_, bV, World.ownsRow_nil _ _ _ _⟩, gb_below gV⟩, .inl rfl⟩
      (fun x => { tmps := (AR.setIfInBounds 57 (.int .i64 (x.val : Int))).setIfInBounds 15 (.int .i64 (x.val : Int)), defers := [] }) ?assign ?body ?done ?stop
    case assign =>
      intro l x W K hK
      subst hAR
      gi_wp2
      exact hK
    case body =>
      rintro l pre ⟨x, hxm⟩ W ⟨⟨⟨v, h1, h3⟩, hBel⟩, hle⟩ hlen
      subst hAR
      obtain ⟨pv, cv, rfl⟩ := own_sl h3
      have z0 := h1.cell
      have y0 := h1.free
      have m0 := (hBel.cell (p := ⟨W0.heap.size, 0, none⟩) M9.lt).trans M9.cell
      have HL : Hid (pre.length < 64 * k) := hlen
      have HLE : Hid (pre.length = 0 ∨ (pre.length : Int) ≤ most) := hle
      clear hle hlen
      by_cases hge : most ≤ (pre.length : Int)
      · gi_wp2
        exact ⟨KeepsOthers.refl _, pre, ⟨x, hxm⟩, rfl, rfl, hge, ⟨⟨_, h1, h3⟩, hBel⟩, HLE.out⟩
      · gi_wp2_with (gi_at_builtin; refine wpListIn_append_own _ rfl _ _ 40 rfl y9.heap.size 3 i0 (.int .i64 0) 1 8 underIn HI.out.1 HI.out.2.1 HI.out.2.2.1 HI.out.2.2.2 rfl (by decide) _ _ _ rfl (h3.alloc _) ⟨W.heap.size, 0, none⟩ 1 1 [.int .i64 (x : Int)] rfl rfl (new1 _ _ _) ?_ ?_ ?_ ?_ ?_; rotate_right; intro v4 w4 hown4 hgrow4 hnil4; obtain ⟨gg, cap4, rfl⟩ := ownsRow_succ hown4; have HA := h3.alloc (.cells #[.int .i64 (x : Int)] 3); have h1a := h1.kept (World.grownBy_alloc W (.cells #[.int .i64 (x : Int)] 3) none) (by simp); have h14 := h1a.kept hgrow4 (h1a.ne HA (by decide)); have z4 := h14.cell; have f4 := h14.free)
        · have GA := gt_add h1 h3 hBel hown4 hgrow4
          have hpl : (pre ++ [(⟨x, hxm⟩ : Fin m)]).length = pre.length + 1 := by simp
          exact ⟨GA.1, GA.2.1, by rw [hpl, List.map_append]; exact GA.2.2, .inr (by rw [hpl]; omega)⟩
        · rfl
        · have := HL.out; unfold maxLen; omega
        · have := HL.out; omega
        · have := h1.lt; simp; omega
    case done =>
      rintro D ys W hD hS ⟨⟨⟨v, h1, h3⟩, hBel⟩, hle⟩ hK
      have hl : ys.length = L.length := by rw [← e6, ← hS]; simp
      rw [hS, e6] at h3
      rw [hl] at h3 hle
      have hk : kE most L.length = L.length := by unfold kE; split <;> omega
      exact ⟨.inl rfl, D, rfl, hK, hD, ⟨v, h1, by rw [hk, List.take_length]; exact h3⟩, hBel⟩
    case stop =>
      rintro D cc pre' W hD ⟨s, hs1, hs⟩ ⟨pre, x, rfl, rfl, hm, ⟨⟨v, h1, h3⟩, hBel⟩, hle⟩ hK
      have ht := come_take hs1 hs
      rw [e6] at ht
      have hl : pre.length < L.length := by have := congrArg List.length ht; simp at this; omega
      have hp : pre.map Fin.val = L.take pre.length := by
        have := congrArg (List.take pre.length) ht
        rw [List.take_take] at this
        simp at this
        rw [this]
      have hk : kE most L.length = pre.length := by unfold kE; split <;> omega
      refine wpIn_exit ?_
      exact ⟨.inr rfl, D, rfl, hK, hD, ⟨v, h1, by rw [hk, ← hp]; exact h3⟩, hBel⟩
  case rest =>
    rintro e a Wa ⟨he, D, rfl, hK, hD, hG1⟩
    refine blk he ?_
    clear e1 e2 e3 e4 e5 e6 e7 e8 he
    obtain ⟨⟨v1, b1, o1⟩, BL1⟩ := hG1
    have gW := gb_of_below BL1
    have BxW := B9x.kept gW (by simp)
    have xw0 := BxW.cell0
    have xw1 := BxW.cell1
    have XW := X9.kept gW (by simp)
    have ownW := rows_own own9 gW (fun r e => by cases e)
    have SQW : Hid (Sq Wa y6.heap.size BS L) := SQ9.out.kept gW (by simp)
    have hTW := hT9.below BL1 hG9
    have MW := M9.kept gW (by simp)
    have BLW : Below w.heap.size w Wa := BL9.trans (BL1.mono BL9.size)
    clear own9 SQ9 hT9 M9 x9x0 x9x1
    subst hAR
    gi_wp2
    refine with_tmps ?_
    intro AR hAR
    have hGW : 0 < Wa.heap.size := Nat.lt_of_lt_of_le hG0 BLW.size
    have SQv2 := SQW.out
    obtain ⟨sb, k, q, m, e1, e2, e3, e4, e5, e6, e7, e8⟩ := SQv2
    obtain ⟨V2, hV2⟩ : ∃ V, Wa.alloc (.cells #[.slice none 0 0] 40) = V := ⟨_, rfl⟩
    rw [hV2]
    have gV2 : Wa.grownBy V2 none := by rw [← hV2]; exact World.grownBy_alloc _ _ _
    have bV2 : B1 V2 Wa.heap.size 40 (.slice none 0 0) := by rw [← hV2]; exact heap_alloc_new Wa _
    have zV2 : Wa.heap.size < V2.heap.size := bV2.lt
    clear hV2
    refine wpIn_mono (Q := fun e a W' => e = .normal ∧ ∃ Dn, a = { tmps := AR, defers := { target := .collected Dn, args := #[] } :: [{ target := .collected D, args := #[] }] } ∧ W'.heap[Dn]? = some (.deferred (some [])) ∧ V2.heap.size ≤ Dn ∧ Gt Wa.heap.size Wa (L).length (L) W') ?loop2 ?rest2
    case loop2 =>
      refine wpIn_rangeFunc_ownF rfl (by omega) (gf := 42) (lb := #[.pointer (some ⟨BS, 0, none⟩)]) (by subst hAR; rfl) trivial (enters_of Tryd.func42 (by kernel_rfl) rfl)
        (places_stops 2 (by omega) BS Wa.heap.size k k m sb q e3 (by omega) (fun a ha _ => (e7 a ha).2) e5 V2 (by omega) (gV2.cell e1 (by simp)) (e2.kept gV2 (by simp)) (hTW.below (gb_below gV2) hGW)) belowK_t (belowK_b (by omega)) (Below.refl _ _) (fun _ => rfl)
        (I2 Wa.heap.size Wa) (fun _ _ _ => False)
        (fun p A B row hs hg hr => Gt.own hs (by omega) (Nat.le_of_lt (Gt.lt hs)) hg hr)
        (fun c p A B row hs hg hr => hs)
        ⟨⟨_, bV2, World.ownsRow_nil _ _ _ _⟩, gb_below gV2⟩
        (fun x => { tmps := (AR.setIfInBounds 67 (.int .i64 (x.val : Int))).setIfInBounds 17 (.int .i64 (x.val : Int)), defers := [] }) ?assign ?body ?done ?stop
      case assign =>
        intro l x W K hK
        subst hAR
        gi_wp2
        exact hK
      case body =>
        rintro l pre ⟨x, hxm⟩ W ⟨⟨v, h1, h3⟩, hBel⟩ hlen
        subst hAR
        obtain ⟨pv, cv, rfl⟩ := own_sl h3
        have z0 := h1.cell
        have y0 := h1.free
        have HL : Hid (pre.length < 64 * k) := hlen
        clear hlen
        gi_wp2_with (gi_at_builtin; refine wpListIn_append_own _ rfl _ _ 40 rfl Wa.heap.size 3 i0 (.int .i64 0) 1 8 underIn HI.out.1 HI.out.2.1 HI.out.2.2.1 HI.out.2.2.2 rfl (by decide) _ _ _ rfl (h3.alloc _) ⟨W.heap.size, 0, none⟩ 1 1 [.int .i64 (x : Int)] rfl rfl (new1 _ _ _) ?_ ?_ ?_ ?_ ?_; rotate_right; intro v4 w4 hown4 hgrow4 hnil4; obtain ⟨gg, cap4, rfl⟩ := ownsRow_succ hown4; have HA := h3.alloc (.cells #[.int .i64 (x : Int)] 3); have h1a := h1.kept (World.grownBy_alloc W (.cells #[.int .i64 (x : Int)] 3) none) (by simp); have h14 := h1a.kept hgrow4 (h1a.ne HA (by decide)); have z4 := h14.cell; have f4 := h14.free)
        · have GA := gt_add h1 h3 hBel hown4 hgrow4
          have hpl : (pre ++ [(⟨x, hxm⟩ : Fin m)]).length = pre.length + 1 := by simp
          refine ⟨GA.1, GA.2.1, ?_⟩
          show Gt _ _ (pre ++ [(⟨x, hxm⟩ : Fin m)]).length ((pre ++ [(⟨x, hxm⟩ : Fin m)]).map Fin.val) _
          rw [hpl, List.map_append]
          exact GA.2.2
        · first | rfl | (intro u hu; simp at hu; subst hu; rfl)
        · have := HL.out; unfold maxLen; omega
        · have := HL.out; omega
        · have := h1.lt; simp; omega
      case done =>
        rintro Dn ys W hD hS ⟨⟨v, h1, h3⟩, hBel⟩ hK
        have hl : ys.length = (L).length := by rw [← e6, ← hS]; simp
        rw [hS, e6] at h3
        rw [hl] at h3
        exact ⟨rfl, Dn, rfl, hK, hD, ⟨v, h1, h3⟩, hBel⟩
      case stop =>
        rintro D cc pre W _ _ h _
        exact h.elim
    case rest2 =>
    rintro e a W2 ⟨rfl, D2, rfl, hK2, hD2, hG2⟩
    clear e1 e2 e3 e4 e5 e6 e7 e8

    obtain ⟨⟨v2, b2, o2⟩, BL2⟩ := hG2
    have gW2 := gb_of_below BL2
    have Bx2 := BxW.kept gW2 (by simp)
    have x20 := Bx2.cell0
    have x21 := Bx2.cell1
    have X2 := XW.kept gW2 (by simp)
    have own2 := rows_own ownW gW2 (fun r e => by cases e)
    have o12 := rows_own o1 gW2 (fun r e => by cases e)
    have b12 := b1.kept gW2 (by simp)
    have hT2 := hTW.below BL2 hGW
    have MW2 := MW.kept gW2 (by simp)
    have BLW2 : Below w.heap.size w W2 := BLW.trans (BL2.mono BLW.size)
    have hK1 := (gW2.block D (Array.getElem?_eq_some_iff.1 hK).1 (by simp)).trans hK
    have m20 := MW2.cell
    clear ownW o1 b1 hTW MW xw0 xw1
    subst hAR
    have hBX := fun cap sp w h => bitsU N n cap sp (xk f) hx (by omega) w h
    have hPX := fun cap sp w h => refPlacesU N n cap sp (xk f) hx (by omega) w h
    have hLX := plA_len (N := N) hx
    generalize plA N n (xk f) = LX at *
    have hcp := own_cap own2
    obtain ⟨V3, hV3⟩ : ∃ V, W2.alloc (.cells #[.slice none 0 0] 40) = V := ⟨_, rfl⟩
    have gV3 : W2.grownBy V3 none := by rw [← hV3]; exact World.grownBy_alloc _ _ _
    have bV3 : B1 V3 W2.heap.size 40 (.slice none 0 0) := by rw [← hV3]; exact heap_alloc_new W2 _
    have zV3 : W2.heap.size < V3.heap.size := bV3.lt
    have Bx3 := Bx2.kept gV3 (by simp)
    have x30 := Bx3.cell0
    have x31 := Bx3.cell1
    have X3 := X2.kept gV3 (by simp)
    have hT3 := hT2.below (gb_below gV3) (Nat.lt_of_lt_of_le hG0 BLW2.size)
    clear x20 x21
    by_cases hml : most < (L.length : Int)
    · by_cases hm0 : most < 0
      · have hkE : kE most L.length = 0 := by unfold kE; rw [if_pos hml]; omega
        gi_wp2_with (refine ⟨trivial, ?_⟩; gi_at_call 14; refine (callsIn_wide.2 (hBX c (some ⟨b, 0, none⟩) V3 X3.wd)).mono ?_; rintro e y10 ⟨BS3, rfl, sq10, g10⟩)
        refine with_tmps ?_
        intro AR hAR
        rw [hkE] at o12
        have hT10 := hT3.below (gb_below g10) (Nat.lt_of_lt_of_le hG0 (Nat.le_trans BLW2.size gV3.size))
        have lB := sq10.lt
        obtain ⟨sb, k, q, m, e1, e2, e3, e4, e5, e6, e7, e8⟩ := sq10
        obtain ⟨bb, hbb, lb1, lb2⟩ : ∃ bb, (∀ a, sb = some a → k ≠ 0 → a.block = bb) ∧ V3.heap.size ≤ bb ∧ bb < y10.heap.size := by
          cases sb with
          | none => exact ⟨BS3, (fun a ha => by cases ha), e8, lB⟩
          | some a => exact ⟨a.block, (fun a' ha _ => by cases ha; rfl), (e7 a rfl).1, (e7 a rfl).2⟩
        have zz10 := g10.size
        have zzw := BLW2.size
        have b10 := bV3.kept g10 (by simp)
        have bel10 : Below W2.heap.size W2 y10 := (gb_below gV3).trans ((gb_below g10).mono (by omega))
        refine wpIn_mono (Q := fun e a W' => e = .normal ∧ ∃ Dn, a = { tmps := AR, defers := { target := .collected Dn, args := #[] } :: [{ target := .collected D2, args := #[] }, { target := .collected D, args := #[] }] } ∧ W'.heap[Dn]? = some (.deferred (some [])) ∧ y10.heap.size ≤ Dn ∧ G3 W2.heap.size y10.heap.size W2 LX.length LX W') ?loop3 ?rest3
        case loop3 =>
          refine wpIn_rangeFunc_ownF rfl (by omega) (gf := 42) (lb := #[.pointer (some ⟨BS3, 0, none⟩)]) (by subst hAR; rfl) trivial (enters_of Tryd.func42 (by kernel_rfl) rfl)
            (places_stopsK 2 (by omega) BS3 bb k k m sb q e3 hbb e5 y10 e1 e2 hT10) Kf.trans (Kf.put lb2 (by omega)) (Below.refl _ _) (fun _ => rfl)
            (I3 W2.heap.size y10.heap.size W2) (fun _ _ _ => False)
            (fun p A B row hs hg hr => G3.own hs (by omega) hg hr)
            (fun c p A B row hs hg hr => hs)
            ⟨⟨_, b10, World.ownsRow_nil _ _ _ _⟩, bel10, Nat.le_refl _⟩
            (fun x => { tmps := (AR.setIfInBounds 83 (.int .i64 (x.val : Int))).setIfInBounds 20 (.int .i64 (x.val : Int)), defers := [] }) ?assign ?body ?done ?stop
          case assign =>
            intro l x W K hK
            subst hAR
            gi_wp2
            exact hK
          case body =>
            rintro l pre ⟨x, hxm⟩ W ⟨⟨v, h1, h3⟩, hBel, hz3⟩ hlen
            subst hAR
            obtain ⟨pv, cv, rfl⟩ := own_sl h3
            have z0 := h1.cell
            have y0 := h1.free
            have HL : Hid (pre.length < 64 * k) := hlen
            clear hlen
            gi_wp2_with (gi_at_builtin; refine wpListIn_append_own _ rfl _ _ 40 rfl y10.heap.size 3 i0 (.int .i64 0) 1 8 underIn HI.out.1 HI.out.2.1 HI.out.2.2.1 HI.out.2.2.2 rfl (by decide) _ _ _ rfl (h3.alloc _) ⟨W.heap.size, 0, none⟩ 1 1 [.int .i64 (x : Int)] rfl rfl (new1 _ _ _) ?_ ?_ ?_ ?_ ?_; rotate_right; intro v4 w4 hown4 hgrow4 hnil4; obtain ⟨gg, cap4, rfl⟩ := ownsRow_succ hown4; have HA := h3.alloc (.cells #[.int .i64 (x : Int)] 3); have h1a := h1.kept (World.grownBy_alloc W (.cells #[.int .i64 (x : Int)] 3) none) (by simp); have h14 := h1a.kept hgrow4 (h1a.ne HA (by decide)); have z4 := h14.cell; have f4 := h14.free)
            · have GA := g3_add h1 h3 hBel (by omega) hz3 hown4 hgrow4
              have hpl : (pre ++ [(⟨x, hxm⟩ : Fin m)]).length = pre.length + 1 := by simp
              refine ⟨GA.1, ⟨GA.2.1 bb lb2 (by omega), GA.2.1 0 (by omega) (by omega)⟩, ?_⟩
              show G3 _ _ _ (pre ++ [(⟨x, hxm⟩ : Fin m)]).length ((pre ++ [(⟨x, hxm⟩ : Fin m)]).map Fin.val) _
              rw [hpl, List.map_append]
              exact GA.2.2
            · first | rfl | (intro u hu; simp at hu; subst hu; rfl)
            · have := HL.out; unfold maxLen; omega
            · have := HL.out; omega
            · simp; omega
          case done =>
            rintro Dn ys W hD hS ⟨⟨v, h1, h3⟩, hBel, hz3⟩ hK
            have hl : ys.length = LX.length := by rw [← e6, ← hS]; simp
            rw [hS, e6] at h3
            rw [hl] at h3
            exact ⟨rfl, Dn, rfl, hK, hD, ⟨v, h1, h3⟩, hBel, hz3⟩
          case stop =>
            rintro D cc pre W _ _ h _
            exact h.elim
        case rest3 =>
        rintro e a W3 ⟨rfl, D3, rfl, hK3, hD3, ⟨v3, b3, o3⟩, BL3, hz3⟩
        have gW3 := gb_of_below BL3
        clear e1 e2 e3 e4 e5 e6 e7 e8
        have Bx4 := Bx2.kept gW3 (by simp)
        have x40 := Bx4.cell0
        have x41 := Bx4.cell1
        have X4 := X2.kept gW3 (by simp)
        have own3 := rows_own own2 gW3 (fun r e => by cases e)
        have o13 := rows_own o12 gW3 (fun r e => by cases e)
        have o23 := rows_own o2 gW3 (fun r e => by cases e)
        have b13 := b12.kept gW3 (by simp)
        have b23 := b2.kept gW3 (by simp)
        have BLW3 : Below w.heap.size w W3 := BLW2.trans (BL3.mono BLW2.size)
        have hKa := (gW3.block D (Array.getElem?_eq_some_iff.1 hK1).1 (by simp)).trans hK1
        have hKb := (gW3.block D2 (Array.getElem?_eq_some_iff.1 hK2).1 (by simp)).trans hK2
        obtain ⟨p1, c1, rfl⟩ := own_sl o13
        obtain ⟨p2, c2, rfl⟩ := own_sl o23
        obtain ⟨p3, c3, rfl⟩ := own_sl o3
        have z1 := b13.cell
        have z2 := b23.cell
        have z3 := b3.cell
        clear x30 x31
        subst hAR
        gi_wp2_with (first | (refine ⟨trivial, ?_⟩; gi_at_call 15; (fail_if_success (guard_hyp gs1)); refine (callsIn_wide.2 (same_n (l := L.take (0)) (by rw [List.length_take]; omega) (by omega) p1 pp c1 cp W3 (ri_own o13) (ri_take (ri_own own3) _))).mono ?_; rintro e u1 ⟨rfl, gs1⟩; have z21 := (b23.kept gs1 (by simp)).cell; have z31 := (b3.kept gs1 (by simp)).cell; have Bx5 := Bx4.kept gs1 (by simp); have x50 := Bx5.cell0; have x51 := Bx5.cell1) | (refine ⟨trivial, ?_⟩; gi_at_call 15; guard_hyp gs1; (fail_if_success (guard_hyp gs2)); refine (callsIn_wide.2 (same_n (l := L) rfl (by omega) p2 pp c2 cp u1 ((ri_own o23).kept gs1 (by simp)) ((ri_own own3).kept gs1 (by simp)))).mono ?_; rintro e u2 ⟨rfl, gs2⟩; have gs12 := gb_trans gs1 gs2; have z32 := (b3.kept gs12 (by simp)).cell; have Bx6 := Bx4.kept gs12 (by simp); have x60 := Bx6.cell0; have x61 := Bx6.cell1))
        have gd : W3.grownBy u2.drew none := gb_drew gs12
        refine then_false ?_
        gi_region_with (first | (refine ⟨trivial, ?_⟩; gi_at_call 13; refine (callsIn_wide.2 (hPX c (some ⟨b, 0, none⟩) _ (X4.kept gd (by simp)).wd)).mono ?_; rintro e u3 ⟨vq, rfl, oq, gs3⟩; obtain ⟨p4, c4, rfl⟩ := own_sl oq; have gz3 := gb_trans gd gs3; have z33 := (b3.kept gz3 (by simp)).cell) | (refine ⟨trivial, ?_⟩; gi_at_call 15; refine (callsIn_wide.2 (same_n (l := LX) rfl (by omega) p3 p4 c3 c4 u3 ((ri_own o3).kept gz3 (by simp)) (ri_own oq))).mono ?_; rintro e u4 ⟨rfl, gs4⟩))
        all_goals
          have GE := gb_trans gz3 gs4
          have lD := (Array.getElem?_eq_some_iff.1 hK).1
          have lD2 := (Array.getElem?_eq_some_iff.1 hK2).1
          have lD3 := (Array.getElem?_eq_some_iff.1 hK3).1
          have lDa := (Array.getElem?_eq_some_iff.1 hKa).1
          have lDb := (Array.getElem?_eq_some_iff.1 hKb).1
          have zE := GE.size
          have z9 := BL9.size
          have zW3 := BLW3.size
          have zW := BLW.size
          have kE1 := (GE.block D lDa (by simp)).trans hKa
          have kE2 := (GE.block D2 lDb (by simp)).trans hKb
          have kE3 := (GE.block D3 lD3 (by simp)).trans hK3
          have MK : Marks w.heap.size u4.heap.size [{ target := .collected D3, args := #[] }, { target := .collected D2, args := #[] }, { target := .collected D, args := #[] }] u4 := ⟨⟨D3, rfl, by omega, by omega, kE3, by simp; omega⟩, ⟨D2, rfl, by omega, by omega, kE2, by simp; omega⟩, ⟨D, rfl, by omega, by omega, kE1, by simp⟩, trivial⟩
          have BE : Below w.heap.size w u4 := BLW3.trans ((gb_below GE).mono zW3)
          gi_wp2
          refine leaves_marks _ _ MK BE.size (fun W' hb hc => ?_)
          exact ⟨_, results_tmp rfl _ _ _, rfl, BE.trans hb⟩
      · have hkE : kE most L.length = most.toNat := by unfold kE; rw [if_pos hml]
        have hmc : ¬ ((cp : Int) < most) := by omega
        have hmc' : most ≤ (cp : Int) := by omega
        gi_wp2_with (refine ⟨trivial, ?_⟩; gi_at_call 14; refine (callsIn_wide.2 (hBX c (some ⟨b, 0, none⟩) V3 X3.wd)).mono ?_; rintro e y10 ⟨BS3, rfl, sq10, g10⟩)
        refine with_tmps ?_
        intro AR hAR
        rw [hkE] at o12
        have hT10 := hT3.below (gb_below g10) (Nat.lt_of_lt_of_le hG0 (Nat.le_trans BLW2.size gV3.size))
        have lB := sq10.lt
        obtain ⟨sb, k, q, m, e1, e2, e3, e4, e5, e6, e7, e8⟩ := sq10
        obtain ⟨bb, hbb, lb1, lb2⟩ : ∃ bb, (∀ a, sb = some a → k ≠ 0 → a.block = bb) ∧ V3.heap.size ≤ bb ∧ bb < y10.heap.size := by
          cases sb with
          | none => exact ⟨BS3, (fun a ha => by cases ha), e8, lB⟩
          | some a => exact ⟨a.block, (fun a' ha _ => by cases ha; rfl), (e7 a rfl).1, (e7 a rfl).2⟩
        have zz10 := g10.size
        have zzw := BLW2.size
        have b10 := bV3.kept g10 (by simp)
        have bel10 : Below W2.heap.size W2 y10 := (gb_below gV3).trans ((gb_below g10).mono (by omega))
        refine wpIn_mono (Q := fun e a W' => e = .normal ∧ ∃ Dn, a = { tmps := AR, defers := { target := .collected Dn, args := #[] } :: [{ target := .collected D2, args := #[] }, { target := .collected D, args := #[] }] } ∧ W'.heap[Dn]? = some (.deferred (some [])) ∧ y10.heap.size ≤ Dn ∧ G3 W2.heap.size y10.heap.size W2 LX.length LX W') ?loop3 ?rest3
        case loop3 =>
          refine wpIn_rangeFunc_ownF rfl (by omega) (gf := 42) (lb := #[.pointer (some ⟨BS3, 0, none⟩)]) (by subst hAR; rfl) trivial (enters_of Tryd.func42 (by kernel_rfl) rfl)
            (places_stopsK 2 (by omega) BS3 bb k k m sb q e3 hbb e5 y10 e1 e2 hT10) Kf.trans (Kf.put lb2 (by omega)) (Below.refl _ _) (fun _ => rfl)
            (I3 W2.heap.size y10.heap.size W2) (fun _ _ _ => False)
            (fun p A B row hs hg hr => G3.own hs (by omega) hg hr)
            (fun c p A B row hs hg hr => hs)
            ⟨⟨_, b10, World.ownsRow_nil _ _ _ _⟩, bel10, Nat.le_refl _⟩
            (fun x => { tmps := (AR.setIfInBounds 83 (.int .i64 (x.val : Int))).setIfInBounds 20 (.int .i64 (x.val : Int)), defers := [] }) ?assign ?body ?done ?stop
          case assign =>
            intro l x W K hK
            subst hAR
            gi_wp2
            exact hK
          case body =>
            rintro l pre ⟨x, hxm⟩ W ⟨⟨v, h1, h3⟩, hBel, hz3⟩ hlen
            subst hAR
            obtain ⟨pv, cv, rfl⟩ := own_sl h3
            have z0 := h1.cell
            have y0 := h1.free
            have HL : Hid (pre.length < 64 * k) := hlen
            clear hlen
            gi_wp2_with (gi_at_builtin; refine wpListIn_append_own _ rfl _ _ 40 rfl y10.heap.size 3 i0 (.int .i64 0) 1 8 underIn HI.out.1 HI.out.2.1 HI.out.2.2.1 HI.out.2.2.2 rfl (by decide) _ _ _ rfl (h3.alloc _) ⟨W.heap.size, 0, none⟩ 1 1 [.int .i64 (x : Int)] rfl rfl (new1 _ _ _) ?_ ?_ ?_ ?_ ?_; rotate_right; intro v4 w4 hown4 hgrow4 hnil4; obtain ⟨gg, cap4, rfl⟩ := ownsRow_succ hown4; have HA := h3.alloc (.cells #[.int .i64 (x : Int)] 3); have h1a := h1.kept (World.grownBy_alloc W (.cells #[.int .i64 (x : Int)] 3) none) (by simp); have h14 := h1a.kept hgrow4 (h1a.ne HA (by decide)); have z4 := h14.cell; have f4 := h14.free)
            · have GA := g3_add h1 h3 hBel (by omega) hz3 hown4 hgrow4
              have hpl : (pre ++ [(⟨x, hxm⟩ : Fin m)]).length = pre.length + 1 := by simp
              refine ⟨GA.1, ⟨GA.2.1 bb lb2 (by omega), GA.2.1 0 (by omega) (by omega)⟩, ?_⟩
              show G3 _ _ _ (pre ++ [(⟨x, hxm⟩ : Fin m)]).length ((pre ++ [(⟨x, hxm⟩ : Fin m)]).map Fin.val) _
              rw [hpl, List.map_append]
              exact GA.2.2
            · first | rfl | (intro u hu; simp at hu; subst hu; rfl)
            · have := HL.out; unfold maxLen; omega
            · have := HL.out; omega
            · simp; omega
          case done =>
            rintro Dn ys W hD hS ⟨⟨v, h1, h3⟩, hBel, hz3⟩ hK
            have hl : ys.length = LX.length := by rw [← e6, ← hS]; simp
            rw [hS, e6] at h3
            rw [hl] at h3
            exact ⟨rfl, Dn, rfl, hK, hD, ⟨v, h1, h3⟩, hBel, hz3⟩
          case stop =>
            rintro D cc pre W _ _ h _
            exact h.elim
        case rest3 =>
        rintro e a W3 ⟨rfl, D3, rfl, hK3, hD3, ⟨v3, b3, o3⟩, BL3, hz3⟩
        have gW3 := gb_of_below BL3
        clear e1 e2 e3 e4 e5 e6 e7 e8
        have Bx4 := Bx2.kept gW3 (by simp)
        have x40 := Bx4.cell0
        have x41 := Bx4.cell1
        have X4 := X2.kept gW3 (by simp)
        have own3 := rows_own own2 gW3 (fun r e => by cases e)
        have o13 := rows_own o12 gW3 (fun r e => by cases e)
        have o23 := rows_own o2 gW3 (fun r e => by cases e)
        have b13 := b12.kept gW3 (by simp)
        have b23 := b2.kept gW3 (by simp)
        have BLW3 : Below w.heap.size w W3 := BLW2.trans (BL3.mono BLW2.size)
        have hKa := (gW3.block D (Array.getElem?_eq_some_iff.1 hK1).1 (by simp)).trans hK1
        have hKb := (gW3.block D2 (Array.getElem?_eq_some_iff.1 hK2).1 (by simp)).trans hK2
        obtain ⟨p1, c1, rfl⟩ := own_sl o13
        obtain ⟨p2, c2, rfl⟩ := own_sl o23
        obtain ⟨p3, c3, rfl⟩ := own_sl o3
        have z1 := b13.cell
        have z2 := b23.cell
        have z3 := b3.cell
        clear x30 x31
        subst hAR
        gi_wp2_with (first | (refine ⟨trivial, ?_⟩; gi_at_call 15; (fail_if_success (guard_hyp gs1)); refine (callsIn_wide.2 (same_n (l := L.take (most.toNat)) (by rw [List.length_take]; omega) (by omega) p1 pp c1 cp W3 (ri_own o13) (ri_take (ri_own own3) _))).mono ?_; rintro e u1 ⟨rfl, gs1⟩; have z21 := (b23.kept gs1 (by simp)).cell; have z31 := (b3.kept gs1 (by simp)).cell; have Bx5 := Bx4.kept gs1 (by simp); have x50 := Bx5.cell0; have x51 := Bx5.cell1) | (refine ⟨trivial, ?_⟩; gi_at_call 15; guard_hyp gs1; (fail_if_success (guard_hyp gs2)); refine (callsIn_wide.2 (same_n (l := L) rfl (by omega) p2 pp c2 cp u1 ((ri_own o23).kept gs1 (by simp)) ((ri_own own3).kept gs1 (by simp)))).mono ?_; rintro e u2 ⟨rfl, gs2⟩; have gs12 := gb_trans gs1 gs2; have z32 := (b3.kept gs12 (by simp)).cell; have Bx6 := Bx4.kept gs12 (by simp); have x60 := Bx6.cell0; have x61 := Bx6.cell1))
        have gd : W3.grownBy u2.drew none := gb_drew gs12
        refine then_false ?_
        gi_region_with (first | (refine ⟨trivial, ?_⟩; gi_at_call 13; refine (callsIn_wide.2 (hPX c (some ⟨b, 0, none⟩) _ (X4.kept gd (by simp)).wd)).mono ?_; rintro e u3 ⟨vq, rfl, oq, gs3⟩; obtain ⟨p4, c4, rfl⟩ := own_sl oq; have gz3 := gb_trans gd gs3; have z33 := (b3.kept gz3 (by simp)).cell) | (refine ⟨trivial, ?_⟩; gi_at_call 15; refine (callsIn_wide.2 (same_n (l := LX) rfl (by omega) p3 p4 c3 c4 u3 ((ri_own o3).kept gz3 (by simp)) (ri_own oq))).mono ?_; rintro e u4 ⟨rfl, gs4⟩))
        all_goals
          have GE := gb_trans gz3 gs4
          have lD := (Array.getElem?_eq_some_iff.1 hK).1
          have lD2 := (Array.getElem?_eq_some_iff.1 hK2).1
          have lD3 := (Array.getElem?_eq_some_iff.1 hK3).1
          have lDa := (Array.getElem?_eq_some_iff.1 hKa).1
          have lDb := (Array.getElem?_eq_some_iff.1 hKb).1
          have zE := GE.size
          have z9 := BL9.size
          have zW3 := BLW3.size
          have zW := BLW.size
          have kE1 := (GE.block D lDa (by simp)).trans hKa
          have kE2 := (GE.block D2 lDb (by simp)).trans hKb
          have kE3 := (GE.block D3 lD3 (by simp)).trans hK3
          have MK : Marks w.heap.size u4.heap.size [{ target := .collected D3, args := #[] }, { target := .collected D2, args := #[] }, { target := .collected D, args := #[] }] u4 := ⟨⟨D3, rfl, by omega, by omega, kE3, by simp; omega⟩, ⟨D2, rfl, by omega, by omega, kE2, by simp; omega⟩, ⟨D, rfl, by omega, by omega, kE1, by simp⟩, trivial⟩
          have BE : Below w.heap.size w u4 := BLW3.trans ((gb_below GE).mono zW3)
          gi_wp2
          refine leaves_marks _ _ MK BE.size (fun W' hb hc => ?_)
          exact ⟨_, results_tmp rfl _ _ _, rfl, BE.trans hb⟩
    · have hkE : kE most L.length = L.length := by unfold kE; rw [if_neg hml]
      gi_wp2_with (refine ⟨trivial, ?_⟩; gi_at_call 14; refine (callsIn_wide.2 (hBX c (some ⟨b, 0, none⟩) V3 X3.wd)).mono ?_; rintro e y10 ⟨BS3, rfl, sq10, g10⟩)
      refine with_tmps ?_
      intro AR hAR
      rw [hkE] at o12
      have hT10 := hT3.below (gb_below g10) (Nat.lt_of_lt_of_le hG0 (Nat.le_trans BLW2.size gV3.size))
      have lB := sq10.lt
      obtain ⟨sb, k, q, m, e1, e2, e3, e4, e5, e6, e7, e8⟩ := sq10
      obtain ⟨bb, hbb, lb1, lb2⟩ : ∃ bb, (∀ a, sb = some a → k ≠ 0 → a.block = bb) ∧ V3.heap.size ≤ bb ∧ bb < y10.heap.size := by
        cases sb with
        | none => exact ⟨BS3, (fun a ha => by cases ha), e8, lB⟩
        | some a => exact ⟨a.block, (fun a' ha _ => by cases ha; rfl), (e7 a rfl).1, (e7 a rfl).2⟩
      have zz10 := g10.size
      have zzw := BLW2.size
      have b10 := bV3.kept g10 (by simp)
      have bel10 : Below W2.heap.size W2 y10 := (gb_below gV3).trans ((gb_below g10).mono (by omega))
      refine wpIn_mono (Q := fun e a W' => e = .normal ∧ ∃ Dn, a = { tmps := AR, defers := { target := .collected Dn, args := #[] } :: [{ target := .collected D2, args := #[] }, { target := .collected D, args := #[] }] } ∧ W'.heap[Dn]? = some (.deferred (some [])) ∧ y10.heap.size ≤ Dn ∧ G3 W2.heap.size y10.heap.size W2 LX.length LX W') ?loop3 ?rest3
      case loop3 =>
        refine wpIn_rangeFunc_ownF rfl (by omega) (gf := 42) (lb := #[.pointer (some ⟨BS3, 0, none⟩)]) (by subst hAR; rfl) trivial (enters_of Tryd.func42 (by kernel_rfl) rfl)
          (places_stopsK 2 (by omega) BS3 bb k k m sb q e3 hbb e5 y10 e1 e2 hT10) Kf.trans (Kf.put lb2 (by omega)) (Below.refl _ _) (fun _ => rfl)
          (I3 W2.heap.size y10.heap.size W2) (fun _ _ _ => False)
          (fun p A B row hs hg hr => G3.own hs (by omega) hg hr)
          (fun c p A B row hs hg hr => hs)
          ⟨⟨_, b10, World.ownsRow_nil _ _ _ _⟩, bel10, Nat.le_refl _⟩
          (fun x => { tmps := (AR.setIfInBounds 83 (.int .i64 (x.val : Int))).setIfInBounds 20 (.int .i64 (x.val : Int)), defers := [] }) ?assign ?body ?done ?stop
        case assign =>
          intro l x W K hK
          subst hAR
          gi_wp2
          exact hK
        case body =>
          rintro l pre ⟨x, hxm⟩ W ⟨⟨v, h1, h3⟩, hBel, hz3⟩ hlen
          subst hAR
          obtain ⟨pv, cv, rfl⟩ := own_sl h3
          have z0 := h1.cell
          have y0 := h1.free
          have HL : Hid (pre.length < 64 * k) := hlen
          clear hlen
          gi_wp2_with (gi_at_builtin; refine wpListIn_append_own _ rfl _ _ 40 rfl y10.heap.size 3 i0 (.int .i64 0) 1 8 underIn HI.out.1 HI.out.2.1 HI.out.2.2.1 HI.out.2.2.2 rfl (by decide) _ _ _ rfl (h3.alloc _) ⟨W.heap.size, 0, none⟩ 1 1 [.int .i64 (x : Int)] rfl rfl (new1 _ _ _) ?_ ?_ ?_ ?_ ?_; rotate_right; intro v4 w4 hown4 hgrow4 hnil4; obtain ⟨gg, cap4, rfl⟩ := ownsRow_succ hown4; have HA := h3.alloc (.cells #[.int .i64 (x : Int)] 3); have h1a := h1.kept (World.grownBy_alloc W (.cells #[.int .i64 (x : Int)] 3) none) (by simp); have h14 := h1a.kept hgrow4 (h1a.ne HA (by decide)); have z4 := h14.cell; have f4 := h14.free)
          · have GA := g3_add h1 h3 hBel (by omega) hz3 hown4 hgrow4
            have hpl : (pre ++ [(⟨x, hxm⟩ : Fin m)]).length = pre.length + 1 := by simp
            refine ⟨GA.1, ⟨GA.2.1 bb lb2 (by omega), GA.2.1 0 (by omega) (by omega)⟩, ?_⟩
            show G3 _ _ _ (pre ++ [(⟨x, hxm⟩ : Fin m)]).length ((pre ++ [(⟨x, hxm⟩ : Fin m)]).map Fin.val) _
            rw [hpl, List.map_append]
            exact GA.2.2
          · first | rfl | (intro u hu; simp at hu; subst hu; rfl)
          · have := HL.out; unfold maxLen; omega
          · have := HL.out; omega
          · simp; omega
        case done =>
          rintro Dn ys W hD hS ⟨⟨v, h1, h3⟩, hBel, hz3⟩ hK
          have hl : ys.length = LX.length := by rw [← e6, ← hS]; simp
          rw [hS, e6] at h3
          rw [hl] at h3
          exact ⟨rfl, Dn, rfl, hK, hD, ⟨v, h1, h3⟩, hBel, hz3⟩
        case stop =>
          rintro D cc pre W _ _ h _
          exact h.elim
      case rest3 =>
      rintro e a W3 ⟨rfl, D3, rfl, hK3, hD3, ⟨v3, b3, o3⟩, BL3, hz3⟩
      have gW3 := gb_of_below BL3
      clear e1 e2 e3 e4 e5 e6 e7 e8
      have Bx4 := Bx2.kept gW3 (by simp)
      have x40 := Bx4.cell0
      have x41 := Bx4.cell1
      have X4 := X2.kept gW3 (by simp)
      have own3 := rows_own own2 gW3 (fun r e => by cases e)
      have o13 := rows_own o12 gW3 (fun r e => by cases e)
      have o23 := rows_own o2 gW3 (fun r e => by cases e)
      have b13 := b12.kept gW3 (by simp)
      have b23 := b2.kept gW3 (by simp)
      have BLW3 : Below w.heap.size w W3 := BLW2.trans (BL3.mono BLW2.size)
      have hKa := (gW3.block D (Array.getElem?_eq_some_iff.1 hK1).1 (by simp)).trans hK1
      have hKb := (gW3.block D2 (Array.getElem?_eq_some_iff.1 hK2).1 (by simp)).trans hK2
      obtain ⟨p1, c1, rfl⟩ := own_sl o13
      obtain ⟨p2, c2, rfl⟩ := own_sl o23
      obtain ⟨p3, c3, rfl⟩ := own_sl o3
      have z1 := b13.cell
      have z2 := b23.cell
      have z3 := b3.cell
      clear x30 x31
      subst hAR
      gi_wp2_with (first | (refine ⟨trivial, ?_⟩; gi_at_call 15; (fail_if_success (guard_hyp gs1)); refine (callsIn_wide.2 (same_n (l := L.take (L.length)) (by rw [List.length_take]; omega) (by omega) p1 pp c1 cp W3 (ri_own o13) (ri_take (ri_own own3) _))).mono ?_; rintro e u1 ⟨rfl, gs1⟩; have z21 := (b23.kept gs1 (by simp)).cell; have z31 := (b3.kept gs1 (by simp)).cell; have Bx5 := Bx4.kept gs1 (by simp); have x50 := Bx5.cell0; have x51 := Bx5.cell1) | (refine ⟨trivial, ?_⟩; gi_at_call 15; guard_hyp gs1; (fail_if_success (guard_hyp gs2)); refine (callsIn_wide.2 (same_n (l := L) rfl (by omega) p2 pp c2 cp u1 ((ri_own o23).kept gs1 (by simp)) ((ri_own own3).kept gs1 (by simp)))).mono ?_; rintro e u2 ⟨rfl, gs2⟩; have gs12 := gb_trans gs1 gs2; have z32 := (b3.kept gs12 (by simp)).cell; have Bx6 := Bx4.kept gs12 (by simp); have x60 := Bx6.cell0; have x61 := Bx6.cell1))
      have gd : W3.grownBy u2.drew none := gb_drew gs12
      refine then_false ?_
      gi_region_with (first | (refine ⟨trivial, ?_⟩; gi_at_call 13; refine (callsIn_wide.2 (hPX c (some ⟨b, 0, none⟩) _ (X4.kept gd (by simp)).wd)).mono ?_; rintro e u3 ⟨vq, rfl, oq, gs3⟩; obtain ⟨p4, c4, rfl⟩ := own_sl oq; have gz3 := gb_trans gd gs3; have z33 := (b3.kept gz3 (by simp)).cell) | (refine ⟨trivial, ?_⟩; gi_at_call 15; refine (callsIn_wide.2 (same_n (l := LX) rfl (by omega) p3 p4 c3 c4 u3 ((ri_own o3).kept gz3 (by simp)) (ri_own oq))).mono ?_; rintro e u4 ⟨rfl, gs4⟩))
      all_goals
        have GE := gb_trans gz3 gs4
        have lD := (Array.getElem?_eq_some_iff.1 hK).1
        have lD2 := (Array.getElem?_eq_some_iff.1 hK2).1
        have lD3 := (Array.getElem?_eq_some_iff.1 hK3).1
        have lDa := (Array.getElem?_eq_some_iff.1 hKa).1
        have lDb := (Array.getElem?_eq_some_iff.1 hKb).1
        have zE := GE.size
        have z9 := BL9.size
        have zW3 := BLW3.size
        have zW := BLW.size
        have kE1 := (GE.block D lDa (by simp)).trans hKa
        have kE2 := (GE.block D2 lDb (by simp)).trans hKb
        have kE3 := (GE.block D3 lD3 (by simp)).trans hK3
        have MK : Marks w.heap.size u4.heap.size [{ target := .collected D3, args := #[] }, { target := .collected D2, args := #[] }, { target := .collected D, args := #[] }] u4 := ⟨⟨D3, rfl, by omega, by omega, kE3, by simp; omega⟩, ⟨D2, rfl, by omega, by omega, kE2, by simp; omega⟩, ⟨D, rfl, by omega, by omega, kE1, by simp⟩, trivial⟩
        have BE : Below w.heap.size w u4 := BLW3.trans ((gb_below GE).mono zW3)
        gi_wp2
        refine leaves_marks _ _ MK BE.size (fun W' hb hc => ?_)
        exact ⟨_, results_tmp rfl _ _ _, rfl, BE.trans hb⟩

  done
end Go.Proofs.YtcdefpfnjjahgaaDoor
