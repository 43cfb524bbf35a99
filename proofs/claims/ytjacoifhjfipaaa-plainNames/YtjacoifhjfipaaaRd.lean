/- Read of package plain: what it answers. -/
import Derived.Test.YtjacoifhjfipaaaRp
import Derived.Test.YtjacoifhjfipaaaSi
import Derived.RangeFuncFrom
namespace Go.Proofs.Ytjacoifhjfipaaa
open Go.RowKit Go.Shelf
set_option linter.unusedVariables false
set_option linter.unusedSimpArgs false
attribute [local go_sem] Oper.semAt_some

theorem with_tmps {c : Code} {F : Fence} {n : Nat} {P : Program} {Q : Exit → Act → World → Prop} {t : Array Value} {d : List Deferred} {w : World} (h : ∀ AR, AR = t → c.wpIn F n P Q { tmps := AR, defers := d } w) : c.wpIn F n P Q { tmps := t, defers := d } w := h t rfl
theorem b1n (w : World) (t : TypeId) (v : Value) {n : Nat} (h : w.heap.size = n) : B1 (w.alloc (.cells #[v] t)) n t v ∧ (w.alloc (.cells #[v] t)).heap.size = n + 1 := by
  subst h
  exact ⟨heap_alloc_new w _, World.size_alloc _ _⟩
theorem box6 (w : World) (t1 t2 t3 t4 t5 t6 : TypeId) (v1 v2 v3 v4 v5 v6 : Value) : ∃ W, (((((w.alloc (.cells #[v1] t1)).alloc (.cells #[v2] t2)).alloc (.cells #[v3] t3)).alloc (.cells #[v4] t4)).alloc (.cells #[v5] t5)).alloc (.cells #[v6] t6) = W ∧ B1 W w.heap.size t1 v1 ∧ B1 W (w.heap.size + 1) t2 v2 ∧ B1 W (w.heap.size + 1 + 1) t3 v3 ∧ B1 W (w.heap.size + 1 + 1 + 1) t4 v4 ∧ B1 W (w.heap.size + 1 + 1 + 1 + 1) t5 v5 ∧ B1 W (w.heap.size + 1 + 1 + 1 + 1 + 1) t6 v6 ∧ w.grownBy W none ∧ Hid (W.heap.size = w.heap.size + 1 + 1 + 1 + 1 + 1 + 1) := by
  obtain ⟨a1, s1⟩ := b1n w t1 v1 rfl
  obtain ⟨a2, s2⟩ := b1n (w.alloc (.cells #[v1] t1)) t2 v2 s1
  obtain ⟨a3, s3⟩ := b1n _ t3 v3 s2
  obtain ⟨a4, s4⟩ := b1n _ t4 v4 s3
  obtain ⟨a5, s5⟩ := b1n _ t5 v5 s4
  obtain ⟨a6, s6⟩ := b1n _ t6 v6 s5
  have k : ∀ {W : World} {g : Nat} {t : TypeId} {v : Value} (o : Obj), B1 W g t v → B1 (W.alloc o) g t v := fun o h => h.kept (World.grownBy_alloc _ o none) (by simp)
  exact ⟨_, rfl, k _ (k _ (k _ (k _ (k _ a1)))), k _ (k _ (k _ (k _ a2))), k _ (k _ (k _ a3)), k _ (k _ a4), k _ a5, a6, gb_alloc (gb_alloc (gb_alloc (gb_alloc (gb_alloc (World.grownBy_alloc _ _ _) _) _) _) _) _, s6⟩
abbrev Ln (s : ByteArray) := {x : Nat // x ≤ s.size}
def vals {s : ByteArray} (l : List (Ln s)) : List Nat := l.map (·.val)
theorem vals_snoc {s : ByteArray} (l : List (Ln s)) (x : Ln s) : vals (l ++ [x]) = vals l ++ [x.val] := by unfold vals; simp
theorem lines_stops2 (n : Nat) (hn : 1 ≤ n) (Bs : Nat) (s : ByteArray) (hs : s.size ≤ maxLen) (w : World) (hBs : w.cell? ⟨Bs, 0, none⟩ = some (.string s)) :
    SeqStopsK Fence.wide n Try.prog 40 #[.pointer (some ⟨Bs, 0, none⟩)] (fun x : Ln s => lineV s x.val) (Kb Bs) (fun ys => vals ys = lns s) (fun pre => ∃ q, vals pre ++ q = lns s) (s.size + 1) w := fun l J Jx W hW hA _ hY h0 => by
  have hb := cell_lt hBs
  refine (lines1_in n hn l Bs s hs (fun pre W => ∃ p : List (Ln s), p.map (·.val) = pre ∧ J p W) (fun pre W => ∃ p : List (Ln s), p.map (·.val) = pre ∧ Jx p W) ?_ W ((hW.cell (p := ⟨Bs, 0, none⟩) hb).trans hBs) ?_ ⟨[], rfl, h0⟩).mono ?_
  · rintro pre x W hx ⟨p, rfl, hJ⟩ hl
    obtain ⟨fn, tmps, assign, body, hy, hR⟩ := hY p ⟨x, hx⟩ W hJ (by simpa using hl)
    refine ⟨fn, tmps, assign, body, hy, hR.mono ?_⟩
    rintro e W' (⟨rfl, h1, h2⟩ | ⟨rfl, h1⟩)
    · exact .inl ⟨rfl, ⟨p ++ [⟨x, hx⟩], by simp, h1⟩, h2⟩
    · exact .inr ⟨rfl, ⟨p ++ [⟨x, hx⟩], by simp, h1⟩⟩
  · rintro pre W k ⟨p, rfl, hJ⟩
    exact ⟨p, rfl, hA p W (W.drewN k) none hJ (gb_drewN (World.grownBy.refl _ _) _) (fun r e => by cases e)⟩
  · rintro e W' ⟨hv, ⟨ys, h1, p, h2, h3⟩ | ⟨pre, h1, p, h2, h3⟩⟩
    · exact ⟨hv, .inl ⟨p, show vals p = lns s from h2.trans h1, h3⟩⟩
    · exact ⟨hv, .inr ⟨p, show ∃ q, vals p ++ q = lns s from by rw [show vals p = pre from h2]; exact h1, h3⟩⟩
theorem gb_of_below {w w' : World} (h : Below w.heap.size w w') : w.grownBy w' none := ⟨h.os, h.tape, h.output, h.size, fun k hk _ => h.block k hk⟩
/-- The end of a function that has one mark among its deferred calls, whose record holds no call. -/
theorem leaves_one {F : Fence} {n : Nat} {P : Program} {fn : Func} {tmps : Array Value} {R : Ending → World → Prop} {D n0 : Nat} {W U : World} (hK : W.heap[D]? = some (.deferred (some []))) (hD : n0 ≤ D) (ko : KeepsOthers W U)
    (h : ∀ W', U.grownBy W' (some D) → LeavesIn F n P fn tmps R [] .returning W') : LeavesInM F n P fn tmps R [{ target := .collected D, args := #[] }] .returning U :=
  ⟨by simp, .inl ⟨_, _, rfl, run_takeDeferred (ko.same D _ hK rfl), h _ (grownBy_putObj' _ D _)⟩⟩
/-- What Read leaves. -/
def rdE (s : ByteArray) : Int := if 1048576 < s.size then 3 else if (rd s).2.isSome then 230 else 0
def rdP (s : ByteArray) : Nat := if 1048576 < s.size then 0 else (rd s).2.getD 0
def rdC (s : ByteArray) : List Cx := if 1048576 < s.size then [] else if (rd s).2.isSome then [] else (rd s).1
def LeftR (w : World) (s : ByteArray) (e : Ending) (w' : World) : Prop := ∃ v, e = .returned (.tuple #[v, .int .i64 (rdP s : Nat), .int .i64 (rdE s)]) ∧ Own w' w.heap.size v (rdC s) ∧ w.grownBy w' none
theorem remB_is (t : ByteArray) : Lib.hasPrefix t.data.toList [33] = remB t := by
  have hlen : t.data.toList.length = t.size := Array.length_toList
  unfold Lib.hasPrefix remB
  cases hl : t.data.toList with
  | nil =>
    rw [hl] at hlen
    have h0 : t.size = 0 := by rw [← hlen]; rfl
    rw [decide_eq_false (by omega)]; rfl
  | cons c l =>
    rw [hl] at hlen
    have h0 : 0 < t.size := by rw [← hlen]; simp
    have h1 : Sc.bt t 0 = c.toNat := Sc.bt_list (by rw [hl]; rfl)
    by_cases e : c = 33
    · subst e
      rw [decide_eq_true ⟨h0, by rw [h1]; rfl⟩]
      rfl
    · rw [decide_eq_false (fun h => e (UInt8.toNat_inj.1 (by rw [← h1, h.2]; rfl)))]
      have : ((33 : UInt8) == c) = false := by simpa using fun h => e h.symm
      simp [List.isPrefixOf, this]
set_option maxRecDepth 100000 in
theorem readLong (s : ByteArray) (hs : 1048576 < s.size) (w : World) : Calls Try.prog 10 #[.string s] w (LeftR w s) := by
  have e1 : rdE s = 3 := by unfold rdE; rw [if_pos hs]
  have e2 : rdP s = 0 := by unfold rdP; rw [if_pos hs]
  have e3 : rdC s = [] := by unfold rdC; rw [if_pos hs]
  have hs' : (1048576 : Int) < (s.size : Int) := by omega
  unfold LeftR
  rw [e1, e2, e3]
  clear e1 e2 e3
  refine (callsIn_wide (n := 3)).1 ?_
  refine callsIn_of_wp_marks Try.func10 rfl trivial ?_ rfl
  simp only [Try.ntmps10, List.size_toArray, List.length_cons, List.length_nil, Nat.reduceAdd, Nat.reduceSub, Array.replicate_succ, Array.replicate_zero, List.push_toArray, List.append_toArray, List.nil_append, List.cons_append]
  gi_wp2
  obtain ⟨a1, s1⟩ := b1n w 24 (.slice none 0 0) rfl
  obtain ⟨a2, s2⟩ := b1n (w.alloc (.cells #[.slice none 0 0] 24)) 3 (.int .i64 0) s1
  obtain ⟨a3, s3⟩ := b1n _ 25 (.int .i64 3) s2
  have x1 := ((a1.kept (World.grownBy_alloc _ (.cells #[.int .i64 0] 3) none) (by simp)).kept (World.grownBy_alloc _ (.cells #[.int .i64 3] 25) none) (by simp)).cell
  have x2 := (a2.kept (World.grownBy_alloc _ (.cells #[.int .i64 3] 25) none) (by simp)).cell
  have x3 := a3.cell
  refine ⟨.tuple #[.slice none 0 0, .int .i64 0, .int .i64 3], ?_, .slice none 0 0, rfl, World.ownsRow_nil _ _ _ _, gb_alloc (gb_alloc (World.grownBy_alloc _ _ _) _) _⟩
  simp [results, go_sem, x1, x2, x3]
/-- Where a run through a text stands. -/
def It (W : World) (r : Nat) (t : ByteArray) (p : Nat) : Prop := W.heap[r]? = some (.stringIter t p)
def itP (W : World) (r : Nat) : Nat := match W.heap[r]? with | some (.stringIter _ p) => p | _ => 0
theorem It.pos {W : World} {r p : Nat} {t : ByteArray} (h : It W r t p) : itP W r = p := by unfold itP; rw [show W.heap[r]? = _ from h]
theorem It.lt {W : World} {r p : Nat} {t : ByteArray} (h : It W r t p) : r < W.heap.size := (Array.getElem?_eq_some_iff.1 h).1
theorem It.put {W : World} {r p q : Nat} {t : ByteArray} (h : It W r t p) : It (W.putObj r (.stringIter t q)) r t q := World.putObj_heap_same h.lt
theorem It.kept {W W' : World} {r p : Nat} {t : ByteArray} {row : Option Nat} (h : It W r t p) (hg : W.grownBy W' row) (hne : some r ≠ row) : It W' r t p := (hg.block r h.lt hne).trans h
theorem ko_put {W V : World} {r : Nat} {o : Obj} (h : KeepsOthers W V) (hr : W.heap.size ≤ r) : KeepsOthers W (V.putObj r o) := by
  refine ⟨by show W.heap.size ≤ (V.heap.setIfInBounds r o).size; rw [Array.size_setIfInBounds]; exact h.size, fun k x hk hx => ?_⟩
  have hlt : k < W.heap.size := (Array.getElem?_eq_some_iff.1 hk).1
  rw [World.putObj_heap_other (by omega)]
  exact h.same k x hk hx
/-- What lies about while a text is gone through: the answer's three boxes, the cells so far, the row's number, the text. -/
structure Lo (w : World) (B0 n0 : Nat) (s : ByteArray) (acc : List Cx) (y : Nat) (v : Value) (W : World) : Prop where
  r0 : B1 W n0 24 (.slice none 0 0)
  r1 : B1 W (n0 + 1) 3 (.int .i64 0)
  r2 : B1 W (n0 + 1 + 1) 25 (.int .i64 0)
  c : B1 W (n0 + 1 + 1 + 1) 24 v
  y : B1 W (n0 + 1 + 1 + 1 + 1) 3 (.int .i64 (y : Nat))
  t : B1 W (n0 + 1 + 1 + 1 + 1 + 1) 9 (.string s)
  own : Own W B0 v acc
  bel : Below n0 w W
  sz : B0 ≤ W.heap.size
  bd : n0 + 1 + 1 + 1 + 1 + 1 + 1 ≤ B0
theorem Lo.own' {w : World} {B0 n0 y : Nat} {s : ByteArray} {acc : List Cx} {v : Value} {W W' : World} {row : Option Nat} (h : Lo w B0 n0 s acc y v W) (hg : W.grownBy W' row) (hr : ∀ r, row = some r → B0 ≤ r ∧ ∃ o : Obj, W.heap[r]? = some o ∧ o.isCells = false) : Lo w B0 n0 s acc y v W' :=
  ⟨cells_own h.r0 hg (fun r e => (hr r e).2), cells_own h.r1 hg (fun r e => (hr r e).2), cells_own h.r2 hg (fun r e => (hr r e).2), cells_own h.c hg (fun r e => (hr r e).2), cells_own h.y hg (fun r e => (hr r e).2), cells_own h.t hg (fun r e => (hr r e).2), rows_own h.own hg (fun r e => (hr r e).2),
   h.bel.trans ⟨hg.os, hg.tape, hg.output, hg.size, fun k hk => hg.block k (by have := h.sz; have := h.bd; omega) (fun e => by have := (hr k e.symm).1; have := h.bd; omega)⟩, Nat.le_trans h.sz hg.size, h.bd⟩
theorem Lo.put {w : World} {B0 n0 y r : Nat} {s : ByteArray} {acc : List Cx} {v : Value} {W : World} {t : ByteArray} {p : Nat} (h : Lo w B0 n0 s acc y v W) (hi : It W r t p) (hr : B0 ≤ r) (q : Nat) : Lo w B0 n0 s acc y v (W.putObj r (.stringIter t q)) :=
  h.own' (grownBy_putObj' W r _) (fun k e => by cases e; exact ⟨hr, _, hi, rfl⟩)
theorem Lo.alloc {w : World} {B0 n0 y : Nat} {s : ByteArray} {acc : List Cx} {v : Value} {W : World} (h : Lo w B0 n0 s acc y v W) (o : Obj) : Lo w B0 n0 s acc y v (W.alloc o) :=
  h.own' (World.grownBy_alloc W o none) (fun r e => by cases e)
theorem b1_set {W : World} {g k : Nat} {t : TypeId} {x y : Value} (h : B1 W g t x) (hne : g ≠ k) : B1 (W.setCell ⟨k, 0, none⟩ y) g t x := (Below.heap_setCell _ _ _ _ hne).trans h
/-- A cell is appended, and the slice put away. -/
theorem Lo.app {w : World} {B0 n0 y r : Nat} {s t : ByteArray} {acc : List Cx} {v v4 : Value} {U w4 : World} {p : Nat} {c : Cx} {cs : Array Value} (h : Lo w B0 n0 s acc y v U) (hi : It U r t p) (hown : w4.ownsRow B0 33 3 v4 (acc.length + 1) (ccs acc ++ cvs c)) (hg : (U.alloc (.cells cs 33)).grownBy w4 v.ownBlock) :
    Lo w B0 n0 s (acc ++ [c]) y v4 (w4.setCell ⟨n0 + 1 + 1 + 1, 0, none⟩ v4) ∧ KeepsOthers U (w4.setCell ⟨n0 + 1 + 1 + 1, 0, none⟩ v4) ∧ It (w4.setCell ⟨n0 + 1 + 1 + 1, 0, none⟩ v4) r t p := by
  have ga := World.grownBy_alloc U (.cells cs 33) none
  have HA := (h.alloc (.cells cs 33)).own
  have hb := h.bd
  have hs := h.sz
  have nb : ∀ {g : Nat}, g < B0 → some g ≠ v.ownBlock := fun hl e => by have := (HA.lt _ e.symm).1; omega
  have kp : ∀ {g : Nat} {t : TypeId} {x : Value}, g < B0 → B1 U g t x → B1 w4 g t x := fun hl hx => (hx.kept ga (by simp)).kept hg (nb hl)
  have ko : KeepsOthers U w4 := (KeepsOthers.of_grownBy ga (by simp)).trans (KeepsOthers.of_grownBy hg (fun j o e ho => rows_cells HA j o e ho))
  have ko2 := ko.trans (KeepsOthers.setCell w4 ⟨n0 + 1 + 1 + 1, 0, none⟩ v4)
  have own4 : Own w4 B0 v4 (acc ++ [c]) := by unfold Own; rw [ccs_snoc, List.length_append]; exact hown
  have hne4 : some (n0 + 1 + 1 + 1) ≠ v4.ownBlock := fun e => by have := (hown.lt _ e.symm).1; omega
  refine ⟨⟨b1_set (kp (by omega) h.r0) (by omega), b1_set (kp (by omega) h.r1) (by omega), b1_set (kp (by omega) h.r2) (by omega), (kp (by omega) h.c).set v4, b1_set (kp (by omega) h.y) (by omega), b1_set (kp (by omega) h.t) (by omega), own_set own4 hne4, ?_, Nat.le_trans hs ko2.size, hb⟩, ko2, ko2.same r _ hi rfl⟩
  refine (h.bel.trans (((gb_below ga).mono (by omega)).trans ?_)).setCell (p := ⟨n0 + 1 + 1 + 1, 0, none⟩) (by show n0 ≤ n0 + 1 + 1 + 1; omega) v4
  exact ⟨hg.os, hg.tape, hg.output, hg.size, fun k hk => hg.block k (by rw [World.size_alloc]; omega) (nb (by omega))⟩
/-- .. a fault found. -/
def Er (w : World) (n0 pl : Nat) (W : World) : Prop := B1 W n0 24 (.slice none 0 0) ∧ B1 W (n0 + 1) 3 (.int .i64 (pl : Nat)) ∧ B1 W (n0 + 1 + 1) 25 (.int .i64 230) ∧ Below n0 w W ∧ n0 ≤ W.heap.size
def IR (w : World) (B0 n0 : Nat) (s : ByteArray) (pre : List (Ln s)) (W : World) : Prop := (rdF s (vals pre)).2.2 = none ∧ ∃ v, Lo w B0 n0 s (rdF s (vals pre)).2.1 (rdF s (vals pre)).1 v W
def XR (w : World) (n0 : Nat) (s : ByteArray) (c : Code) (pre : List (Ln s)) (W : World) : Prop := c = .ret ∧ ∃ pl, (rdF s (vals pre)).2.2 = some pl ∧ Er w n0 pl W
theorem IR.from (w : World) (B0 n0 : Nat) (s : ByteArray) : OwnFrom B0 (IR w B0 n0 s) := fun p X Y row hs hg hr => by
  obtain ⟨h1, v, h2⟩ := hs
  exact ⟨h1, v, h2.own' hg hr⟩
theorem XR.from (w : World) (B0 n0 : Nat) (hn : n0 ≤ B0) (s : ByteArray) (c : Code) : OwnFrom B0 (XR w n0 s c) := fun p X Y row hs hg hr => by
  obtain ⟨e1, pl, e2, h1, h2, h3, h4, h5⟩ := hs
  exact ⟨e1, pl, e2, cells_own h1 hg (fun r e => (hr r e).2), cells_own h2 hg (fun r e => (hr r e).2), cells_own h3 hg (fun r e => (hr r e).2), h4.trans ⟨hg.os, hg.tape, hg.output, hg.size, fun k hk => hg.block k (by omega) (fun e => by have := (hr k e.symm).1; omega)⟩, Nat.le_trans h5 hg.size⟩
theorem wrap_add {a b : Nat} (h : a + b ≤ 4611686018427387904) : IntKind.i64.wrap ((a : Int) + (b : Int)) = ((a + b : Nat) : Int) := by rw [IntKind.wrap_i64]; omega
set_option maxRecDepth 100000 in
set_option maxHeartbeats 8000000 in
theorem readC (s : ByteArray) (hs : ¬ 1048576 < s.size) (w : World) : Calls Try.prog 10 #[.string s] w (LeftR w s) := by
  have hsm : s.size ≤ maxLen := by unfold maxLen; omega
  obtain ⟨i0, hi⟩ := info_parts infoCx
  have HI : Hid (Try.prog.info? 33 = some i0 ∧ i0.zero = some (.agg #[.int .i64 0, .int .i64 0, .int .u8 0]) ∧ i0.size = 3 ∧ i0.bytes = 24) := hi
  clear hi
  have hs' : ¬ (1048576 : Int) < (s.size : Int) := by omega
  refine (callsIn_wide (n := 3)).1 ?_
  refine callsIn_of_wp_marks Try.func10 rfl trivial ?_ rfl
  simp only [Try.ntmps10, List.size_toArray, List.length_cons, List.length_nil, Nat.reduceAdd, Nat.reduceSub, Array.replicate_succ, Array.replicate_zero, List.push_toArray, List.append_toArray, List.nil_append, List.cons_append]
  gi_wp2_with (refine ⟨trivial, ?_⟩; gi_at_call 27; refine (lines_in _ s _).mono ?_; rintro e w3 ⟨rfl, hw3⟩; subst w3)
  obtain ⟨W0, hW0, c0, c1, c2, c3, c4, c5, gW, sW⟩ := box6 w 24 3 25 24 3 9 (.slice none 0 0) (.int .i64 0) (.int .i64 0) (.slice none 0 0) (.int .i64 0) (.string s)
  rw [hW0]
  clear hW0
  refine with_tmps ?_
  intro AR hAR
  have LO : Lo w W0.heap.size w.heap.size s [] 0 (.slice none 0 0) W0 := ⟨c0, c1, c2, c3, c4, c5, World.ownsRow_nil _ _ _ _, gb_below gW, Nat.le_refl _, by have := sW.out; omega⟩
  clear c0 c1 c2 c3 c4
  have zW : w.heap.size + 1 + 1 + 1 + 1 + 1 < W0.heap.size := by have := sW.out; omega
  refine wpIn_rangeFunc_ownF rfl (by omega) (gf := 40) (lb := #[.pointer (some ⟨w.heap.size + 1 + 1 + 1 + 1 + 1, 0, none⟩)]) (by subst hAR; rfl) trivial (enters_of Try.func40 (by kernel_rfl) rfl)
    (lines_stops2 2 (by omega) (w.heap.size + 1 + 1 + 1 + 1 + 1) s hsm W0 c5.cell) Kb.trans (Kb.put (by omega)) (Below.refl _ _) (fun _ => rfl)
    (IR w W0.heap.size w.heap.size s) (XR w w.heap.size s) (IR.from _ _ _ _) (XR.from _ _ _ (by omega) _)
    ⟨rfl, _, LO⟩
    (fun x => { tmps := (((AR.setIfInBounds 19 (.int .i64 (x.val : Nat))).setIfInBounds 20 (.string (lin s x.val))).setIfInBounds 7 (.int .i64 (x.val : Nat))).setIfInBounds 8 (.string (lin s x.val)), defers := [] }) ?assign ?body ?done ?stop
  case assign =>
    intro l x W K hK
    subst hAR
    gi_wp2
    exact hK
  case body =>
    rintro l pre ⟨x, hx⟩ W ⟨hno, v, hL⟩ hlen
    subst hAR
    obtain ⟨t, ht⟩ : ∃ t, lin s x = t := ⟨_, rfl⟩
    have HT : Hid (lin s x = t) := ht
    have htz : Hid (t.size ≤ s.size) := by unfold Hid; rw [← ht]; exact lin_size s x
    have HV : Hid (vals (pre ++ [(⟨x, hx⟩ : Ln s)]) = vals pre ++ [x]) := vals_snoc pre ⟨x, hx⟩
    have hbd := rdF_len s pre.length (vals pre) (by unfold vals; simp)
    obtain ⟨y, hy⟩ : ∃ y, (rdF s (vals pre)).1 = y := ⟨_, rfl⟩
    obtain ⟨acc, hacc⟩ : ∃ acc, (rdF s (vals pre)).2.1 = acc := ⟨_, rfl⟩
    rw [hy, hacc] at hL hbd
    have hmul : pre.length * s.size ≤ 1048576 * 1048576 := Nat.mul_le_mul (by omega) (by omega)
    have HB : Hid (acc.length ≤ 1099511627776 ∧ y ≤ 1048576) := ⟨by omega, by omega⟩
    have HS : Hid ((rdF s (vals pre)).2.2 = none ∧ (rdF s (vals pre)).1 = y ∧ (rdF s (vals pre)).2.1 = acc) := ⟨hno, hy, hacc⟩
    clear hy hacc hmul hbd hno hlen
    simp only [ht]
    have hpf := fun W => Try.strings_HasPrefix t ⟨#[33]⟩ W
    rw [show (⟨#[33]⟩ : ByteArray).data.toList = [33] from rfl, remB_is] at hpf
    clear ht
    cases hr : remB t with
    | true =>
      rw [hr] at hpf
      gi_wp2_with (refine ⟨trivial, ?_⟩; gi_at_call 28; refine (callsIn_wide.2 (hpf _)).mono ?_; rintro e w8 ⟨rfl, hw8⟩; subst w8)
      refine ⟨KeepsOthers.refl _, Kb.refl _ _, ?_⟩
      have e : rdF s (vals (pre ++ [(⟨x, hx⟩ : Ln s)])) = rdF s (vals pre) := by rw [HV.out, rdF_snoc, stepR_rem HS.out.1 (by rw [HT.out]; exact hr)]
      unfold IR
      rw [e, HS.out.2.1, HS.out.2.2]
      exact ⟨HS.out.1, v, hL⟩
    | false =>
      rw [hr] at hpf
      gi_wp2_with (refine ⟨trivial, ?_⟩; gi_at_call 28; refine (callsIn_wide.2 (hpf _)).mono ?_; rintro e w8 ⟨rfl, hw8⟩; subst w8)
      obtain ⟨V, hV⟩ : ∃ V, W.iter t 0 = V := ⟨_, rfl⟩
      have hit0 : It V W.heap.size t 0 := by rw [← hV]; exact World.iter_heap W t 0
      have ko0 : KeepsOthers W V := by rw [← hV]; exact KeepsOthers.alloc W _
      have hL0 : Lo w W0.heap.size w.heap.size s acc y v V := by rw [← hV]; exact hL.alloc _
      have hsz := hL.sz
      have htx := hL.t
      rw [hV]
      clear hV hL
      gi_loopw [9] (fun vx wr => ∃ (p x2 : Nat) (ac : List Cx) (v : Value), vx = .int .i64 (x2 : Nat) ∧ It wr W.heap.size t p ∧ KeepsOthers W wr ∧ Lo w W0.heap.size w.heap.size s ac y v wr ∧ Hid (x2 ≤ p ∧ ac.length ≤ acc.length + p) ∧ Hid (rowA t y 0 0 acc = rowA t y p x2 ac)) (fun _ wr => t.size - itP wr W.heap.size)
      case atStart => exact ⟨0, 0, acc, v, rfl, hit0, ko0, hL0, ⟨by omega, by omega⟩, rfl⟩
      case round =>
        obtain ⟨p, x2, ac, v, rfl, hit, ko, hL, HP, HR⟩ := hrel
        by_cases hp : p < t.size
        · have hnx : ∀ ty, (Instr.next (.pointer (some ⟨W.heap.size, 0, none⟩)) true ty).run Try.prog wr = _ := fun ty => run_next_at wr W.heap.size t p ty hit hp
          have hdp := dec_pos t p hp
          have hdl := decode_le t p
          obtain ⟨d, hd⟩ : ∃ d, (Utf8.decode t p).1 = d := ⟨_, rfl⟩
          obtain ⟨n, hn⟩ : ∃ n, (Utf8.decode t p).2 = n := ⟨_, rfl⟩
          rw [hd] at hdl
          rw [hn] at hdp
          simp only [hd, hn] at hnx
          have HD : Hid ((Utf8.decode t p).1 = d ∧ (Utf8.decode t p).2 = n) := ⟨hd, hn⟩
          have hitU := hit.put (q := p + n)
          have hLU := hL.put hit hsz (p + n)
          have koU : KeepsOthers W (wr.putObj W.heap.size (.stringIter t (p + n))) := ko_put ko (Nat.le_refl _)
          have HI2 : Hid (itP wr W.heap.size = p) := hit.pos
          obtain ⟨U, hU⟩ : ∃ U, wr.putObj W.heap.size (.stringIter t (p + n)) = U := ⟨_, rfl⟩
          rw [hU] at hitU hLU koU
          simp only [hU] at hnx
          clear hU hd hn hit hL ko
          have hof := fun W => ofC (d : Int) (by omega) (by omega) W
          have HOW := hLU.own
          have z3 := hLU.c.cell
          have z4 := hLU.y.cell
          have y3 := hLU.c.free
          cases hb : ofB (d : Int) with
          | false =>
            have z0 := hLU.r0.cell
            have z1 := hLU.r1.cell
            have z2 := hLU.r2.cell
            have y0 := hLU.r0.free
            have y1 := hLU.r1.free
            have y2 := hLU.r2.free
            rw [hb] at hof
            have hwx : IntKind.i64.wrap ((x : Int) + (p : Int)) = ((x + p : Nat) : Int) := wrap_add (by have := HP.out; have := htz.out; omega)
            gi_wp2_with (refine ⟨trivial, ?_⟩; gi_at_call 13; refine (callsIn_wide.2 (hof _)).mono ?_; rintro e w8 ⟨rfl, hw8⟩; subst w8)
            have e : rdF s (vals (pre ++ [(⟨x, hx⟩ : Ln s)])) = ((rdF s (vals pre)).1, [], some (x + p)) := by
              rw [HV.out, rdF_snoc, stepR_bad HS.out.1 (by rw [HT.out]; exact hr) (p := p) (by rw [HS.out.2.1, HS.out.2.2, HT.out, HR.out, rowA_bad hp (by rw [HD.out.1]; exact hb)])]
            have sz := hLU.bd
            have szu := hLU.sz
            refine ⟨((koU.trans (KeepsOthers.setCell _ _ _)).trans (KeepsOthers.setCell _ _ _)).trans (KeepsOthers.setCell _ _ _), rfl, x + p, by rw [e], b1_set (b1_set (hLU.r0.set _) (by omega)) (by omega), ?_, (b1_set (b1_set hLU.r2 (by omega)) (by omega)).set _, ?_, ?_⟩
            · rw [Int.natCast_add]; exact b1_set ((b1_set hLU.r1 (by omega)).set _) (by omega)
            · exact ((hLU.bel.setCell (p := ⟨w.heap.size, 0, none⟩) (Nat.le_refl _) _).setCell (p := ⟨w.heap.size + 1, 0, none⟩) (by show _ ≤ w.heap.size + 1; omega) _).setCell (p := ⟨w.heap.size + 1 + 1, 0, none⟩) (by show _ ≤ w.heap.size + 1 + 1; omega) _
            · simp only [World.setCell, Array.size_modify]; omega
          | true =>
            rw [hb] at hof
            have hwx : IntKind.i64.wrap ((x2 : Int) + 1) = (x2 : Int) + 1 := by rw [IntKind.wrap_i64]; have := HP.out; have := htz.out; omega
            by_cases h0 : ofN (d : Int) = 0
            · rw [h0] at hof
              gi_wp2_with (refine ⟨trivial, ?_⟩; gi_at_call 13; refine (callsIn_wide.2 (hof _)).mono ?_; rintro e w8 ⟨rfl, hw8⟩; subst w8)
              go_roundw
              case rel =>
                refine ⟨p + n, x2 + 1, ac, v, by go_num, hitU, koU, hLU, ?_, ?_⟩
                · have := HP.out; exact ⟨by omega, by omega⟩
                · unfold Hid; rw [HR.out, rowA_go hp (by rw [HD.out.1]; exact hb), HD.out.1, HD.out.2]; unfold adC; rw [if_pos h0]
              case measure => 
                rw [HI2.out, hitU.pos]
                omega
            · have hb0 : (((ofN (d : Int) : Nat) : Int) != 0) = true := by simp; omega
              have hq := HP.out
              have hq2 := HB.out
              have hq3 := htz.out
              gi_wp2_with (first | (refine ⟨trivial, ?_⟩; gi_at_call 13; refine (callsIn_wide.2 (hof _)).mono ?_; rintro e w8 ⟨rfl, hw8⟩; subst w8) | (gi_at_builtin; refine wpListIn_append_own _ rfl _ _ 24 rfl W0.heap.size 33 i0 (.agg #[.int .i64 0, .int .i64 0, .int .u8 0]) 3 24 underCS HI.out.1 HI.out.2.1 HI.out.2.2.1 HI.out.2.2.2 rfl (by decide) _ _ _ rfl (HOW.alloc _) ⟨U.heap.size, 0, none⟩ 1 1 [.int .i64 (x2 : Nat), .int .i64 (y : Nat), .int .u8 (ofN (d : Int) : Nat)] rfl rfl (new3 _ _ _ _ _) ?_ ?_ ?_ ?_ ?_; rotate_right; intro v4 w4 hown4 hgrow4 hnil4; obtain ⟨hL4, ko4, hit4⟩ := hLU.app (c := ((x2 : Int), (y : Int), ofN (d : Int))) hitU hown4 hgrow4; obtain ⟨gg, cap4, rfl⟩ := ownsRow_succ hown4; have HA := HOW.alloc (.cells #[.int .i64 (x2 : Nat), .int .i64 (y : Nat), .int .u8 (ofN (d : Int) : Nat)] 33); have h14 := (hLU.c.kept (World.grownBy_alloc U (.cells #[.int .i64 (x2 : Nat), .int .i64 (y : Nat), .int .u8 (ofN (d : Int) : Nat)] 33) none) (by simp)).kept hgrow4 (fun e => by have := (HA.lt _ e.symm).1; have := hLU.bd; omega); have z5 := h14.cell; have y5 := h14.free))
              · go_roundw
                case rel =>
                  refine ⟨p + n, x2 + 1, _, _, by go_num, hit4, koU.trans ko4, hL4, ?_, ?_⟩
                  · exact ⟨by omega, by rw [List.length_append]; simp only [List.length_cons, List.length_nil]; omega⟩
                  · unfold Hid; rw [HR.out, rowA_go hp (by rw [HD.out.1]; exact hb), HD.out.1, HD.out.2]; unfold adC; rw [if_neg h0]
                case measure =>
                  rw [HI2.out, hit4.pos]
                  omega
              · intro u hu
                simp at hu
                rcases hu with rfl | rfl | rfl <;> rfl
              · unfold maxLen; omega
              · omega
              · have := hLU.sz; simp; omega
        · have hnx : ∀ ty, (Instr.next (.pointer (some ⟨W.heap.size, 0, none⟩)) true ty).run Try.prog wr = _ := fun ty => run_next_out wr W.heap.size t p ty hit hp
          have z4 := hL.y.cell
          have y4 := hL.y.free
          have hwy : IntKind.i64.wrap ((y : Int) + 1) = ((y + 1 : Nat) : Int) := by rw [IntKind.wrap_i64]; have := HB.out; omega
          gi_wp2
          have e : rdF s (vals (pre ++ [(⟨x, hx⟩ : Ln s)])) = ((rdF s (vals pre)).1 + 1, ac, none) := by
            rw [HV.out, rdF_snoc, stepR_row HS.out.1 (by rw [HT.out]; exact hr) (c := ac) (by rw [HS.out.2.1, HS.out.2.2, HT.out, HR.out, rowA_end hp])]
          have sz := hL.bd
          have szu := hL.sz
          have hne : some (w.heap.size + 1 + 1 + 1 + 1) ≠ v.ownBlock := fun e => by have := (hL.own.lt _ e.symm).1; omega
          have ht2 : B1 (wr.setCell ⟨w.heap.size + 1 + 1 + 1 + 1, 0, none⟩ (.int .i64 ((y : Int) + 1))) (w.heap.size + 1 + 1 + 1 + 1 + 1) 9 (.string s) := b1_set hL.t (by omega)
          refine ⟨ko.trans (KeepsOthers.setCell _ _ _), Eq.trans ht2 htx.symm, ?_⟩
          unfold IR
          rw [e]
          refine ⟨rfl, v, b1_set hL.r0 (by omega), b1_set hL.r1 (by omega), b1_set hL.r2 (by omega), b1_set hL.c (by omega), ?_, ht2, own_set hL.own hne, hL.bel.setCell (p := ⟨w.heap.size + 1 + 1 + 1 + 1, 0, none⟩) (by show _ ≤ w.heap.size + 1 + 1 + 1 + 1; omega) _, ?_, hL.bd⟩
          · show B1 _ _ _ (.int .i64 (((rdF s (vals pre)).1 + 1 : Nat) : Int))
            rw [HS.out.2.1, Int.natCast_add]
            exact hL.y.set _
          · simp only [World.setCell, Array.size_modify]; omega
  case done =>
    rintro D ys W hD hS ⟨hno, v, hL⟩ hK
    subst hAR
    have z0 := hL.r0.cell
    have z1 := hL.r1.cell
    have z2 := hL.r2.cell
    have y0 := hL.r0.free
    have y1 := hL.r1.free
    have y2 := hL.r2.free
    have sz := hL.bd
    have szu := hL.sz
    have hrd : rd s = ((rdF s (vals ys)).2.1, none) := by unfold rd; rw [← hS, ← hno]
    have e1 : rdE s = 0 := by unfold rdE; rw [if_neg hs, hrd]; rfl
    have e2 : rdP s = 0 := by unfold rdP; rw [if_neg hs, hrd]; rfl
    have e3 : rdC s = (rdF s (vals ys)).2.1 := by unfold rdC; rw [if_neg hs, hrd]; rfl
    have hL2 := hL
    obtain ⟨ac, hac⟩ : ∃ ac, (rdF s (vals ys)).2.1 = ac := ⟨_, rfl⟩
    rw [hac] at hL2 e3
    clear hL hrd hac hno
    obtain ⟨sp, cap, rfl, _, hab⟩ := ce_of hL2.own
    have z3 := hL2.c.cell
    gi_wp2
    refine leaves_one hK (by omega) (((KeepsOthers.setCell W _ _).trans (KeepsOthers.setCell _ _ _)).trans (KeepsOthers.setCell _ _ _)) ?_
    intro W' hg
    have B1' := ((b1_set (b1_set (hL2.r0.set (.slice sp ac.length cap)) (k := w.heap.size + 1) (y := .int .i64 0) (by omega)) (k := w.heap.size + 1 + 1) (y := .int .i64 0) (by omega))).kept hg (by intro e; injection e; omega)
    have B2' := (b1_set ((b1_set hL2.r1 (k := w.heap.size) (y := .slice sp ac.length cap) (by omega)).set (.int .i64 0)) (k := w.heap.size + 1 + 1) (y := .int .i64 0) (by omega)).kept hg (by intro e; injection e; omega)
    have B3' := ((b1_set (b1_set hL2.r2 (k := w.heap.size) (y := .slice sp ac.length cap) (by omega)) (k := w.heap.size + 1) (y := .int .i64 0) (by omega)).set (.int .i64 0)).kept hg (by intro e; injection e; omega)
    have x1 := B1'.cell
    have x2 := B2'.cell
    have x3 := B3'.cell
    have ne : ∀ {k : Nat}, k < W0.heap.size → some k ≠ (Value.slice sp ac.length cap).ownBlock := fun hl e => by have := (hL2.own.lt _ e.symm).1; omega
    have o3 := own_set (o := 0) (x := .int .i64 0) (own_set (o := 0) (x := .int .i64 0) (own_set (o := 0) (x := .slice sp ac.length cap) hL2.own (ne (k := w.heap.size) (by omega))) (ne (k := w.heap.size + 1) (by omega))) (ne (k := w.heap.size + 1 + 1) (by omega))
    have kk := ((KeepsOthers.setCell W ⟨w.heap.size, 0, none⟩ (.slice sp ac.length cap)).trans (KeepsOthers.setCell _ ⟨w.heap.size + 1, 0, none⟩ (.int .i64 0))).trans (KeepsOthers.setCell _ ⟨w.heap.size + 1 + 1, 0, none⟩ (.int .i64 0))
    refine ⟨.tuple #[.slice sp ac.length cap, .int .i64 0, .int .i64 0], ?_, .slice sp ac.length cap, by rw [e1, e2]; rfl, ?_, ?_⟩
    · simp [results, go_sem, x1, x2, x3]
    · rw [e3]
      exact row_mono (rows_own o3 hg (fun r e => by cases e; exact ⟨_, kk.same D _ hK rfl, rfl⟩)) (by omega)
    · exact gb_past (gb_new (gb_new (gb_new (gb_of_below hL2.bel) (Nat.le_refl _) _) (by show _ ≤ w.heap.size + 1; omega) _) (by show _ ≤ w.heap.size + 1 + 1; omega) _) hg (by omega)
  case stop =>
    rintro D c pre W hD ⟨q, hq⟩ ⟨rfl, pl, hpl, h1, h2, h3, h4, h5⟩ hK
    subst hAR
    have e1 : rdE s = 230 := by
      have : rd s = (rdF s (vals pre)).2 := by unfold rd; rw [← hq, rdF_err q (by rw [hpl]; rfl)]
      unfold rdE; rw [if_neg hs, this, hpl]; rfl
    have e2 : rdP s = pl := by
      have : rd s = (rdF s (vals pre)).2 := by unfold rd; rw [← hq, rdF_err q (by rw [hpl]; rfl)]
      unfold rdP; rw [if_neg hs, this, hpl]; rfl
    have e3 : rdC s = [] := by
      have : rd s = (rdF s (vals pre)).2 := by unfold rd; rw [← hq, rdF_err q (by rw [hpl]; rfl)]
      unfold rdC; rw [if_neg hs, this, hpl]; rfl
    gi_wp2
    refine leaves_one hK (by omega) (KeepsOthers.refl _) ?_
    intro W' hg
    have x1 := (h1.kept hg (by intro e; injection e; omega)).cell
    have x2 := (h2.kept hg (by intro e; injection e; omega)).cell
    have x3 := (h3.kept hg (by intro e; injection e; omega)).cell
    refine ⟨.tuple #[.slice none 0 0, .int .i64 (pl : Nat), .int .i64 230], ?_, .slice none 0 0, by rw [e1, e2], by rw [e3]; exact World.ownsRow_nil _ _ _ _, ?_⟩
    · simp [results, go_sem, x1, x2, x3]
    · exact gb_past (gb_of_below h4) hg (by omega)
/-- **Read**, of every text. -/
theorem readAll (s : ByteArray) (w : World) : Calls Try.prog 10 #[.string s] w (LeftR w s) := by
  by_cases h : 1048576 < s.size
  · exact readLong s h w
  · exact readC s h w
end Go.Proofs.Ytjacoifhjfipaaa
