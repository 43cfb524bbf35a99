/- The book of answers: adds. -/
import Derived.Test.YtbmpiddjakdebaaGreatNv
import Derived.ArgAppend
import Derived.Laws.OwnMore
namespace Go.Proofs.YtbmpiddjakdebaaGreat
open Go.RowKit
set_option linter.unusedVariables false
set_option linter.unusedSimpArgs false
set_option maxRecDepth 100000

namespace Ln
/-- Two values' blocks are not one. -/
def Nb (x y : Value) : Prop := ∀ g, x.ownBlock = some g → y.ownBlock ≠ some g
def nv : Value := .slice none 0 0
/-- The book: what was answered (V), what it must be (U), both readable as P. -/
structure Bk (w : World) (base b : Nat) (gv uv : Value) (V U : List Value) (P : Nat → List Pt) : Prop where
  box : Bo w b 31 #[gv, uv, .bool false]
  hb : b < base
  hbw : base ≤ w.heap.size
  got : w.ownsRow base 24 1 gv V.length V
  want : w.ownsRow base 24 1 uv V.length U
  lenU : U.length = V.length
  ev : ∀ i, i < V.length → w.ownsRow base 40 2 (V.getD i nv) (P i).length (fl (P i))
  eu : ∀ i, i < V.length → w.ownsRow base 40 2 (U.getD i nv) (P i).length (fl (P i))
  ap : ∀ i j, i < j → j < V.length → Nb (V.getD i nv) (V.getD j nv)
  ng : Nb gv uv
  gV : ∀ i, i < V.length → Nb gv (V.getD i nv)
  gU : ∀ i, i < V.length → Nb gv (U.getD i nv)
  uV : ∀ i, i < V.length → Nb uv (V.getD i nv)
  uU : ∀ i, i < V.length → Nb uv (U.getD i nv)
theorem Nb.ne {x y : Value} (h : Nb x y) : y.ownBlock = none ∨ y.ownBlock ≠ x.ownBlock := by
  cases hx : x.ownBlock with
  | none =>
    cases hy : y.ownBlock with
    | none => exact .inl rfl
    | some g => exact .inr (by simp)
  | some g => exact .inr (h g hx)
theorem Bk.made {w : World} {b : Nat} (B : Bo w b 31 #[.slice none 0 0, .slice none 0 0, .bool false]) : Bk w w.heap.size b (.slice none 0 0) (.slice none 0 0) [] [] (fun _ => []) :=
  ⟨B, B.lt, Nat.le_refl _, World.ownsRow_nil _ _ _ _, World.ownsRow_nil _ _ _ _, rfl, fun i hi => absurd hi (Nat.not_lt_zero _), fun i hi => absurd hi (Nat.not_lt_zero _), fun i j _ hj => absurd hj (Nat.not_lt_zero _), (fun g e => by cases e), fun i hi => absurd hi (Nat.not_lt_zero _), fun i hi => absurd hi (Nat.not_lt_zero _), fun i hi => absurd hi (Nat.not_lt_zero _), fun i hi => absurd hi (Nat.not_lt_zero _)⟩
theorem Bk.kept {w w' : World} {base b : Nat} {gv uv : Value} {V U : List Value} {P : Nat → List Pt} (h : Bk w base b gv uv V U P) (hg : w.grownBy w' none) : Bk w' base b gv uv V U P :=
  ⟨h.box.kept hg (by simp), h.hb, Nat.le_trans h.hbw hg.size, h.got.kept hg (Classical.em _), h.want.kept hg (Classical.em _), h.lenU, fun i hi => (h.ev i hi).kept hg (Classical.em _), fun i hi => (h.eu i hi).kept hg (Classical.em _), h.ap, h.ng, h.gV, h.gU, h.uV, h.uU⟩
theorem getD_snoc {α : Type} (L : List α) (x d : α) (i : Nat) : (L ++ [x]).getD i d = if i < L.length then L.getD i d else if i = L.length then x else d := by
  rw [List.getD_eq_getElem?_getD, List.getD_eq_getElem?_getD]
  by_cases h : i < L.length
  · rw [if_pos h, List.getElem?_append_left h]
  · rw [if_neg h, List.getElem?_append_right (by omega)]
    by_cases e : i = L.length
    · rw [if_pos e, e]; simp
    · rw [if_neg e]
      have : i - L.length ≠ 0 := by omega
      obtain ⟨k, hk⟩ : ∃ k, i - L.length = k + 1 := ⟨i - L.length - 1, by omega⟩
      rw [hk]; rfl
/-- Behind two appends and two stores. -/
theorem Bk.push {w w' : World} {base b : Nat} {gv uv gv' uv' : Value} {V U : List Value} {P : Nat → List Pt} (h : Bk w base b gv uv V U P) {v u : Value} {ps : List Pt}
    (hbx : Bo w' b 31 #[gv', uv', .bool false]) (hs : w.heap.size ≤ w'.heap.size)
    (hg : w'.ownsRow base 24 1 gv' (V.length + 1) (V ++ [v])) (hu : w'.ownsRow base 24 1 uv' (V.length + 1) (U ++ [u]))
    (hk : ∀ x n xs, w.ownsRow base 40 2 x n xs → Nb gv x → Nb uv x → w'.ownsRow base 40 2 x n xs)
    (hng : Nb gv' uv') (hgf : ∀ x, Nb gv x → (∀ g, x.ownBlock = some g → g < w.heap.size) → Nb gv' x) (huf : ∀ x, Nb uv x → (∀ g, x.ownBlock = some g → g < w.heap.size) → Nb uv' x)
    (ov : w.ownsRow base 40 2 v ps.length (fl ps)) (ou : w.ownsRow base 40 2 u ps.length (fl ps))
    (nV : ∀ i, i < V.length → Nb (V.getD i nv) v) (n1 : Nb gv v) (n2 : Nb uv v) (n3 : Nb gv u) (n4 : Nb uv u) :
    Bk w' base b gv' uv' (V ++ [v]) (U ++ [u]) (fun i => if i = V.length then ps else P i) := by
  have hl : (V ++ [v]).length = V.length + 1 := by simp
  have lv := fun g e => (ov.lt g e).2
  have lu := fun g e => (ou.lt g e).2
  have kv := fun i (hi : i < V.length) => (fun g e => ((h.ev i hi).lt g e).2 : ∀ g, (V.getD i nv).ownBlock = some g → g < w.heap.size)
  have ku := fun i (hi : i < V.length) => (fun g e => ((h.eu i hi).lt g e).2 : ∀ g, (U.getD i nv).ownBlock = some g → g < w.heap.size)
  have split : ∀ i, i < V.length + 1 → i < V.length ∨ i = V.length := fun i hi => by omega
  have gv1 : ∀ i, i < V.length → (V ++ [v]).getD i nv = V.getD i nv := fun i hi => by rw [getD_snoc, if_pos hi]
  have gv2 : (V ++ [v]).getD V.length nv = v := by rw [getD_snoc, if_neg (Nat.lt_irrefl _), if_pos rfl]
  have gu1 : ∀ i, i < V.length → (U ++ [u]).getD i nv = U.getD i nv := fun i hi => by rw [getD_snoc, if_pos (by rw [h.lenU]; exact hi)]
  have gu2 : (U ++ [u]).getD V.length nv = u := by rw [getD_snoc, if_neg (by rw [h.lenU]; exact Nat.lt_irrefl _), if_pos h.lenU.symm]
  refine ⟨hbx, h.hb, Nat.le_trans h.hbw hs, by rw [hl]; exact hg, by rw [hl]; exact hu, by rw [hl]; simp [h.lenU], fun i hi => ?_, fun i hi => ?_, fun i j hij hj => ?_, hng, fun i hi => ?_, fun i hi => ?_, fun i hi => ?_, fun i hi => ?_⟩
  · rw [hl] at hi
    rcases split i hi with h1 | h1
    · rw [gv1 i h1]
      try simp only
      rw [if_neg (by omega)]
      exact hk _ _ _ (h.ev i h1) (h.gV i h1) (h.uV i h1)
    · subst h1
      rw [gv2]
      try simp only
      first | rw [if_pos rfl] | rw [if_pos trivial]
      exact hk _ _ _ ov n1 n2
  · rw [hl] at hi
    rcases split i hi with h1 | h1
    · rw [gu1 i h1]
      try simp only
      rw [if_neg (by omega)]
      exact hk _ _ _ (h.eu i h1) (h.gU i h1) (h.uU i h1)
    · subst h1
      rw [gu2]
      try simp only
      first | rw [if_pos rfl] | rw [if_pos trivial]
      exact hk _ _ _ ou n3 n4
  · rw [hl] at hj
    rcases split j hj with h1 | h1
    · rw [gv1 i (by omega), gv1 j h1]
      exact h.ap i j hij h1
    · subst h1
      rw [gv1 i hij, gv2]
      exact nV i hij
  · rw [hl] at hi
    rcases split i hi with h1 | h1
    · rw [gv1 i h1]; exact hgf _ (h.gV i h1) (kv i h1)
    · subst h1; rw [gv2]; exact hgf _ n1 lv
  · rw [hl] at hi
    rcases split i hi with h1 | h1
    · rw [gu1 i h1]; exact hgf _ (h.gU i h1) (ku i h1)
    · subst h1; rw [gu2]; exact hgf _ n3 lu
  · rw [hl] at hi
    rcases split i hi with h1 | h1
    · rw [gv1 i h1]; exact huf _ (h.uV i h1) (kv i h1)
    · subst h1; rw [gv2]; exact huf _ n2 lv
  · rw [hl] at hi
    rcases split i hi with h1 | h1
    · rw [gu1 i h1]; exact huf _ (h.uU i h1) (ku i h1)
    · subst h1; rw [gu2]; exact huf _ n4 lu
end Ln
end Go.Proofs.YtbmpiddjakdebaaGreat
namespace Go.Proofs.YtbmpiddjakdebaaGreat
open Go.RowKit
set_option linter.unusedVariables false
set_option linter.unusedSimpArgs false
set_option maxRecDepth 100000

namespace Ln
set_option maxHeartbeats 4000000 in
theorem addsC (Wb w : World) (gb : Wb.grownBy w none) (base b : Nat) (hbW : Wb.heap.size ≤ b) (gv uv : Value) (V U : List Value) (P : Nat → List Pt) (hB : Bk w base b gv uv V U P) (hN : V.length < 100) (v u : Value) (ps : List Pt) (ov : w.ownsRow base 40 2 v ps.length (fl ps)) (ou : w.ownsRow base 40 2 u ps.length (fl ps)) (hok : ∀ k, k < ps.length → PtOk (ps.getD k (0, 0))) (hl : ps.length < 1000000000) (nV : ∀ i, i < V.length → Nb (V.getD i nv) v) (n1 : Nb gv v) (n2 : Nb uv v) (n3 : Nb gv u) (n4 : Nb uv u) (r : Int) :
    Calls Tryz.prog 10 #[.pointer (some ⟨b, 0, none⟩), v, .int .i64 r, u, .int .i64 r] w fun e w' => e = .returned (.tuple #[]) ∧ ∃ gv' uv', Bk w' base b gv' uv' (V ++ [v]) (U ++ [u]) (fun i => if i = V.length then ps else P i) ∧ Wb.grownBy w' none := by
  obtain ⟨iS, HIS⟩ : ∃ i, Hid (Tryz.prog.info? 24 = some i ∧ i.zero = some (.slice none 0 0) ∧ i.size = 1 ∧ i.bytes = 24) := by
    obtain ⟨i, h1, h2, h3, h4⟩ := info_parts infoPS
    exact ⟨i, h1, h2, h3, h4⟩
  have HBk : Hid (Bk w base b gv uv V U P) := hB
  have HOV : Hid (w.ownsRow base 40 2 v ps.length (fl ps)) := ov
  have HOU : Hid (w.ownsRow base 40 2 u ps.length (fl ps)) := ou
  obtain ⟨s1, cv, hv1, P1, _⟩ := own_shape0 ov rfl
  obtain ⟨s2, cu, hu1, P2, _⟩ := own_shape0 ou rfl
  have kS := sameEq s1 ps.length cv (fun k => ps.getD k (0, 0)) hok hl s2 cu w P1 P2
  obtain ⟨nP, hnP⟩ : ∃ n, ps.length = n := ⟨_, rfl⟩
  rw [hnP] at kS hv1 hu1
  subst hv1
  subst hu1
  obtain ⟨nL, hnL⟩ : ∃ n, V.length = n := ⟨_, rfl⟩
  have HNL : Hid (V.length = nL) := hnL
  have hgot := hB.got
  have hwant := hB.want
  rw [hnL] at hgot hwant hN
  have hbase := hB.hb
  have hbw := hB.hbw
  have hng := hB.ng
  have B0 := hB.box
  have hr : (r != r) = false := by simp
  clear hB ov ou P1 P2 hnL
  clear hnP
  have hgl := fun g e => (hgot.lt g e)
  have hul := fun g e => (hwant.lt g e)
  go_enter Tryz.func10, Tryz.ntmps10
  go_wp2_with (first | (go_at_call 20; refine kS.mono ?_; rintro e w1 ⟨rfl, g1⟩; clear kS; have B1 := B0.kept g1 (by simp); have c0 := B1.cell 0 (v := gv) rfl; have c1 := B1.cell 1 (v := uv) rfl; have c2 := B1.cell 2 (v := .bool false) rfl; obtain ⟨W3, hW3⟩ : ∃ W3, w1.alloc (.cells #[.slice s1 nP cv] 24) = W3 := ⟨_, rfl⟩; have g3 : w1.grownBy W3 none := (by rw [← hW3]; exact World.grownBy_alloc _ _ _); have nX : ∀ l x, [Value.slice s1 nP cv][l]? = some x → W3.cell? ((⟨w1.heap.size, 0, none⟩ : Addr).add l) = some x := (by rw [← hW3]; exact World.news_of_block (heap_alloc_new _ _)); have own3 := (hgot.kept g1 (Classical.em _)).kept g3 (Classical.em _); have hb3 : base ≤ W3.heap.size := (by have := g1.size; have := g3.size; omega)) | (at_builtin; (fail_if_success (guard_hyp own6)); refine wpList_append_lies _ rfl _ _ 29 rfl base 24 iS (.slice none 0 0) 1 24 underPSS HIS.out.1 HIS.out.2.1 HIS.out.2.2.1 HIS.out.2.2.2 rfl (by decide) _ nL _ rfl own3 ⟨w1.heap.size, 0, none⟩ 1 1 [.slice s1 nP cv] rfl rfl nX (by intro x hx; simp at hx; subst hx; rfl) (by decide) (by unfold maxLen; omega) (by omega) hb3 _ rfl ?_; intro g6 c6 w6 own6 gg6 at6 lt6; have gg6c : W3.grownBy w6 gv.ownBlock := gg6; have at6c : gv.ownBlock = some g6 ∨ W3.heap.size ≤ g6 := at6.imp id (fun h => by omega); have B6 := (B1.kept g3 (by simp)).kept gg6c (fun e => by have := hgl b e.symm; omega); have x0 := B6.cell 0 (v := gv) rfl; have xf := B6.frozen 0; obtain ⟨WS, hWS⟩ : ∃ W, w6.setCell ⟨b, 0, none⟩ (.slice (some ⟨g6, 0, none⟩) (nL + 1) c6) = W := ⟨_, rfl⟩; have BS : Bo WS b 31 #[.slice (some ⟨g6, 0, none⟩) (nL + 1) c6, uv, .bool false] := (by rw [← hWS]; simpa using B6.set 0 (.slice (some ⟨g6, 0, none⟩) (nL + 1) c6)); have gS : w6.grownBy WS (some b) := (by rw [← hWS]; exact gb_set (World.grownBy.refl _ _) 0 _); have y0 := BS.cell 0 (v := .slice (some ⟨g6, 0, none⟩) (nL + 1) c6) rfl; have y1 := BS.cell 1 (v := uv) rfl; obtain ⟨W5, hW5⟩ : ∃ W5, WS.alloc (.cells #[.slice s2 nP cu] 24) = W5 := ⟨_, rfl⟩; have g5 : WS.grownBy W5 none := (by rw [← hW5]; exact World.grownBy_alloc _ _ _); have nX2 : ∀ l x, [Value.slice s2 nP cu][l]? = some x → W5.cell? ((⟨WS.heap.size, 0, none⟩ : Addr).add l) = some x := (by rw [← hW5]; exact World.news_of_block (heap_alloc_new _ _)); have own5 := ((((hwant.kept g1 (Classical.em _)).kept g3 (Classical.em _)).kept gg6c hng.ne).kept gS (.inr (fun e => by have := hul b e; omega))).kept g5 (Classical.em _); have hb5 : base ≤ W5.heap.size := (by have := gg6c.size; have := gS.size; have := g5.size; omega); have B5 := BS.kept g5 (by simp); have z0 := B5.cell 0 (v := .slice (some ⟨g6, 0, none⟩) (nL + 1) c6) rfl; have z1 := B5.cell 1 (v := uv) rfl) | (at_builtin; guard_hyp own6; refine wpList_append_lies _ rfl _ _ 29 rfl base 24 iS (.slice none 0 0) 1 24 underPSS HIS.out.1 HIS.out.2.1 HIS.out.2.2.1 HIS.out.2.2.2 rfl (by decide) _ nL _ rfl own5 ⟨WS.heap.size, 0, none⟩ 1 1 [.slice s2 nP cu] rfl rfl nX2 (by intro x hx; simp at hx; subst hx; rfl) (by decide) (by unfold maxLen; omega) (by omega) hb5 _ rfl ?_; intro g7 c7 w7 own7 gg7 at7 lt7; have gg7c : W5.grownBy w7 uv.ownBlock := gg7; have at7c : uv.ownBlock = some g7 ∨ W5.heap.size ≤ g7 := at7.imp id (fun h => by omega); have B7 := B5.kept gg7c (fun e => by have := hul b e.symm; omega); have t0 := B7.cell 1 (v := uv) rfl; have tf := B7.frozen 1) | go_in)
  have s1' := g1.size
  have s3 := g3.size
  have s6 := gg6c.size
  have sS := gS.size
  have s5 := g5.size
  have s7 := gg7c.size
  have hg6 := own6.lt g6 rfl
  have hg7 := own7.lt g7 rfl
  have gT : w7.grownBy (w7.setCell ⟨b, 1, none⟩ (.slice (some ⟨g7, 0, none⟩) (nL + 1) c7)) (some b) := gb_set (World.grownBy.refl _ _) 1 _
  have hug6 : uv.ownBlock ≠ some g6 := fun e => by
    rcases at6c with h | h
    · exact hng g6 h e
    · have := hul g6 e; omega
  have hBx : Bo (w7.setCell ⟨b, 1, none⟩ (.slice (some ⟨g7, 0, none⟩) (nL + 1) c7)) b 31 #[.slice (some ⟨g6, 0, none⟩) (nL + 1) c6, .slice (some ⟨g7, 0, none⟩) (nL + 1) c7, .bool false] := by simpa using B7.set 1 (.slice (some ⟨g7, 0, none⟩) (nL + 1) c7)
  have hWb : Wb.grownBy (w7.setCell ⟨b, 1, none⟩ (.slice (some ⟨g7, 0, none⟩) (nL + 1) c7)) none := by
    have sb := gb.size
    have k1 := (gb_trans gb (gb_trans g1 g3)).andThen gg6c (fun j hj => .inl (by have := hgl j hj; omega))
    have k2 := k1.andThen gS (fun j hj => .inl (by injection hj with hj; omega))
    have k3 := (gb_trans k2 g5).andThen gg7c (fun j hj => .inl (by have := hul j hj; omega))
    exact k3.andThen gT (fun j hj => .inl (by injection hj with hj; omega))
  have hpush := Bk.push (v := .slice s1 nP cv) (u := .slice s2 nP cu) (ps := ps) HBk.out hBx (by have := gT.size; omega) (by rw [HNL.out]; exact ((((own6.kept gS (.inr (fun e => by have e : g6 = b := Option.some.inj e; omega))).kept g5 (Classical.em _)).kept gg7c (.inr (fun e => hug6 e.symm))).kept gT (.inr (fun e => by have e : g6 = b := Option.some.inj e; omega)))) (by rw [HNL.out]; exact own7.kept gT (.inr (fun e => by have e : g7 = b := Option.some.inj e; omega))) (fun x n xs hx hx1 hx2 => by
    have hxb : x.ownBlock ≠ some b := fun e => by have := hx.lt b e; omega
    exact ((((((hx.kept g1 (Classical.em _)).kept g3 (Classical.em _)).kept gg6c hx1.ne).kept gS (.inr hxb)).kept g5 (Classical.em _)).kept gg7c hx2.ne).kept gT (.inr hxb)) (fun g e e2 => by
      have e : g6 = g := Option.some.inj e
      have e2 : g7 = g := Option.some.inj e2
      subst e
      rcases at7c with h | h
      · exact hug6 (by rw [h, e2])
      · omega) (fun x hx hlt g e e2 => by
      have e : g6 = g := Option.some.inj e
      subst e
      rcases at6c with h | h
      · exact hx g6 h e2
      · have := hlt g6 e2; omega) (fun x hx hlt g e e2 => by
      have e : g7 = g := Option.some.inj e
      subst e
      rcases at7c with h | h
      · exact hx g7 h e2
      · have := hlt g7 e2; omega) HOV.out HOU.out nV n1 n2 n3 n4
  have HPush : Hid (Bk (w7.setCell ⟨b, 1, none⟩ (.slice (some ⟨g7, 0, none⟩) (nL + 1) c7)) base b (.slice (some ⟨g6, 0, none⟩) (nL + 1) c6) (.slice (some ⟨g7, 0, none⟩) (nL + 1) c7) (V ++ [.slice s1 nP cv]) (U ++ [.slice s2 nP cu]) (fun i => if i = V.length then ps else P i)) := hpush
  clear hpush
  go_end0
  exact ⟨rfl, _, _, HPush.out, hWb⟩
end Ln
end Go.Proofs.YtbmpiddjakdebaaGreat
namespace Go.Proofs.YtbmpiddjakdebaaGreat
open Go.RowKit
set_option linter.unusedVariables false
set_option linter.unusedSimpArgs false
set_option maxRecDepth 100000

namespace Ln
theorem run_appS {P : Program} (w : World) (t ty : TypeId) (base : Nat) (e : TypeId) (i : TypeInfo) (z : Value) (size bytes : Nat) (ht : P.underlying t = some (.slice e)) (hi : P.info? e = some i) (hz : i.zero = some z)
    (hsize : i.size = size) (hby : i.bytes = bytes) (hzs : z.cells.size = size) (hsz : 0 < size)
    (v : Value) (n : Nat) (xs : List Value) (hown : w.ownsRow base e size v n xs)
    (ad : Addr) (c : Nat) (news : List Value) (hl : news.length = 1 * size) (hnews : ∀ j u, news[j]? = some u → w.cell? (ad.add j) = some u) (h1 : ∀ u ∈ news, u.oneCell' = true)
    (h63 : n + 1 ≤ maxLen) (hbytes : (n + 1) * bytes ≤ 140737488355328) (hbase : base ≤ w.heap.size) :
    ∃ g cap w', (Builtin.append_ #[t, t] ty #[v, .slice (some ad) 1 c]).run P w = .ok (.slice (some ⟨g, 0, none⟩) (n + 1) cap) w' ∧
      w'.ownsRow base e size (.slice (some ⟨g, 0, none⟩) (n + 1) cap) (n + 1) (xs ++ news) ∧ ((v.ownBlock = some g ∧ w.grownBy w' (some g)) ∨ (w.heap.size ≤ g ∧ w.grownBy w' none)) := by
  obtain ⟨g, cap, w', hr, h2, h3, h4, h5⟩ := run_append_lies (P := P) w t ty base e i z size bytes ht hi hz hsize hby hzs hsz v n xs hown ad 1 c news hl hnews h1 (by omega) h63 hbytes hbase _ rfl
  rcases hown.2 with ⟨rfl, hn⟩ | ⟨g0, cap0, cur, rfl, hb, hbk, hnc, hcm, hcs, htake⟩
  · refine ⟨g, cap, w', hr, h2, .inr ⟨?_, h3⟩⟩
    rcases h4 with h4 | h4
    · cases h4
    · omega
  · by_cases hroom : n + 1 ≤ cap0
    · have hz' : (n + 1) * size ≤ cap0 * size := Nat.mul_le_mul_right _ hroom
      rw [Nat.add_mul] at hz'
      have hrun := run_append_room_cells (P := P) w t ty e i ht hi g0 0 n cap0 ad 1 c news (by rw [hsize]; exact hl) hnews h1 hroom (fun j hj => by
        rw [hsize, Nat.zero_add, cell_of_row w g0 _ cur e (0, 0) hbk, Array.getElem?_eq_getElem (by rw [hcs]; omega)]
        rfl) (fun j hj => frozen_of_row w g0 _ cur e hbk)
      rw [hrun] at hr
      have hg : g0 = g := by
        injection hr with h6 h7
        injection h6 with h8 h9 h10
        injection h8 with h11
        injection h11
      subst hg
      exact ⟨g0, cap, w', by rw [hrun]; exact hr, h2, .inl ⟨rfl, h3⟩⟩
    · obtain ⟨v', w2, hr2, o2, g2⟩ := run_append_arg_grows (P := P) w t ty e i z size bytes ht hi hz hsize hby hzs hsz ⟨g0, 0, none⟩ n cap0 xs hown.1 (hown.cells rfl) ad 1 c news hl hnews (by omega) h63 hbytes
      obtain ⟨g3, cap3, rfl, hb3, hlt3⟩ := o2.form (by omega)
      exact ⟨g3, cap3, w2, hr2, own_less o2 hbase, .inr ⟨hb3, g2⟩⟩
theorem wpList_appS {P : Program} (w : World) {ops : Array Oper} {rest : List Oper} {o : Oper} {a : Act} {Q : Exit → Act → World → Prop} (hgd : o.guard = none) (s x : Operand) (t : TypeId)
    (ho : o.op = .call { callee := .builtin .append, args := #[s, x], argTypes := #[t, t] })
    (base : Nat) (e : TypeId) (i : TypeInfo) (z : Value) (size bytes : Nat) (ht : P.underlying t = some (.slice e)) (hi : P.info? e = some i) (hz : i.zero = some z)
    (hsize : i.size = size) (hby : i.bytes = bytes) (hzs : z.cells.size = size) (hsz : 0 < size)
    (v : Value) (n : Nat) (xs : List Value) (hs : a.eval s = v) (hown : w.ownsRow base e size v n xs)
    (ad : Addr) (c : Nat) (news : List Value) (hx : a.eval x = .slice (some ad) 1 c) (hl : news.length = 1 * size) (hnews : ∀ j u, news[j]? = some u → w.cell? (ad.add j) = some u) (h1 : ∀ u ∈ news, u.oneCell' = true)
    (h63 : n + 1 ≤ maxLen) (hbytes : (n + 1) * bytes ≤ 140737488355328) (hbase : base ≤ w.heap.size)
    (h : ∀ g cap w', w'.ownsRow base e size (.slice (some ⟨g, 0, none⟩) (n + 1) cap) (n + 1) (xs ++ news) → ((v.ownBlock = some g ∧ w.grownBy w' (some g)) ∨ (w.heap.size ≤ g ∧ w.grownBy w' none)) → wpList P ops Q rest (a.put o.dst (.slice (some ⟨g, 0, none⟩) (n + 1) cap)) w') : wpList P ops Q (o :: rest) a w :=
  wpList_plain hgd fun K hK => by
    obtain ⟨g, cap, w', hr, h2, h3⟩ := run_appS (P := P) w t o.type base e i z size bytes ht hi hz hsize hby hzs hsz v n xs hown ad c news hl hnews h1 h63 hbytes hbase
    unfold Oper.wp execOp
    simp only [ho, resolve, invoke, builtin, Sem.run_bind, Sem.run_pure, Result.andThen_ok, List.map_toArray, List.map_cons, List.map_nil, hs, hx, hr]
    exact hK _ _ (h g cap w' h2 h3)
/-- So many marks. -/
def mks (j n : Nat) : List Pt := List.replicate n (500 + (j : Int), 0)
theorem mks_len (j n : Nat) : (mks j n).length = n := List.length_replicate
theorem mks_get (j n t : Nat) (h : t < n) : (mks j n).getD t (0, 0) = (500 + (j : Int), 0) := by
  unfold mks
  rw [List.getD_eq_getElem?_getD, List.getElem?_replicate, if_pos h]
  rfl
theorem mks_snoc (j n : Nat) : mks j (n + 1) = mks j n ++ [(500 + (j : Int), 0)] := by unfold mks; rw [List.replicate_succ']
theorem mks_of {Q : List Pt} {j n : Nat} (hl : Q.length = n) (h : ∀ t, t < n → Q.getD t (0, 0) = (500 + (j : Int), 0)) : Q = mks j n := by
  apply List.ext_getElem?
  intro t
  by_cases ht : t < n
  · have := h t ht
    rw [List.getD_eq_getElem?_getD, List.getElem?_eq_getElem (by rw [hl]; exact ht)] at this
    rw [List.getElem?_eq_getElem (by rw [hl]; exact ht), List.getElem?_eq_getElem (by rw [mks_len]; exact ht)]
    have h2 := mks_get j n t ht
    rw [List.getD_eq_getElem?_getD, List.getElem?_eq_getElem (by rw [mks_len]; exact ht)] at h2
    congr 1
    exact this.trans h2.symm
  · rw [List.getElem?_eq_none (by omega), List.getElem?_eq_none (by rw [mks_len]; omega)]
theorem fl_set : ∀ (ps : List Pt) (k : Nat) (a b : Int), ((fl ps).set (k * 2) (.int .i64 a)).set (k * 2 + 1) (.int .i64 b) = fl (ps.set k (a, b))
  | [], k, a, b => by simp [fl]
  | p :: ps, 0, a, b => rfl
  | p :: ps, k + 1, a, b => by
    rw [show (k + 1) * 2 = k * 2 + 1 + 1 by omega, show k * 2 + 1 + 1 + 1 = (k * 2 + 1) + 1 + 1 by omega]
    show .int .i64 p.1 :: .int .i64 p.2 :: (((fl ps).set (k * 2) (.int .i64 a)).set (k * 2 + 1) (.int .i64 b)) = .int .i64 p.1 :: .int .i64 p.2 :: fl (ps.set k (a, b))
    rw [fl_set ps k a b]
end Ln
end Go.Proofs.YtbmpiddjakdebaaGreat
