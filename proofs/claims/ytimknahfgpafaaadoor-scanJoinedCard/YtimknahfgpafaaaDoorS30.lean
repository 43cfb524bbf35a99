/- walk: a text's lines are gone over twice, up to so many. -/
import Derived.Test.YtimknahfgpafaaaDoorS10
import Derived.Test.YtimknahfgpafaaaDoorS24
import Derived.Test.YtimknahfgpafaaaDoorS29
import Derived.BigFrameIn
import Derived.Laws.Small
namespace Go.Proofs.YtimknahfgpafaaaDoor
open Go.RowKit Go.Shelf
set_option linter.unusedVariables false
set_option linter.unusedSimpArgs false
attribute [local go_sem] Oper.semAt_some

theorem with_tmps {c : Code} {F : Fence} {n : Nat} {P : Program} {Q : Exit → Act → World → Prop} {t : Array Value} {d : List Deferred} {w : World} (h : ∀ AR, AR = t → c.wpIn F n P Q { tmps := AR, defers := d } w) : c.wpIn F n P Q { tmps := t, defers := d } w := h t rfl
theorem bxd_own {W W' : World} {row : Option Nat} {g : Nat} {t : TypeId} {x : Value} (h : Boxed W g t x) (hg : W.grownBy W' row) (hr : ∀ r, row = some r → ∃ o : Obj, W.heap[r]? = some o ∧ o.isCells = false) : Boxed W' g t x :=
  h.kept hg (fun e => by
    obtain ⟨o, ho, hc⟩ := hr g e.symm
    rw [show W.heap[g]? = _ from h] at ho; cases ho; cases hc)
/-- Deferred calls' marks, none of whose records holds a call. -/
def Marks (n0 B : Nat) : List Deferred → World → Prop
  | [], _ => True
  | d :: ds, W => (∃ E, d = { target := .collected E, args := #[] } ∧ n0 ≤ E ∧ E < B ∧ W.heap[E]? = some (.deferred (some [])) ∧ ∀ d' ∈ ds, d'.target ≠ .collected E) ∧ Marks n0 B ds W
theorem Marks.to {n0 B B' : Nat} {W W' : World} (h : ∀ E, n0 ≤ E → E < B → W.heap[E]? = some (.deferred (some [])) → W'.heap[E]? = some (.deferred (some []))) (hB : B ≤ B') : ∀ ds, Marks n0 B ds W → Marks n0 B' ds W'
  | [], _ => trivial
  | d :: ds, ⟨⟨E, h1, h2, h3, h4, h5⟩, hm⟩ => ⟨⟨E, h1, h2, Nat.lt_of_lt_of_le h3 hB, h E h2 h3 h4, h5⟩, Marks.to h hB ds hm⟩
/-- .. where a mark's own block is not among those that turn. -/
theorem Marks.to' {n0 B B' : Nat} {W W' : World} : ∀ ds, (∀ E, n0 ≤ E → E < B → (∃ d ∈ ds, d.target = .collected E) → W.heap[E]? = some (.deferred (some [])) → W'.heap[E]? = some (.deferred (some []))) → B ≤ B' → Marks n0 B ds W → Marks n0 B' ds W'
  | [], _, _, _ => trivial
  | d :: ds, h, hB, ⟨⟨E, h1, h2, h3, h4, h5⟩, hm⟩ => ⟨⟨E, h1, h2, Nat.lt_of_lt_of_le h3 hB, h E h2 h3 ⟨d, List.mem_cons_self .., by rw [h1]⟩ h4, h5⟩, Marks.to' ds (fun E a b ⟨d', hd, e⟩ => h E a b ⟨d', List.mem_cons_of_mem _ hd, e⟩) hB hm⟩
theorem Marks.away {n0 B : Nat} {W : World} : ∀ ds, Marks n0 B ds W → ∀ d ∈ ds, ∀ E, d.target = .collected E → E < B
  | [], _, d, hd, _, _ => by cases hd
  | d0 :: ds, ⟨⟨E0, h1, h2, h3, h4, h5⟩, hm⟩, d, hd, E, he => by
    rcases List.mem_cons.1 hd with rfl | hd
    · rw [h1] at he; cases he; exact h3
    · exact Marks.away ds hm d hd E he
/-- What the end of the function does with the marks. -/
theorem leaves_marks {F : Fence} {n : Nat} {P : Program} {fn : Func} {tmps : Array Value} {R : Ending → World → Prop} {n0 B : Nat} : ∀ (ds : List Deferred) (W : World), Marks n0 B ds W → n0 ≤ W.heap.size →
    (∀ W', Below n0 W W' → (∀ (b : Nat) (o : Obj), o.isCells = true → W.heap[b]? = some o → W'.heap[b]? = some o) → LeavesIn F n P fn tmps R [] .returning W') → LeavesInM F n P fn tmps R ds .returning W
  | [], W, _, _, h => h W (Below.refl _ _) (fun _ _ _ h => h)
  | d :: ds, W, ⟨⟨E, h1, h2, h3, h4, h5⟩, hm⟩, hn, h => by
    refine ⟨by simp, .inl ⟨E, _, by rw [h1], run_takeDeferred h4, ?_⟩⟩
    have hb : Below n0 W (W.putObj E (.deferred none)) := (Below.refl n0 W).grown (grownBy_putObj' W E _) hn (fun k e => by cases e; omega)
    refine leaves_marks ds _ (Marks.to' ds (fun E' _ _ he hd => ?_) (Nat.le_refl _) hm) (Nat.le_trans hn hb.size) (fun W' hb' hc' => h W' (hb.trans hb') (fun b o ho hbo => hc' b o ho ?_))
    · obtain ⟨d', hd', e'⟩ := he
      have hne : E' ≠ E := fun e => h5 d' hd' (by rw [e', e])
      rw [World.putObj_heap_other hne]; exact hd
    · have hne : b ≠ E := fun e => by rw [e, h4] at hbo; cases hbo; cases ho
      rw [World.putObj_heap_other hne]; exact hbo
/-- What lies about while walk goes over the lines. -/
def Ev (b0 bw : Nat) (mo : Int) (s : ByteArray) (sl : Value) (L : Nat) (cs : List Value) (W : World) : Prop :=
  Boxed W b0 3 (.int .i64 mo) ∧ Boxed W (b0 + 1) 4 (.bool false) ∧ Boxed W bw 24 sl ∧ Boxed W (bw + 1) 9 (.string s) ∧ W.ownsRow b0 28 2 sl L cs
theorem Ev.own {b0 bw L : Nat} {mo : Int} {s : ByteArray} {sl : Value} {cs : List Value} {W W' : World} {row : Option Nat} (h : Ev b0 bw mo s sl L cs W) (hg : W.grownBy W' row) (hr : ∀ r, row = some r → ∃ o : Obj, W.heap[r]? = some o ∧ o.isCells = false) : Ev b0 bw mo s sl L cs W' :=
  ⟨bxd_own h.1 hg hr, bxd_own h.2.1 hg hr, bxd_own h.2.2.1 hg hr, bxd_own h.2.2.2.1 hg hr, rows_own h.2.2.2.2 hg hr⟩
theorem Ev.set {b0 bw L B : Nat} {mo : Int} {s : ByteArray} {sl x y : Value} {cs : List Value} {W : World} (h : Ev b0 bw mo s sl L cs W) (hB : Boxed W B 3 x) (h1 : b0 + 1 < B) (h2 : bw + 1 < B) : Ev b0 bw mo s sl L cs (W.setCell ⟨B, 0, none⟩ y) :=
  ⟨h.1.other (by omega) _, h.2.1.other (by omega) _, h.2.2.1.other (by omega) _, h.2.2.2.1.other (by omega) _, own_set h.2.2.2.2 (hB.not_row (by decide) h.2.2.2.2)⟩
/-- .. and where. -/
def Fr (b0 bw : Nat) (mo : Int) (s : ByteArray) (sl : Value) (L : Nat) (cs : List Value) (w : World) (nB n3 nW : Nat) (ds : List Deferred) (W : World) : Prop :=
  Ev b0 bw mo s sl L cs W ∧ Below b0 w W ∧ nB ≤ W.heap.size ∧ Marks n3 nW ds W
theorem Fr.own {b0 bw L nB n3 nW : Nat} {mo : Int} {s : ByteArray} {sl : Value} {cs : List Value} {ds : List Deferred} {w W W' : World} {row : Option Nat} (hn : b0 ≤ w.heap.size) (hb : b0 ≤ nB) (hw : nW ≤ nB) (h : Fr b0 bw mo s sl L cs w nB n3 nW ds W) (hg : W.grownBy W' row) (hr : ∀ r, row = some r → nB ≤ r ∧ ∃ o : Obj, W.heap[r]? = some o ∧ o.isCells = false) : Fr b0 bw mo s sl L cs w nB n3 nW ds W' :=
  ⟨h.1.own hg (fun r e => (hr r e).2), ownFrom_below (β := Unit) hn hb () W W' row h.2.1 hg hr, Nat.le_trans h.2.2.1 hg.size, Marks.to (fun E _ h2 h3 => (hg.block E (Array.getElem?_eq_some_iff.1 h3).1 (fun e => by have := (hr E e.symm).1; omega)).trans h3) (Nat.le_refl _) ds h.2.2.2⟩
theorem Fr.set {b0 bw L B nB n3 nW : Nat} {mo : Int} {s : ByteArray} {sl x y : Value} {cs : List Value} {ds : List Deferred} {w W : World} (h : Fr b0 bw mo s sl L cs w nB n3 nW ds W) (hB : Boxed W B 3 x) (h1 : b0 + 1 < B) (h2 : bw + 1 < B) : Fr b0 bw mo s sl L cs w nB n3 nW ds (W.setCell ⟨B, 0, none⟩ y) :=
  ⟨h.1.set hB h1 h2, h.2.1.setCell (p := ⟨B, 0, none⟩) (by show b0 ≤ B; omega) _, Nat.le_trans h.2.2.1 (KeepsOthers.setCell W ⟨B, 0, none⟩ y).size, Marks.to (fun E _ _ h3 => (KeepsOthers.setCell W ⟨B, 0, none⟩ y).same E _ h3 rfl) (Nat.le_refl _) ds h.2.2.2⟩
theorem pre_at {l pre q : List Nat} {x : Nat} (h : (pre ++ [x]) ++ q = l) : l[pre.length]? = some x := by
  rw [← h, List.append_assoc, List.getElem?_append_right (Nat.le_refl _), Nat.sub_self]; rfl

set_option maxRecDepth 100000 in
set_option maxHeartbeats 8000000 in
theorem walkC (s : ByteArray) (hs : s.size ≤ 1048576) (mo : Int) (w : World) :
    Calls Tryd.prog 10 #[.string s, .int .i64 mo] w fun e w' => e = .returned (.bool true) ∧ Below w.heap.size w w' := by
  have hnil : ∀ (B : Nat) (w : World), (binOp BinOp.eql 55 (.func (.func 51) #[] #[.pointer (some ⟨B, 0, none⟩)]) .nilFunc).run Tryd.prog w = .ok (.bool false) w := fun _ _ => by kernel_rfl
  have hsm : s.size ≤ maxLen := by unfold maxLen; omega
  obtain ⟨W0, hW0⟩ : ∃ W0, (w.alloc (.cells #[.int .i64 mo] 3)).alloc (.cells #[.bool false] 4) = W0 := ⟨_, rfl⟩
  have m0 : Boxed W0 w.heap.size 3 (.int .i64 mo) := by rw [← hW0]; exact (Boxed.new _ _ _).alloc _
  have t0 : Boxed W0 (w.heap.size + 1) 4 (.bool false) := by
    rw [← hW0]
    have h := Boxed.new (w.alloc (.cells #[.int .i64 mo] 3)) 4 (.bool false)
    rwa [World.size_alloc] at h
  have g0 : w.grownBy W0 none := by rw [← hW0]; exact gb_alloc (World.grownBy_alloc _ _ _) _
  have z0 : w.heap.size + 1 < W0.heap.size := t0.lt
  refine (callsIn_wide (n := 3)).1 ?_
  refine callsIn_of_wp_marks Tryd.func10 rfl trivial ?_ rfl
  simp only [Tryd.ntmps10, List.size_toArray, List.length_cons, List.length_nil, Nat.reduceAdd, Nat.reduceSub, Array.replicate_succ, Array.replicate_zero, List.push_toArray, List.append_toArray, List.nil_append, List.cons_append]
  gi_wp2_with (first | (refine ⟨trivial, ?_⟩; gi_at_call 30; refine (callsIn_wide.2 (rlinesC s hs _)).mono ?_; rintro e w2 ⟨v2, rfl, o2, g2⟩; obtain ⟨s2, c2, hv2, r2, b2⟩ := spansIn_of (l := sp2 s (lns s)) (by rw [sp2_len]; exact o2); rw [sp2_len] at hv2; subst hv2) | (refine ⟨trivial, ?_⟩; gi_at_call 26; refine (lines_in _ s _).mono ?_; rintro e w3 ⟨rfl, hw3⟩; subst w3))
  clear r2 b2
  obtain ⟨W3, hW3⟩ : ∃ W3, (w2.alloc (.cells #[.slice s2 (lns s).length c2] 24)).alloc (.cells #[.string s] 9) = W3 := ⟨_, rfl⟩
  have m3 : Boxed W3 w2.heap.size 24 (.slice s2 (lns s).length c2) := by rw [← hW3]; exact (Boxed.new _ _ _).alloc _
  have t3 : Boxed W3 (w2.heap.size + 1) 9 (.string s) := by
    rw [← hW3]
    have h := Boxed.new (w2.alloc (.cells #[.slice s2 (lns s).length c2] 24)) 9 (.string s)
    rwa [World.size_alloc] at h
  have g3 : w2.grownBy W3 none := by rw [← hW3]; exact gb_alloc (World.grownBy_alloc _ _ _) _
  rw [hW3]
  clear hW3 hW0
  have z2 := g2.size
  have z3 : w2.heap.size + 1 < W3.heap.size := t3.lt
  have ev3 : Ev w.heap.size w2.heap.size mo s (.slice s2 (lns s).length c2) (lns s).length (scs s (sp2 s (lns s))) W3 := ⟨(m0.kept g2 (by simp)).kept g3 (by simp), (t0.kept g2 (by simp)).kept g3 (by simp), m3, t3, row_mono (o2.kept g3 (Classical.em _)) (by omega)⟩
  have HG : w.grownBy W3 none := gb_trans g0 (gb_trans g2 g3)
  clear m0 t0 m3 t3 o2 g0 g2 g3
  obtain ⟨L, hL⟩ : ∃ L, Hid (L = (lns s).length) := ⟨_, rfl⟩
  refine wpIn_loop (fun a' W => ∃ (k : Nat) (ds : List Deferred) (u7 u8 u9 u10 u17 u18 u19 u20 u21 u22 u23 u24 u25 u26 u27 u28 u29 u30 u31 u32 u33 u34 u35 u36 u37 u38 u39 u40 u41 u42 u43 u44 u45 u46 u47 u48 u49 u50 u51 u52 u53 u54 u55 u56 u57 u58 u59 u60 u61 u62 u63 u64 u65 u66 u67 u68 u69 u70 : Value), a' = { tmps := #[.string s, .int .i64 mo, undef, .pointer (some ⟨w.heap.size, 0, none⟩), .pointer (some ⟨w.heap.size + 1, 0, none⟩), .pointer (some ⟨w2.heap.size, 0, none⟩), .func (.func 51) #[] #[.pointer (some ⟨w2.heap.size + 1, 0, none⟩)], u7, u8, u9, u10, .string s, .slice s2 (lns s).length c2, .string s, .func (.func 51) #[] #[.pointer (some ⟨w2.heap.size + 1, 0, none⟩)], .func (.func 51) #[] #[.pointer (some ⟨w2.heap.size + 1, 0, none⟩)], .bool false, u17, u18, u19, u20, u21, u22, u23, u24, u25, u26, u27, u28, u29, u30, u31, u32, u33, u34, u35, u36, u37, u38, u39, u40, u41, u42, u43, u44, u45, u46, u47, u48, u49, u50, u51, u52, u53, u54, u55, u56, u57, u58, u59, u60, u61, u62, u63, u64, u65, u66, u67, u68, u69, u70], defers := ds } ∧ u7 = .int .i64 (k : Nat) ∧ k ≤ 2 ∧ Ev w.heap.size w2.heap.size mo s (.slice s2 (lns s).length c2) (lns s).length (scs s (sp2 s (lns s))) W ∧ Below w.heap.size w W ∧ W3.heap.size ≤ W.heap.size ∧ Marks W3.heap.size W.heap.size ds W) (fun a' _ => 2 - (intOf (a'.tmps.getD 7 undef)).toNat) ?_ ?_
  · exact ⟨0, [], _, _, _, _, _, _, _, _, _, _, _, _, _, _, _, _, _, _, _, _, _, _, _, _, _, _, _, _, _, _, _, _, _, _, _, _, _, _, _, _, _, _, _, _, _, _, _, _, _, _, _, _, _, _, _, _, _, _, rfl, rfl, by omega, ev3, gb_below HG, Nat.le_refl _, trivial⟩
  rintro a' W ⟨k, ds, u7, u8, u9, u10, u17, u18, u19, u20, u21, u22, u23, u24, u25, u26, u27, u28, u29, u30, u31, u32, u33, u34, u35, u36, u37, u38, u39, u40, u41, u42, u43, u44, u45, u46, u47, u48, u49, u50, u51, u52, u53, u54, u55, u56, u57, u58, u59, u60, u61, u62, u63, u64, u65, u66, u67, u68, u69, u70, rfl, rfl, hk, ev, hBel, hsz, hM⟩
  by_cases hlt : k < 2
  · have hlt' : (k : Int) < 2 := by omega
    gi_wp2
    refine with_tmps ?_
    intro AR hAR
    obtain ⟨W4, hW4⟩ : ∃ W4, W.alloc (.cells #[.int .i64 0] 3) = W4 := ⟨_, rfl⟩
    rw [hW4]
    have kN : Boxed W4 W.heap.size 3 (.int .i64 0) := by rw [← hW4]; exact Boxed.new _ _ _
    have g4 : W.grownBy W4 none := by rw [← hW4]; exact World.grownBy_alloc _ _ _
    clear hW4
    have z4 : W.heap.size < W4.heap.size := kN.lt
    have ev4 := ev.own g4 (fun r e => by cases e)
    have hM4 : Marks W3.heap.size W.heap.size ds W4 := Marks.to (fun E _ h2 h3 => (g4.block E h2 (by simp)).trans h3) (Nat.le_refl _) ds hM
    have F4 : Fr w.heap.size w2.heap.size mo s (.slice s2 (lns s).length c2) (lns s).length (scs s (sp2 s (lns s))) w W4.heap.size W3.heap.size W.heap.size ds W4 := ⟨ev4, hBel.trans ((gb_below g4).mono (by omega)), Nat.le_refl _, hM4⟩
    refine wpIn_rangeFunc_ownF rfl (by omega) (gf := 51) (lb := #[.pointer (some ⟨w2.heap.size + 1, 0, none⟩)]) (by subst hAR; rfl) trivial (enters_of Tryd.func51 (by kernel_rfl) rfl)
      (lines_stops 2 (by omega) (w2.heap.size + 1) s hsm W4 ev4.2.2.2.1.cell) Kb.trans (Kb.put (by omega)) (Below.refl _ _) (fun _ => rfl)
      (fun pre W' => Boxed W' W.heap.size 3 (.int .i64 (pre.length : Nat)) ∧ Fr w.heap.size w2.heap.size mo s (.slice s2 (lns s).length c2) (lns s).length (scs s (sp2 s (lns s))) w W4.heap.size W3.heap.size W.heap.size ds W' ∧ (1 ≤ mo → (pre.length : Int) < mo))
      (fun c pre W' => (c = .exit 2 ∧ (pre.length : Int) = mo ∧ 1 ≤ pre.length ∧ Boxed W' W.heap.size 3 (.int .i64 (pre.length : Nat)) ∧ Fr w.heap.size w2.heap.size mo s (.slice s2 (lns s).length c2) (lns s).length (scs s (sp2 s (lns s))) w W4.heap.size W3.heap.size W.heap.size ds W') ∨ (∃ pre' x, pre = pre' ++ [x] ∧ (lns s)[pre'.length]? ≠ some x))
      (fun p X Y row hs hg hr => ⟨bxd_own hs.1 hg (fun r e => (hr r e).2), hs.2.1.own (Nat.le_refl _) (by omega) (by omega) hg hr, hs.2.2⟩)
      (fun c p X Y row hs hg hr => by
        rcases hs with ⟨e1, e2, e3, h1, h2⟩ | h
        · exact .inl ⟨e1, e2, e3, bxd_own h1 hg (fun r e => (hr r e).2), h2.own (Nat.le_refl _) (by omega) (by omega) hg hr⟩
        · exact .inr h)
      ⟨kN, F4, fun h => by show (0 : Int) < mo; omega⟩
      (fun x => { tmps := (((AR.setIfInBounds 22 (.int .i64 (x : Nat))).setIfInBounds 23 (.string (s.extract x (le s x)))).setIfInBounds 9 (.int .i64 (x : Nat))).setIfInBounds 10 (.string (s.extract x (le s x))), defers := [] }) ?assign ?body ?done ?stop
    case assign =>
      intro l x W' K hK
      subst hAR
      gi_wp2
      exact hK
    case body =>
      rintro l pre x W5 ⟨hN, hF, hmo⟩ hlen
      subst hAR
      have y0 := hN.cell
      have y1 := hN.frozen
      have y2 := hF.1.2.2.1.cell
      have y3 := hF.1.1.cell
      have y4 := hF.1.2.1.cell
      have y5 := hF.1.2.1.frozen
      have hO := hF.1.2.2.2.2
      have hw1 : IntKind.i64.wrap ((pre.length : Int) + 1) = (pre.length : Int) + 1 := by rw [IntKind.wrap_i64]; omega
      have hlw : Hid ((((pre ++ [x]).length : Nat) : Int) = (pre.length : Int) + 1) := by unfold Hid; simp
      obtain ⟨sp', cap', e', r', _⟩ := spansIn_of (l := sp2 s (lns s)) (by rw [sp2_len]; exact hO)
      rw [sp2_len] at e'
      have es : sp' = s2 := by injection e' with e1 _ _; exact e1.symm
      rw [es] at r'
      clear e' es
      by_cases hx : (lns s)[pre.length]? = some x
      · obtain ⟨hpl, hgx⟩ := List.getElem?_eq_some_iff.1 hx
        obtain ⟨gg, hs2, q0, q1⟩ := r' pre.length (by rw [sp2_len]; exact hpl)
        subst hs2
        have e2 : (sp2 s (lns s))[pre.length]'(by rw [sp2_len]; exact hpl) = (x, le s x) := by unfold sp2; rw [List.getElem_map, hgx]
        rw [e2] at q0 q1
        clear e2 hgx hx r' hO
        have hge : ¬ ((lns s).length : Int) ≤ (pre.length : Int) := by omega
        have hpl' : (pre.length : Int) < ((lns s).length : Int) := by omega
        by_cases hm : (pre.length : Int) + 1 = mo
        · have em : ((pre.length : Int) + 1 == mo) = true := by simp; omega
          have HM : Hid ((pre.length : Int) + 1 = mo) := hm
          clear hm
          gi_wp2
          exact ⟨KeepsOthers.setCell _ _ _, .inl ⟨rfl, by have := HM.out; rw [List.length_append]; simp only [List.length_cons, List.length_nil]; omega, by rw [List.length_append]; simp only [List.length_cons, List.length_nil]; omega, by rw [hlw.out]; exact hN.set _, hF.set hN (by omega) (by omega)⟩⟩
        · have em : ((pre.length : Int) + 1 == mo) = false := by simp; omega
          have HM : Hid (¬ (pre.length : Int) + 1 = mo) := hm
          clear hm
          gi_wp2
          exact ⟨KeepsOthers.setCell _ _ _, Below.heap_setCell _ _ _ _ (show w2.heap.size + 1 ≠ W.heap.size by omega), by rw [hlw.out]; exact hN.set _, hF.set hN (by omega) (by omega), fun h => by have := HM.out; have := hmo h; rw [List.length_append]; simp only [List.length_cons, List.length_nil]; omega⟩
      · have bad : ∃ pre' x', pre ++ [x] = pre' ++ [x'] ∧ (lns s)[pre'.length]? ≠ some x' := ⟨pre, x, rfl, hx⟩
        by_cases hpl : pre.length < (lns s).length
        · obtain ⟨gg, hs2, q0, q1⟩ := r' pre.length (by rw [sp2_len]; exact hpl)
          subst hs2
          have e2 : (sp2 s (lns s))[pre.length]'(by rw [sp2_len]; exact hpl) = ((lns s)[pre.length], le s (lns s)[pre.length]) := by unfold sp2; rw [List.getElem_map]
          rw [e2] at q0 q1
          have hxx : (lns s)[pre.length] ≠ x := fun e => hx (by rw [← e]; exact List.getElem?_eq_getElem hpl)
          clear e2 hx r' hO
          generalize (lns s)[pre.length] = yy at *
          have hge : ¬ ((lns s).length : Int) ≤ (pre.length : Int) := by omega
          have hpl' : (pre.length : Int) < ((lns s).length : Int) := by omega
          have hyx : ((yy : Int) != (x : Int)) = true := by simp; omega
          have HX : Hid (yy ≠ x) := hxx
          clear hxx
          gi_wp2
          exact ⟨KeepsOthers.setCell _ _ _, .inr bad⟩
        · have hge : ((lns s).length : Int) ≤ (pre.length : Int) := by omega
          gi_wp2
          exact ⟨KeepsOthers.setCell _ _ _, .inr bad⟩
    case done =>
      rintro E ys W6 hD hS ⟨hN, hF, hmo⟩ hK
      subst hAR
      have hlen : ys.length = (lns s).length := by rw [hS]
      rw [hlen] at hN hmo
      clear hlen hS
      have y0 := hN.cell
      have y2 := hF.1.2.2.1.cell
      have y3 := hF.1.1.cell
      have hKl := (Array.getElem?_eq_some_iff.1 hK).1
      have hsz6 := hF.2.2.1
      have M6 : Marks W3.heap.size W6.heap.size ({ target := .collected E, args := #[] } :: ds) W6 := ⟨⟨E, rfl, by omega, hKl, hK, fun d' hd he => by have := Marks.away ds hF.2.2.2 d' hd E he; omega⟩, Marks.to (fun _ _ _ h => h) (by omega) ds hF.2.2.2⟩
      by_cases h1m : 1 ≤ mo
      · have hlm : ((lns s).length : Int) < mo := hmo h1m
        have hq1 : ¬ mo < 1 := by omega
        have hmn : ∀ (ts : Array TypeId) (t : TypeId) (w : World), (Builtin.min_ ts t #[.int .i64 mo, .int .i64 ((lns s).length : Nat)]).run Tryd.prog w = .ok (.int .i64 ((lns s).length : Nat)) w := fun ts t w => by rw [run_min_int2, if_pos hlm]
        clear hmo hlm
        gi_wp2
        refine ⟨⟨k + 1, _, _, ⟨rfl, rfl⟩, by go_num, by omega, hF.1, hF.2.1, by omega, M6⟩, ?_⟩
        simp [intOf]; omega
      · have hq1 : mo < 1 := by omega
        clear hmo
        gi_wp2
        refine ⟨⟨k + 1, _, _, ⟨rfl, rfl⟩, by go_num, by omega, hF.1, hF.2.1, by omega, M6⟩, ?_⟩
        simp [intOf]; omega

    case stop =>
      rintro E c pre W6 hD ⟨q, hq⟩ hIx hK
      rcases hIx with ⟨rfl, hmo, h1, hN, hF⟩ | ⟨pre', x, rfl, hbad⟩
      · subst hAR
        subst hmo
        have hle : pre.length ≤ (lns s).length := by rw [← hq, List.length_append]; omega
        clear hq
        have y0 := hN.cell
        have y2 := hF.1.2.2.1.cell
        have y3 := hF.1.1.cell
        have hKl := (Array.getElem?_eq_some_iff.1 hK).1
        have hsz6 := hF.2.2.1
        have M6 : Marks W3.heap.size W6.heap.size ({ target := .collected E, args := #[] } :: ds) W6 := ⟨⟨E, rfl, by omega, hKl, hK, fun d' hd he => by have := Marks.away ds hF.2.2.2 d' hd E he; omega⟩, Marks.to (fun _ _ _ h => h) (by omega) ds hF.2.2.2⟩
        have hq1 : ¬ (pre.length : Int) < 1 := by omega
        have hq2 : (1 : Int) ≤ (pre.length : Int) := by omega
        have hq3 : ¬ ((lns s).length : Int) < (pre.length : Int) := by omega
        have hmn : ∀ (ts : Array TypeId) (t : TypeId) (w : World), (Builtin.min_ ts t #[.int .i64 (pre.length : Nat), .int .i64 ((lns s).length : Nat)]).run Tryd.prog w = .ok (.int .i64 (pre.length : Nat)) w := fun ts t w => by rw [run_min_int2, if_neg hq3]
        clear hq3
        gi_wp2
        refine ⟨⟨k + 1, _, _, ⟨rfl, rfl⟩, by go_num, by omega, hF.1, hF.2.1, by omega, M6⟩, ?_⟩
        simp [intOf]; omega

      · exact absurd (pre_at hq) hbad
  · have hlt' : ¬ (k : Int) < 2 := by omega
    have x0 := ev.2.1.cell
    have x1 := ev.2.1.frozen
    have hs5 := (KeepsOthers.setCell W ⟨w.heap.size + 1, 0, none⟩ (.bool true)).same
    have hc5 := World.cell?_setCell_same' W ⟨w.heap.size + 1, 0, none⟩ (.bool true) (by rw [x0]; rfl)
    have hbx := ev.2.1.set (.bool true)
    have hB5 := hBel.setCell (p := ⟨w.heap.size + 1, 0, none⟩) (by show w.heap.size ≤ w.heap.size + 1; omega) (.bool true)
    have hM5 : Marks W3.heap.size W.heap.size ds (W.setCell ⟨w.heap.size + 1, 0, none⟩ (.bool true)) := Marks.to (fun E _ _ h3 => hs5 E _ h3 rfl) (Nat.le_refl _) ds hM
    have hz5 : W3.heap.size ≤ (W.setCell ⟨w.heap.size + 1, 0, none⟩ (.bool true)).heap.size := Nat.le_trans hsz (KeepsOthers.setCell W ⟨w.heap.size + 1, 0, none⟩ (.bool true)).size
    clear hs5 hc5
    gi_wp2
    refine leaves_marks ds _ hM5 hz5 (fun W' hb hc => ?_)
    have hc5 : W'.cell? ⟨w.heap.size + 1, 0, none⟩ = some (.bool true) := Boxed.cell (hc _ _ rfl hbx)
    refine ⟨.bool true, ?_, rfl, hB5.trans (hb.mono (by omega))⟩
    simp [results, go_sem, hc5]
end Go.Proofs.YtimknahfgpafaaaDoor
