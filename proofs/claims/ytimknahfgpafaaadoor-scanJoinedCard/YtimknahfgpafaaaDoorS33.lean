/- ScanJoined: the walk. -/
import Derived.Test.YtimknahfgpafaaaDoorS30
import Derived.Test.YtimknahfgpafaaaDoorS32
import Derived.Deep.QuietTactic
import Derived.BigQuiet
import Derived.Deep.AppendLies
import Derived.Deep.RegionLaw
namespace Go.Proofs.YtimknahfgpafaaaDoor
open Go.RowKit Go.Shelf
set_option linter.unusedVariables false
set_option linter.unusedSimpArgs false
attribute [local go_sem] Oper.semAt_some
/-- The lines can be read from a slice. -/
def StrsIn (w : World) (sp : Option Addr) (n : Nat) (F : Nat → ByteArray) : Prop := ∀ k, k < n → ∃ b o, sp = some ⟨b, o, none⟩ ∧ w.cell? ⟨b, o + k, none⟩ = some (.string (F k))

/-- No panic. -/
def noP (Q : Exit → Act → World → Prop) : Exit → Act → World → Prop
  | .panic _, _, _ => False
  | e, a, w => Q e a w
theorem noP_le {Q : Exit → Act → World → Prop} : ∀ e a w, noP Q e a w → Q e a w := fun e a w h => by
  cases e <;> first | exact h | exact h.elim
theorem noP_normal {Q : Exit → Act → World → Prop} {a : Act} {w : World} (h : Q .normal a w) : noP Q .normal a w := h
theorem infoSt : (Tryd.prog.info? 9).map (fun i => (i.zero, i.size, i.bytes)) = some (some (.string ⟨#[]⟩), 1, 16) := by kernel_rfl
theorem underStS : Tryd.prog.underlying 53 = some (.slice 9) := by kernel_rfl
theorem empty_yes {d : ByteArray} (h : d.size = 0) : d.toList.isEmpty = true := by
  rw [Lib.toList_data]
  have : d.data.toList.length = d.size := Array.length_toList
  cases hl : d.data.toList with
  | nil => rfl
  | cons c r => rw [hl, h] at this; cases this
def EvJ (b0 b1 bs : Nat) (s : ByteArray) (W : World) : Prop := Boxed W b0 9 (.string s) ∧ Boxed W b1 4 (.bool false) ∧ Boxed W bs 9 (.string s)
theorem EvJ.own {b0 b1 bs : Nat} {s : ByteArray} {W W' : World} {row : Option Nat} (h : EvJ b0 b1 bs s W) (hg : W.grownBy W' row) (hr : ∀ r, row = some r → ∃ o : Obj, W.heap[r]? = some o ∧ o.isCells = false) : EvJ b0 b1 bs s W' :=
  ⟨bxd_own h.1 hg hr, bxd_own h.2.1 hg hr, bxd_own h.2.2 hg hr⟩
theorem EvJ.kept {b0 b1 bs : Nat} {s : ByteArray} {W W' : World} {row : Option Nat} (h : EvJ b0 b1 bs s W) (hg : W.grownBy W' row) (h0 : some b0 ≠ row) (h1 : some b1 ≠ row) (h2 : some bs ≠ row) : EvJ b0 b1 bs s W' :=
  ⟨h.1.kept hg h0, h.2.1.kept hg h1, h.2.2.kept hg h2⟩
theorem EvJ.set {b0 b1 bs B : Nat} {s : ByteArray} {W : World} (h : EvJ b0 b1 bs s W) (h0 : b0 ≠ B) (h1 : b1 ≠ B) (h2 : bs ≠ B) (y : Value) : EvJ b0 b1 bs s (W.setCell ⟨B, 0, none⟩ y) :=
  ⟨h.1.other h0 _, h.2.1.other h1 _, h.2.2.other h2 _⟩
/-- What lies about while the text's lines are gone over. -/
def FrJ (b0 b1 bs : Nat) (s : ByteArray) (n0 : Nat) (w : World) (nB : Nat) (W : World) : Prop := EvJ b0 b1 bs s W ∧ Below n0 w W ∧ nB ≤ W.heap.size
theorem FrJ.own {b0 b1 bs n0 nB : Nat} {s : ByteArray} {w W W' : World} {row : Option Nat} (hn : n0 ≤ w.heap.size) (hb : n0 ≤ nB) (h : FrJ b0 b1 bs s n0 w nB W) (hg : W.grownBy W' row) (hr : ∀ r, row = some r → nB ≤ r ∧ ∃ o : Obj, W.heap[r]? = some o ∧ o.isCells = false) : FrJ b0 b1 bs s n0 w nB W' :=
  ⟨h.1.own hg (fun r e => (hr r e).2), ownFrom_below (β := Unit) hn hb () W W' row h.2.1 hg hr, Nat.le_trans h.2.2 hg.size⟩
theorem FrJ.set {b0 b1 bs B n0 nB : Nat} {s : ByteArray} {w W : World} (h : FrJ b0 b1 bs s n0 w nB W) (h0 : b0 ≠ B) (h1 : b1 ≠ B) (h2 : bs ≠ B) (h3 : n0 ≤ B) (y : Value) : FrJ b0 b1 bs s n0 w nB (W.setCell ⟨B, 0, none⟩ y) :=
  ⟨h.1.set h0 h1 h2 y, h.2.1.setCell (p := ⟨B, 0, none⟩) h3 _, Nat.le_trans h.2.2 (KeepsOthers.setCell W ⟨B, 0, none⟩ y).size⟩

theorem strs_of {w : World} {base : Nat} {v : Value} {P : List ByteArray} (h : w.ownsRow base 9 1 v P.length (P.map Value.string)) : ∃ sp cap, v = .slice sp P.length cap := by
  rcases h.2 with ⟨rfl, h0⟩ | ⟨g, cap, cur, rfl, hb, hg, _⟩
  · exact ⟨none, 0, by rw [h0]⟩
  · exact ⟨_, cap, rfl⟩
theorem strs_at {w : World} {base : Nat} {sp : Option Addr} {cap : Nat} {P : List ByteArray} (h : w.ownsRow base 9 1 (.slice sp P.length cap) P.length (P.map Value.string)) (j : Nat) (hj : j < P.length) : ∃ g, sp = some ⟨g, 0, none⟩ ∧ w.cell? ⟨g, j, none⟩ = some (.string P[j]) := by
  rcases h.2 with ⟨e, h0⟩ | ⟨g, cap', cur, e, hb, hg, _⟩
  · omega
  · injection e with e1 _ _
    subst e1
    refine ⟨g, rfl, ?_⟩
    have hc := h.cells (g := g) rfl j (.string P[j]) (by rw [List.getElem?_map, List.getElem?_eq_getElem hj]; rfl)
    rwa [show (⟨g, 0, none⟩ : Addr).add j = ⟨g, j, none⟩ by rw [add_mid, Nat.zero_add]] at hc
theorem toList_ne {a b : ByteArray} (h : ¬ a = b) : (a.toList == b.toList) = false := by
  rw [Lib.toList_data, Lib.toList_data, beq_eq_false_iff_ne]
  intro e
  exact h (ByteArray.ext (Array.toList_inj.1 e))
def BadZ (T : ByteArray) (P : List ByteArray) (pre : List Nat) : Prop := ∃ pre' x, pre = pre' ++ [x] ∧ P[pre'.length]? ≠ some (T.extract x (le T x))
/-- What lies about while the second text's lines are gone over. -/
def FrZ (b1 bp bs : Nat) (T : ByteArray) (vp : Value) (base L : Nat) (xs : List Value) (n0 : Nat) (w : World) (E : Nat) (W : World) : Prop :=
  (Boxed W b1 4 (.bool false) ∧ Boxed W bp 53 vp ∧ Boxed W bs 9 (.string T) ∧ W.ownsRow base 9 1 vp L xs) ∧ Below n0 w W ∧ W.heap[E]? = some (.deferred (some []))
theorem FrZ.own {b1 bp bs base L n0 E nB : Nat} {T : ByteArray} {vp : Value} {xs : List Value} {w W W' : World} {row : Option Nat} (hn : n0 ≤ w.heap.size) (hb : n0 ≤ nB) (hE : E < nB) (h : FrZ b1 bp bs T vp base L xs n0 w E W) (hg : W.grownBy W' row) (hr : ∀ r, row = some r → nB ≤ r ∧ ∃ o : Obj, W.heap[r]? = some o ∧ o.isCells = false) : FrZ b1 bp bs T vp base L xs n0 w E W' :=
  ⟨⟨bxd_own h.1.1 hg (fun r e => (hr r e).2), bxd_own h.1.2.1 hg (fun r e => (hr r e).2), bxd_own h.1.2.2.1 hg (fun r e => (hr r e).2), rows_own h.1.2.2.2 hg (fun r e => (hr r e).2)⟩, ownFrom_below (β := Unit) hn hb () W W' row h.2.1 hg hr,
    (hg.block E (Array.getElem?_eq_some_iff.1 h.2.2).1 (fun e => by have := (hr E e.symm).1; omega)).trans h.2.2⟩
theorem FrZ.set {b1 bp bs base L n0 E B : Nat} {T : ByteArray} {vp x : Value} {xs : List Value} {w W : World} (h : FrZ b1 bp bs T vp base L xs n0 w E W) (hB : Boxed W B 3 x) (h0 : b1 ≠ B) (h1 : bp ≠ B) (h2 : bs ≠ B) (h3 : n0 ≤ B) (y : Value) : FrZ b1 bp bs T vp base L xs n0 w E (W.setCell ⟨B, 0, none⟩ y) :=
  ⟨⟨h.1.1.other h0 _, h.1.2.1.other h1 _, h.1.2.2.1.other h2 _, own_set h.1.2.2.2 (hB.not_row (by decide) h.1.2.2.2)⟩, h.2.1.setCell (p := ⟨B, 0, none⟩) h3 _, (KeepsOthers.setCell W ⟨B, 0, none⟩ y).same E _ h.2.2 rfl⟩

set_option maxRecDepth 100000 in
set_option maxHeartbeats 20000000 in
theorem joined_walk (s : ByteArray) (n cap : Nat) (sp : Option Addr) (F : Nat → ByteArray) (hn : n ≤ 9223372036854775807) (w : World) (hm : s.size ≤ 140737488355328) (ho : StrsIn w sp n F) (hF : ∀ k, k < n → (F k).size ≤ maxLen) (tp : TypeId) (p : Value) (hE : Hid (Er tp p w)) (hG : 4 < w.heap.size) :
    Calls Tryd.prog 8 #[.string s, .slice sp n cap] w fun e w' => e = .returned (.bool true) ∧ Below w.heap.size w w' := by
  have hnil : ∀ (B : Nat) (w : World), (binOp BinOp.eql 55 (.func (.func 51) #[] #[.pointer (some ⟨B, 0, none⟩)]) .nilFunc).run Tryd.prog w = .ok (.bool false) w := fun _ _ => by kernel_rfl
  have hsm : s.size ≤ maxLen := by unfold maxLen; omega
  obtain ⟨i0, hi⟩ := info_parts infoSt
  have HI : Hid (Tryd.prog.info? 9 = some i0 ∧ i0.zero = some (.string ⟨#[]⟩) ∧ i0.size = 1 ∧ i0.bytes = 16) := hi
  clear hi
  obtain ⟨W0, hW0⟩ : ∃ W0, (w.alloc (.cells #[.string s] 9)).alloc (.cells #[.bool false] 4) = W0 := ⟨_, rfl⟩
  have m0 : Boxed W0 w.heap.size 9 (.string s) := by rw [← hW0]; exact (Boxed.new _ _ _).alloc _
  have t0 : Boxed W0 (w.heap.size + 1) 4 (.bool false) := by
    rw [← hW0]
    have h := Boxed.new (w.alloc (.cells #[.string s] 9)) 4 (.bool false)
    rwa [World.size_alloc] at h
  have g0 : w.grownBy W0 none := by rw [← hW0]; exact gb_alloc (World.grownBy_alloc _ _ _) _
  have z0 : w.heap.size + 1 < W0.heap.size := t0.lt
  have hE0 : Hid (Er tp p W0) := Er.below hE.out (gb_below g0) hG
  have hG0 : 4 < W0.heap.size := Nat.lt_of_lt_of_le hG g0.size
  refine (callsIn_wide (n := 3)).1 ?_
  refine callsIn_of_wp_marks Tryd.func8 rfl trivial ?_ rfl
  simp only [Tryd.ntmps8, List.size_toArray, List.length_cons, List.length_nil, Nat.reduceAdd, Nat.reduceSub, Array.replicate_succ, Array.replicate_zero, List.push_toArray, List.append_toArray, List.nil_append, List.cons_append]
  gi_wp2_with (first | (refine ⟨trivial, ?_⟩; gi_at_call 9; refine (callsIn_wide.2 (awakeC _ tp p hE0 hG0)).mono ?_; rintro e w1 ⟨rfl, g1⟩; have m1 := m0.kept g1 (by simp); have x1 := m1.cell) | (refine ⟨trivial, ?_⟩; gi_at_call 26; refine (lines_in _ s _).mono ?_; rintro e w3 ⟨rfl, hw3⟩; subst w3))
  refine with_tmps ?_
  intro AR hAR
  obtain ⟨W3, hW3⟩ : ∃ W3, (w1.alloc (.cells #[.string s] 9)).alloc (.cells #[.int .i64 0] 3) = W3 := ⟨_, rfl⟩
  rw [hW3]
  have m3 : Boxed W3 w1.heap.size 9 (.string s) := by rw [← hW3]; exact (Boxed.new _ _ _).alloc _
  have t3 : Boxed W3 (w1.heap.size + 1) 3 (.int .i64 0) := by
    rw [← hW3]
    have h := Boxed.new (w1.alloc (.cells #[.string s] 9)) 3 (.int .i64 0)
    rwa [World.size_alloc] at h
  have g3 : w1.grownBy W3 none := by rw [← hW3]; exact gb_alloc (World.grownBy_alloc _ _ _) _
  clear hW3 hW0
  have z1 := g1.size
  have z3 : w1.heap.size + 1 < W3.heap.size := t3.lt
  have HG : w.grownBy W3 none := gb_trans g0 (gb_trans g1 g3)
  have F3 : FrJ w.heap.size (w.heap.size + 1) w1.heap.size s w.heap.size w W3.heap.size W3 := ⟨⟨m1.kept g3 (by simp), (t0.kept g1 (by simp)).kept g3 (by simp), m3⟩, gb_below HG, Nat.le_refl _⟩
  clear m0 t0 m1 x1 g0 g1 g3
  refine wpIn_rangeFunc_ownF rfl (by omega) (gf := 51) (lb := #[.pointer (some ⟨w1.heap.size, 0, none⟩)]) (by subst hAR; rfl) trivial (enters_of Tryd.func51 (by kernel_rfl) rfl)
    (lines_stops 2 (by omega) w1.heap.size s hsm W3 m3.cell) Kb.trans (Kb.put (by omega)) (Below.refl _ _) (fun _ => rfl)
    (fun pre W' => Boxed W' (w1.heap.size + 1) 3 (.int .i64 (nxI s 0 pre : Nat)) ∧ FrJ w.heap.size (w.heap.size + 1) w1.heap.size s w.heap.size w W3.heap.size W' ∧ nxI s 0 pre ≤ s.size)
    (fun c pre W' => ∃ pre' x, pre = pre' ++ [x] ∧ x ≠ nxI s 0 pre')
    (fun p X Y row hs hg hr => ⟨bxd_own hs.1 hg (fun r e => (hr r e).2), hs.2.1.own (Nat.le_refl _) (by omega) hg hr, hs.2.2⟩)
    (fun c p X Y row hs hg hr => hs)
    ⟨t3, F3, Nat.zero_le _⟩
    (fun x => { tmps := (((AR.setIfInBounds 28 (.int .i64 (x : Nat))).setIfInBounds 29 (.string (s.extract x (le s x)))).setIfInBounds 8 (.int .i64 (x : Nat))).setIfInBounds 9 (.string (s.extract x (le s x))), defers := [] }) ?assign ?body ?done ?stop
  case assign =>
    intro l x W' K hK
    subst hAR
    gi_wp2
    exact hK
  case body =>
    rintro l pre x W5 ⟨hN, hF5, hnx⟩ hlen
    subst hAR
    have y4 := hF5.1.2.1.cell
    have y5 := hF5.1.2.1.frozen
    have y6 := hF5.1.1.cell
    by_cases hx : x = nxI s 0 pre
    · have hls := nxI_snoc s 0 pre x
      rw [← hx] at hN hnx
      clear hx
      have y0 := hN.cell
      have y1 := hN.frozen
      have hb := le_bd hnx
      have hbl := ln_le hnx
      have hz := Sc.size_ext s (a := x) (b := le s x) (by omega)
      have hat := line_at hnx
      have hlx : lx s x = if ln s x < s.size then ln s x + 1 else ln s x := rfl
      have HLX : Hid (∀ b : Nat, lx s x = b → nxI s 0 (pre ++ [x]) = b) := fun b e => hls.trans e
      generalize le s x = e at *
      generalize ln s x = E at *
      generalize lx s x = X at *
      have hw1 : IntKind.i64.wrap ((x : Int) + ((e - x : Nat) : Int)) = (e : Int) := by rw [IntKind.wrap_i64]; omega
      have hw2 : IntKind.i64.wrap ((e : Int) + 1) = (e : Int) + 1 := by rw [IntKind.wrap_i64]; omega
      have hxe : (x : Int) ≤ (e : Int) := by omega
      have hes : (e : Int) ≤ (s.size : Int) := by omega
      have hes' : ¬ (s.size : Int) < (e : Int) := by omega
      have n0 : w.heap.size ≠ w1.heap.size + 1 := by omega
      have n1 : w.heap.size + 1 ≠ w1.heap.size + 1 := by omega
      have nb : w1.heap.size ≠ w1.heap.size + 1 := by omega
      have n3 : w.heap.size ≤ w1.heap.size + 1 := by omega
      rcases hat with ⟨hA, h10⟩ | ⟨hA, h13, h10⟩
      · by_cases hlt : e < s.size
        · have hlt' : (e : Int) < (s.size : Int) := by omega
          have hb' := Sc.bt_at hlt
          have hc : Sc.bt s e = 10 := by rw [hA]; exact h10 (by omega)
          have c13 : ((Sc.bt s e : Int) == 13) = false := by rw [hc]; rfl
          have c10 : ((Sc.bt s e : Int) != 10) = false := by rw [hc]; rfl
          have hmn : ∀ (ts : Array TypeId) (t : TypeId) (w : World), (Builtin.min_ ts t #[.int .i64 ((e : Int) + 1), .int .i64 (s.size : Nat)]).run Tryd.prog w = .ok (.int .i64 ((e : Int) + 1)) w := fun ts t w => by rw [run_min_int2, if_neg (by omega)]
          have HX := HLX.out (e + 1) (by rw [hlx, if_pos (by omega)]; omega)
          have HX' : Hid (nxI s 0 (pre ++ [x]) = e + 1) := HX
          clear hA h10 hc hlx HLX HX hls
          gi_wp2
          exact ⟨(KeepsOthers.setCell _ _ _).trans (KeepsOthers.setCell _ _ _), Eq.trans (Below.heap_setCell _ _ _ _ nb) (Below.heap_setCell _ _ _ _ nb), by rw [HX'.out]; exact (hN.set _).set _, (hF5.set n0 n1 nb n3 _).set n0 n1 nb n3 _, by rw [HX'.out]; omega⟩
        · have hlt' : ¬ (e : Int) < (s.size : Int) := by omega
          have hmn : ∀ (ts : Array TypeId) (t : TypeId) (w : World), (Builtin.min_ ts t #[.int .i64 ((e : Int) + 1), .int .i64 (s.size : Nat)]).run Tryd.prog w = .ok (.int .i64 ((s.size : Nat))) w := fun ts t w => by rw [run_min_int2, if_pos (by omega)]
          have HX := HLX.out s.size (by rw [hlx, if_neg (by omega)]; omega)
          have HX' : Hid (nxI s 0 (pre ++ [x]) = s.size) := HX
          clear hA h10 hlx HLX HX hls
          gi_wp2
          exact ⟨(KeepsOthers.setCell _ _ _).trans (KeepsOthers.setCell _ _ _), Eq.trans (Below.heap_setCell _ _ _ _ nb) (Below.heap_setCell _ _ _ _ nb), by rw [HX'.out]; exact (hN.set _).set _, (hF5.set n0 n1 nb n3 _).set n0 n1 nb n3 _, by rw [HX'.out]; omega⟩
      · have hlt : e < s.size := by omega
        have hlt' : (e : Int) < (s.size : Int) := by omega
        have hb' := Sc.bt_at hlt
        have c13 : ((Sc.bt s e : Int) == 13) = true := by rw [h13]; rfl
        have hw3 : IntKind.i64.wrap ((e : Int) + 1 + 1) = (e : Int) + 1 + 1 := by rw [IntKind.wrap_i64]; omega
        by_cases hlt2 : e + 1 < s.size
        · have hlt2' : (e : Int) + 1 < (s.size : Int) := by omega
          have hb2 := Sc.bt_at hlt2
          have hc : Sc.bt s (e + 1) = 10 := by rw [hA]; exact h10 (by omega)
          have c10 : ((Sc.bt s (e + 1) : Int) != 10) = false := by rw [hc]; rfl
          have hmn : ∀ (ts : Array TypeId) (t : TypeId) (w : World), (Builtin.min_ ts t #[.int .i64 ((e : Int) + 1 + 1), .int .i64 (s.size : Nat)]).run Tryd.prog w = .ok (.int .i64 ((e : Int) + 1 + 1)) w := fun ts t w => by rw [run_min_int2, if_neg (by omega)]
          have HX := HLX.out (e + 1 + 1) (by rw [hlx, if_pos (by omega)]; omega)
          have HX' : Hid (nxI s 0 (pre ++ [x]) = e + 1 + 1) := HX
          clear hA h10 h13 hc hlx HLX HX hls
          gi_wp2
          exact ⟨((KeepsOthers.setCell _ _ _).trans (KeepsOthers.setCell _ _ _)).trans (KeepsOthers.setCell _ _ _), Eq.trans (Below.heap_setCell _ _ _ _ nb) (Eq.trans (Below.heap_setCell _ _ _ _ nb) (Below.heap_setCell _ _ _ _ nb)), by rw [HX'.out]; exact ((hN.set _).set _).set _, ((hF5.set n0 n1 nb n3 _).set n0 n1 nb n3 _).set n0 n1 nb n3 _, by rw [HX'.out]; omega⟩
        · have hlt2' : ¬ (e : Int) + 1 < (s.size : Int) := by omega
          have hmn : ∀ (ts : Array TypeId) (t : TypeId) (w : World), (Builtin.min_ ts t #[.int .i64 ((e : Int) + 1 + 1), .int .i64 (s.size : Nat)]).run Tryd.prog w = .ok (.int .i64 ((s.size : Nat))) w := fun ts t w => by rw [run_min_int2, if_pos (by omega)]
          have HX := HLX.out s.size (by rw [hlx, if_neg (by omega)]; omega)
          have HX' : Hid (nxI s 0 (pre ++ [x]) = s.size) := HX
          clear hA h10 h13 hlx HLX HX hls
          gi_wp2
          exact ⟨((KeepsOthers.setCell _ _ _).trans (KeepsOthers.setCell _ _ _)).trans (KeepsOthers.setCell _ _ _), Eq.trans (Below.heap_setCell _ _ _ _ nb) (Eq.trans (Below.heap_setCell _ _ _ _ nb) (Below.heap_setCell _ _ _ _ nb)), by rw [HX'.out]; exact ((hN.set _).set _).set _, ((hF5.set n0 n1 nb n3 _).set n0 n1 nb n3 _).set n0 n1 nb n3 _, by rw [HX'.out]; omega⟩
    · have bad : ∃ pre' x', pre ++ [x] = pre' ++ [x'] ∧ x' ≠ nxI s 0 pre' := ⟨pre, x, rfl, hx⟩
      have y0 := hN.cell
      generalize nxI s 0 pre = y at *
      have hyx : ((x : Int) != (y : Int)) = true := by simp; omega
      have HX : Hid (¬ x = y) := hx
      clear hx
      gi_wp2
      exact ⟨KeepsOthers.setCell _ _ _, bad⟩
  case done =>
    rintro E ys W6 hD hS ⟨hN, hF6, hnx⟩ hK
    rw [hS, lns_last] at hN
    clear hS hnx
    subst hAR
    have y0 := hN.cell
    have y6 := hF6.1.1.cell
    gi_wp2
    obtain ⟨W7, hW7⟩ : ∃ W7, W6.alloc (.cells #[.slice none 0 0] 53) = W7 := ⟨_, rfl⟩
    rw [hW7]
    have kP : Boxed W7 W6.heap.size 53 (.slice none 0 0) := by rw [← hW7]; exact Boxed.new _ _ _
    have g7 : W6.grownBy W7 none := by rw [← hW7]; exact World.grownBy_alloc _ _ _
    clear hW7
    have z6 := hF6.2.2
    have z7 : W6.heap.size < W7.heap.size := kP.lt
    have hK7 : W7.heap[E]? = some (.deferred (some [])) := (g7.block E (Array.getElem?_eq_some_iff.1 hK).1 (by simp)).trans hK
    have F7 : FrJ w.heap.size (w.heap.size + 1) w1.heap.size s w.heap.size w W7.heap.size W7 := ⟨hF6.1.own g7 (fun r e => by cases e), hF6.2.1.trans ((gb_below g7).mono (by omega)), Nat.le_refl _⟩
    clear y0 y6 hN
    refine wpIn_wide.2 ?_
    go_loopw [11, 12] (fun vT v wr => ∃ (k : Nat) (T : ByteArray) (X : List Nat) (P : List ByteArray) (vp : Value), k ≤ n ∧ k ≤ 100 ∧ vT = .string T ∧ v = .int .i64 k ∧ T.size ≤ 1001 * k ∧ P.length ≤ k ∧ Hid (Lnd T X P) ∧ Boxed wr W6.heap.size 53 vp ∧ wr.ownsRow W7.heap.size 9 1 vp P.length (P.map Value.string) ∧ FrJ w.heap.size (w.heap.size + 1) w1.heap.size s w.heap.size w W7.heap.size wr ∧ KeepsOthers W7 wr) (fun _ v _ => n - (intOf v).toNat)
    case atStart => exact ⟨0, ⟨#[]⟩, [], [], _, Nat.zero_le _, Nat.zero_le _, rfl, rfl, Nat.zero_le _, Nat.zero_le _, lnd_nil, kP, World.ownsRow_nil _ _ _ _, F7, KeepsOthers.refl _⟩
    case round =>
      obtain ⟨k, T, X, P, vp, hk, hk2, rfl, rfl, hT, hPl, HL, hbx, hown, hFJ, hKO⟩ := hrel
      by_cases hlt : k < n ∧ k < 100
      · have h1 : (k : Int) < (n : Int) := by omega
        have h2 : (k : Int) < 100 := by omega
        obtain ⟨b, o, hsp, x0⟩ := ho k hlt.1
        have xk := (hFJ.2.1.cell (p := ⟨b, o + k, none⟩) (cell_lt x0)).trans x0
        have hb0 : b < w.heap.size := cell_lt x0
        have hfs := hF k hlt.1
        subst hsp
        clear ho hF x0
        generalize F k = f at *
        by_cases hs1 : f.size ≤ 1000
        · have q1 : (f.size : Int) ≤ 1000 := by omega
          by_cases hs0 : f.size = 0
          · have em : f.toList.isEmpty = true := empty_yes hs0
            have HS0 : Hid (f.size = 0) := hs0
            clear hs0
            go_wp2
            go_quiet (fail)
            have gq := gb_drewN (World.grownBy.refl wr none) nq
            have xq := gq.cell xk (by simp)
            have hbq := hbx.kept gq (by simp)
            have hoq := hown.kept gq (Classical.em _)
            have hFq := hFJ.own (Nat.le_refl _) (by omega) gq (fun r e => by cases e)
            have hKq := hKO.trans (KeepsOthers.of_grownBy gq (fun _ _ e => by cases e))
            clear xk hbx hown hFJ hKO gq
            generalize wr.drewN nq = wq at *
            go_wp2
            go_loopw [13, 14] (fun vr v wr' => ∃ (j : Nat) (r : Bool), vr = .bool r ∧ v = .int .i64 j ∧ j ≤ f.size ∧ Hid (r = true → (0 < f.size → Sc.bt f (f.size - 1) ≠ 13) ∧ ∀ i, i < j → Sc.bt f i ≠ 10) ∧ Hid (r = true → f.size ≤ 1000) ∧ wr' = wq) (fun _ v _ => f.size - (intOf v).toNat)
            case atStart => exact ⟨0, true, rfl, rfl, Nat.zero_le _, fun _ => ⟨fun h => by have := HS0.out; omega, fun i hi => absurd hi (Nat.not_lt_zero _)⟩, fun _ => hs1, rfl⟩
            case round =>
              obtain ⟨j, r, rfl, rfl, hj, HR, HR2, hw⟩ := hrel
              subst hw
              cases r with
              | true =>
                have hr2 := HR2.out rfl
                by_cases hjl : j < f.size
                · have hjl' : (j : Int) < (f.size : Int) := by omega
                  have hbj := Sc.bt_at hjl
                  by_cases h10 : Sc.bt f j = 10
                  · have c10 : ((Sc.bt f j : Int) != 10) = false := by rw [h10]; rfl
                    clear h10
                    go_wp2
                    go_roundw
                    case rel => exact ⟨j + 1, false, rfl, by go_num, by omega, (fun h => by cases h), (fun h => by cases h), by first | rfl | trivial⟩
                    case measure => simp [intOf]; omega
                  · have c10 : ((Sc.bt f j : Int) != 10) = true := by simp; omega
                    have HR' : Hid (true = true → (0 < f.size → Sc.bt f (f.size - 1) ≠ 13) ∧ ∀ i, i < j + 1 → Sc.bt f i ≠ 10) := fun _ => ⟨(HR.out rfl).1, fun i hi => by
                      by_cases e : i = j
                      · rw [e]; exact h10
                      · exact (HR.out rfl).2 i (by omega)⟩
                    clear h10
                    go_wp2
                    go_roundw
                    case rel => exact ⟨j + 1, true, rfl, by go_num, by omega, HR', HR2, by first | rfl | trivial⟩
                    case measure => simp [intOf]; omega
                · have hjl' : ¬ (j : Int) < (f.size : Int) := by omega
                  have HGd : Hid (Good f) := by
                    have h3 := HR.out rfl
                    exact ⟨fun i hi => h3.2 i (by omega), h3.1⟩
                  have HL' : Hid (Lnd ((T ++ f) ++ ⟨#[10]⟩) (X ++ [T.size]) (P ++ [f])) := lnd_step HL.out HGd.out
                  have zz1 : ¬ 9223372036854775807 < T.size + f.size := by omega
                  have zz2 : ¬ 9223372036854775807 < T.size + f.size + 1 := by omega
                  obtain ⟨W8, hW8⟩ : ∃ W8, wr.alloc (.cells #[.string f] 9) = W8 := ⟨_, rfl⟩
                  have g8 : wr.grownBy W8 none := by rw [← hW8]; exact World.grownBy_alloc _ _ _
                  have hN8 : W8.heap[wr.heap.size]? = some (.cells #[.string f] 9 (0, 0)) := by rw [← hW8]; exact heap_alloc_new wr _
                  have hb8 := hbq.kept g8 (by simp)
                  have ho8' := hoq.kept g8 (Classical.em _)
                  have ho8 : W8.drew.ownsRow W7.heap.size 9 1 vp P.length (P.map Value.string) := ho8'
                  clear ho8'
                  have x8 := g8.cell xq (by simp)
                  have c8 := hb8.cell
                  have d8 := hb8.frozen
                  have cq := hbq.cell
                  have hFs := hFq.2.2
                  have q8 := g8.size
                  have hnews : ∀ j u, [Value.string f][j]? = some u → W8.drew.cell? ((⟨wr.heap.size, 0, none⟩ : Addr).add j) = some u := World.news_of_block (w := W8.drew) (cs := #[.string f]) hN8
                  have hbase : W7.heap.size ≤ W8.drew.heap.size := by show W7.heap.size ≤ W8.heap.size; omega
                  have neP : some W6.heap.size ≠ vp.ownBlock := fun e => by have := (hoq.lt W6.heap.size e.symm).1; omega
                  have ne0 : some w.heap.size ≠ vp.ownBlock := fun e => by have := (hoq.lt w.heap.size e.symm).1; omega
                  have ne1 : some (w.heap.size + 1) ≠ vp.ownBlock := fun e => by have := (hoq.lt (w.heap.size + 1) e.symm).1; omega
                  have ne2 : some w1.heap.size ≠ vp.ownBlock := fun e => by have := (hoq.lt w1.heap.size e.symm).1; omega
                  have neb : some b ≠ vp.ownBlock := fun e => by have := (hoq.lt b e.symm).1; omega
                  go_wp2
                  refine Code.wp_mono noP_le ?_
                  go_region_law (first | (refine step_append_lies _ rfl (.tmp 145) (.tmp 150) 53 rfl W7.heap.size 9 i0 (.string ⟨#[]⟩) 1 16 underStS HI.out.1 HI.out.2.1 HI.out.2.2.1 HI.out.2.2.2 rfl (by decide) _ P.length (P.map Value.string) rfl ho8 ⟨wr.heap.size, 0, none⟩ 1 1 [.string f] rfl rfl hnews (by intro u hu; simp at hu; subst hu; rfl) (by decide) (by unfold maxLen; omega) (by omega) hbase _ rfl ?_; intro g9 cap9 w9 ho9 gr9 at9 lt9; have gr9' : W8.grownBy w9 vp.ownBlock := ⟨gr9.os, gr9.tape, gr9.output, gr9.size, gr9.block⟩; have hb9 := hb8.kept gr9' neP; have c9 := hb9.cell; have d9 := hb9.frozen; have x9 := gr9'.cell x8 neb))
                  all_goals
                    refine noP_normal ?_
                    have x10 : (w9.setCell ⟨W6.heap.size, 0, none⟩ (.slice (some ⟨g9, 0, none⟩) (P.length + 1) cap9)).cell? ⟨b, o + k, none⟩ = some (.string f) := (World.cell?_of_block (Below.heap_setCell _ _ _ _ (show b ≠ W6.heap.size by omega))).trans x9
                    have hb10 := hb9.set (.slice (some ⟨g9, 0, none⟩) (P.length + 1) cap9)
                    have ho10 := own_set (x := .slice (some ⟨g9, 0, none⟩) (P.length + 1) cap9) (o := 0) ho9 (hb9.not_row (by decide) ho9)
                    have hK10 : KeepsOthers wr (w9.setCell ⟨W6.heap.size, 0, none⟩ (.slice (some ⟨g9, 0, none⟩) (P.length + 1) cap9)) := ((KeepsOthers.of_grownBy g8 (fun _ _ e => by cases e)).trans (KeepsOthers.of_grownBy gr9' (fun j o e ho => rows_cells (show W8.ownsRow W7.heap.size 9 1 vp P.length (P.map Value.string) from ho8) j o e ho))).trans (KeepsOthers.setCell _ _ _)
                    have hF10 : FrJ w.heap.size (w.heap.size + 1) w1.heap.size s w.heap.size w W7.heap.size (w9.setCell ⟨W6.heap.size, 0, none⟩ (.slice (some ⟨g9, 0, none⟩) (P.length + 1) cap9)) := FrJ.set ⟨(hFq.1.own g8 (fun r e => by cases e)).kept gr9' ne0 ne1 ne2, gb_below (gb_row (gb_trans (gb_of_below hFq.2.1) g8) gr9' (fun i e => by have := (hoq.lt i e).1; omega)), Nat.le_trans hFs (Nat.le_trans g8.size gr9'.size)⟩ (by omega) (by omega) (by omega) (by omega) _
                    have hz1 := ByteArray.size_append (a := T) (b := f)
                    have hz2 := ByteArray.size_append (a := T ++ f) (b := (⟨#[10]⟩ : ByteArray))
                    have hz9 : (⟨#[10]⟩ : ByteArray).size = 1 := rfl
                    generalize w9.setCell ⟨W6.heap.size, 0, none⟩ (.slice (some ⟨g9, 0, none⟩) (P.length + 1) cap9) = W10 at *
                    have HZ : Hid (((T ++ f) ++ (⟨#[10]⟩ : ByteArray)).size ≤ 1001 * (k + 1)) := by unfold Hid; omega
                    clear hz1 hz2 hz9 HL HR HGd x9 c9 d9 hb9 gr9 gr9' c8 d8 x8 cq at9 lt9 hnews ho8 hb8
                    go_wp2
                    go_roundw
                    case rel => exact ⟨k + 1, _, X ++ [T.size], P ++ [f], _, by omega, by omega, rfl, by go_num, HZ.out, by rw [List.length_append]; simp only [List.length_cons, List.length_nil]; omega, HL', hb10, by rw [List.length_append, List.map_append]; exact ho10, hF10, hKq.trans hK10⟩
                    case measure => simp [intOf]; omega
              | false =>
                by_cases hjl : j < f.size
                · have hjl' : (j : Int) < (f.size : Int) := by omega
                  go_wp2
                  go_roundw
                  case rel => exact ⟨k + 1, T, X, P, vp, by omega, by omega, rfl, by go_num, by omega, by omega, HL, hbq, hoq, hFq, hKq⟩
                  case measure => simp [intOf]; omega
                · have hjl' : ¬ (j : Int) < (f.size : Int) := by omega
                  go_wp2
                  go_roundw
                  case rel => exact ⟨k + 1, T, X, P, vp, by omega, by omega, rfl, by go_num, by omega, by omega, HL, hbq, hoq, hFq, hKq⟩
                  case measure => simp [intOf]; omega

          · have em : f.toList.isEmpty = false := empty_no hs0
            obtain ⟨l, hl⟩ : ∃ l, f.size = l + 1 := ⟨f.size - 1, by omega⟩
            have HLl : Hid (f.size = l + 1) := hl
            have hll : l < f.size := by omega
            have hbl := Sc.bt_at hll
            have hw1 : IntKind.i64.wrap ((f.size : Int) - 1) = (l : Int) := by rw [IntKind.wrap_i64]; omega
            have hlI : (l : Int) < (f.size : Int) := by omega
            clear hl hs0
            by_cases h13 : Sc.bt f l = 13
            · have c13 : ((Sc.bt f l : Int) != 13) = false := by rw [h13]; rfl
              clear h13
              go_wp2
              go_quiet (fail)
              have gq := gb_drewN (World.grownBy.refl wr none) nq
              have xq := gq.cell xk (by simp)
              have hbq := hbx.kept gq (by simp)
              have hoq := hown.kept gq (Classical.em _)
              have hFq := hFJ.own (Nat.le_refl _) (by omega) gq (fun r e => by cases e)
              have hKq := hKO.trans (KeepsOthers.of_grownBy gq (fun _ _ e => by cases e))
              clear xk hbx hown hFJ hKO gq
              generalize wr.drewN nq = wq at *
              go_wp2
              go_loopw [13, 14] (fun vr v wr' => ∃ (j : Nat) (r : Bool), vr = .bool r ∧ v = .int .i64 j ∧ j ≤ f.size ∧ Hid (r = true → (0 < f.size → Sc.bt f (f.size - 1) ≠ 13) ∧ ∀ i, i < j → Sc.bt f i ≠ 10) ∧ Hid (r = true → f.size ≤ 1000) ∧ wr' = wq) (fun _ v _ => f.size - (intOf v).toNat)
              case atStart => exact ⟨0, false, rfl, rfl, Nat.zero_le _, (fun h => by cases h), (fun h => by cases h), rfl⟩
              case round =>
                obtain ⟨j, r, rfl, rfl, hj, HR, HR2, hw⟩ := hrel
                subst hw
                cases r with
                | true =>
                  have hr2 := HR2.out rfl
                  by_cases hjl : j < f.size
                  · have hjl' : (j : Int) < (f.size : Int) := by omega
                    have hbj := Sc.bt_at hjl
                    by_cases h10 : Sc.bt f j = 10
                    · have c10 : ((Sc.bt f j : Int) != 10) = false := by rw [h10]; rfl
                      clear h10
                      go_wp2
                      go_roundw
                      case rel => exact ⟨j + 1, false, rfl, by go_num, by omega, (fun h => by cases h), (fun h => by cases h), by first | rfl | trivial⟩
                      case measure => simp [intOf]; omega
                    · have c10 : ((Sc.bt f j : Int) != 10) = true := by simp; omega
                      have HR' : Hid (true = true → (0 < f.size → Sc.bt f (f.size - 1) ≠ 13) ∧ ∀ i, i < j + 1 → Sc.bt f i ≠ 10) := fun _ => ⟨(HR.out rfl).1, fun i hi => by
                        by_cases e : i = j
                        · rw [e]; exact h10
                        · exact (HR.out rfl).2 i (by omega)⟩
                      clear h10
                      go_wp2
                      go_roundw
                      case rel => exact ⟨j + 1, true, rfl, by go_num, by omega, HR', HR2, by first | rfl | trivial⟩
                      case measure => simp [intOf]; omega
                  · have hjl' : ¬ (j : Int) < (f.size : Int) := by omega
                    have HGd : Hid (Good f) := by
                      have h3 := HR.out rfl
                      exact ⟨fun i hi => h3.2 i (by omega), h3.1⟩
                    have HL' : Hid (Lnd ((T ++ f) ++ ⟨#[10]⟩) (X ++ [T.size]) (P ++ [f])) := lnd_step HL.out HGd.out
                    have zz1 : ¬ 9223372036854775807 < T.size + f.size := by omega
                    have zz2 : ¬ 9223372036854775807 < T.size + f.size + 1 := by omega
                    obtain ⟨W8, hW8⟩ : ∃ W8, wr.alloc (.cells #[.string f] 9) = W8 := ⟨_, rfl⟩
                    have g8 : wr.grownBy W8 none := by rw [← hW8]; exact World.grownBy_alloc _ _ _
                    have hN8 : W8.heap[wr.heap.size]? = some (.cells #[.string f] 9 (0, 0)) := by rw [← hW8]; exact heap_alloc_new wr _
                    have hb8 := hbq.kept g8 (by simp)
                    have ho8' := hoq.kept g8 (Classical.em _)
                    have ho8 : W8.drew.ownsRow W7.heap.size 9 1 vp P.length (P.map Value.string) := ho8'
                    clear ho8'
                    have x8 := g8.cell xq (by simp)
                    have c8 := hb8.cell
                    have d8 := hb8.frozen
                    have cq := hbq.cell
                    have hFs := hFq.2.2
                    have q8 := g8.size
                    have hnews : ∀ j u, [Value.string f][j]? = some u → W8.drew.cell? ((⟨wr.heap.size, 0, none⟩ : Addr).add j) = some u := World.news_of_block (w := W8.drew) (cs := #[.string f]) hN8
                    have hbase : W7.heap.size ≤ W8.drew.heap.size := by show W7.heap.size ≤ W8.heap.size; omega
                    have neP : some W6.heap.size ≠ vp.ownBlock := fun e => by have := (hoq.lt W6.heap.size e.symm).1; omega
                    have ne0 : some w.heap.size ≠ vp.ownBlock := fun e => by have := (hoq.lt w.heap.size e.symm).1; omega
                    have ne1 : some (w.heap.size + 1) ≠ vp.ownBlock := fun e => by have := (hoq.lt (w.heap.size + 1) e.symm).1; omega
                    have ne2 : some w1.heap.size ≠ vp.ownBlock := fun e => by have := (hoq.lt w1.heap.size e.symm).1; omega
                    have neb : some b ≠ vp.ownBlock := fun e => by have := (hoq.lt b e.symm).1; omega
                    go_wp2
                    refine Code.wp_mono noP_le ?_
                    go_region_law (first | (refine step_append_lies _ rfl (.tmp 145) (.tmp 150) 53 rfl W7.heap.size 9 i0 (.string ⟨#[]⟩) 1 16 underStS HI.out.1 HI.out.2.1 HI.out.2.2.1 HI.out.2.2.2 rfl (by decide) _ P.length (P.map Value.string) rfl ho8 ⟨wr.heap.size, 0, none⟩ 1 1 [.string f] rfl rfl hnews (by intro u hu; simp at hu; subst hu; rfl) (by decide) (by unfold maxLen; omega) (by omega) hbase _ rfl ?_; intro g9 cap9 w9 ho9 gr9 at9 lt9; have gr9' : W8.grownBy w9 vp.ownBlock := ⟨gr9.os, gr9.tape, gr9.output, gr9.size, gr9.block⟩; have hb9 := hb8.kept gr9' neP; have c9 := hb9.cell; have d9 := hb9.frozen; have x9 := gr9'.cell x8 neb))
                    all_goals
                      refine noP_normal ?_
                      have x10 : (w9.setCell ⟨W6.heap.size, 0, none⟩ (.slice (some ⟨g9, 0, none⟩) (P.length + 1) cap9)).cell? ⟨b, o + k, none⟩ = some (.string f) := (World.cell?_of_block (Below.heap_setCell _ _ _ _ (show b ≠ W6.heap.size by omega))).trans x9
                      have hb10 := hb9.set (.slice (some ⟨g9, 0, none⟩) (P.length + 1) cap9)
                      have ho10 := own_set (x := .slice (some ⟨g9, 0, none⟩) (P.length + 1) cap9) (o := 0) ho9 (hb9.not_row (by decide) ho9)
                      have hK10 : KeepsOthers wr (w9.setCell ⟨W6.heap.size, 0, none⟩ (.slice (some ⟨g9, 0, none⟩) (P.length + 1) cap9)) := ((KeepsOthers.of_grownBy g8 (fun _ _ e => by cases e)).trans (KeepsOthers.of_grownBy gr9' (fun j o e ho => rows_cells (show W8.ownsRow W7.heap.size 9 1 vp P.length (P.map Value.string) from ho8) j o e ho))).trans (KeepsOthers.setCell _ _ _)
                      have hF10 : FrJ w.heap.size (w.heap.size + 1) w1.heap.size s w.heap.size w W7.heap.size (w9.setCell ⟨W6.heap.size, 0, none⟩ (.slice (some ⟨g9, 0, none⟩) (P.length + 1) cap9)) := FrJ.set ⟨(hFq.1.own g8 (fun r e => by cases e)).kept gr9' ne0 ne1 ne2, gb_below (gb_row (gb_trans (gb_of_below hFq.2.1) g8) gr9' (fun i e => by have := (hoq.lt i e).1; omega)), Nat.le_trans hFs (Nat.le_trans g8.size gr9'.size)⟩ (by omega) (by omega) (by omega) (by omega) _
                      have hz1 := ByteArray.size_append (a := T) (b := f)
                      have hz2 := ByteArray.size_append (a := T ++ f) (b := (⟨#[10]⟩ : ByteArray))
                      have hz9 : (⟨#[10]⟩ : ByteArray).size = 1 := rfl
                      generalize w9.setCell ⟨W6.heap.size, 0, none⟩ (.slice (some ⟨g9, 0, none⟩) (P.length + 1) cap9) = W10 at *
                      have HZ : Hid (((T ++ f) ++ (⟨#[10]⟩ : ByteArray)).size ≤ 1001 * (k + 1)) := by unfold Hid; omega
                      clear hz1 hz2 hz9 HL HR HGd x9 c9 d9 hb9 gr9 gr9' c8 d8 x8 cq at9 lt9 hnews ho8 hb8
                      go_wp2
                      go_roundw
                      case rel => exact ⟨k + 1, _, X ++ [T.size], P ++ [f], _, by omega, by omega, rfl, by go_num, HZ.out, by rw [List.length_append]; simp only [List.length_cons, List.length_nil]; omega, HL', hb10, by rw [List.length_append, List.map_append]; exact ho10, hF10, hKq.trans hK10⟩
                      case measure => simp [intOf]; omega
                | false =>
                  by_cases hjl : j < f.size
                  · have hjl' : (j : Int) < (f.size : Int) := by omega
                    go_wp2
                    go_roundw
                    case rel => exact ⟨k + 1, T, X, P, vp, by omega, by omega, rfl, by go_num, by omega, by omega, HL, hbq, hoq, hFq, hKq⟩
                    case measure => simp [intOf]; omega
                  · have hjl' : ¬ (j : Int) < (f.size : Int) := by omega
                    go_wp2
                    go_roundw
                    case rel => exact ⟨k + 1, T, X, P, vp, by omega, by omega, rfl, by go_num, by omega, by omega, HL, hbq, hoq, hFq, hKq⟩
                    case measure => simp [intOf]; omega

            · have c13 : ((Sc.bt f l : Int) != 13) = true := by simp; omega
              have H13 : Hid (¬ Sc.bt f l = 13) := h13
              clear h13
              go_wp2
              go_quiet (fail)
              have gq := gb_drewN (World.grownBy.refl wr none) nq
              have xq := gq.cell xk (by simp)
              have hbq := hbx.kept gq (by simp)
              have hoq := hown.kept gq (Classical.em _)
              have hFq := hFJ.own (Nat.le_refl _) (by omega) gq (fun r e => by cases e)
              have hKq := hKO.trans (KeepsOthers.of_grownBy gq (fun _ _ e => by cases e))
              clear xk hbx hown hFJ hKO gq
              generalize wr.drewN nq = wq at *
              go_wp2
              go_loopw [13, 14] (fun vr v wr' => ∃ (j : Nat) (r : Bool), vr = .bool r ∧ v = .int .i64 j ∧ j ≤ f.size ∧ Hid (r = true → (0 < f.size → Sc.bt f (f.size - 1) ≠ 13) ∧ ∀ i, i < j → Sc.bt f i ≠ 10) ∧ Hid (r = true → f.size ≤ 1000) ∧ wr' = wq) (fun _ v _ => f.size - (intOf v).toNat)
              case atStart => exact ⟨0, true, rfl, rfl, Nat.zero_le _, fun _ => ⟨fun _ => by rw [HLl.out, Nat.add_sub_cancel]; exact H13.out, fun i hi => absurd hi (Nat.not_lt_zero _)⟩, fun _ => hs1, rfl⟩
              case round =>
                obtain ⟨j, r, rfl, rfl, hj, HR, HR2, hw⟩ := hrel
                subst hw
                cases r with
                | true =>
                  have hr2 := HR2.out rfl
                  by_cases hjl : j < f.size
                  · have hjl' : (j : Int) < (f.size : Int) := by omega
                    have hbj := Sc.bt_at hjl
                    by_cases h10 : Sc.bt f j = 10
                    · have c10 : ((Sc.bt f j : Int) != 10) = false := by rw [h10]; rfl
                      clear h10
                      go_wp2
                      go_roundw
                      case rel => exact ⟨j + 1, false, rfl, by go_num, by omega, (fun h => by cases h), (fun h => by cases h), by first | rfl | trivial⟩
                      case measure => simp [intOf]; omega
                    · have c10 : ((Sc.bt f j : Int) != 10) = true := by simp; omega
                      have HR' : Hid (true = true → (0 < f.size → Sc.bt f (f.size - 1) ≠ 13) ∧ ∀ i, i < j + 1 → Sc.bt f i ≠ 10) := fun _ => ⟨(HR.out rfl).1, fun i hi => by
                        by_cases e : i = j
                        · rw [e]; exact h10
                        · exact (HR.out rfl).2 i (by omega)⟩
                      clear h10
                      go_wp2
                      go_roundw
                      case rel => exact ⟨j + 1, true, rfl, by go_num, by omega, HR', HR2, by first | rfl | trivial⟩
                      case measure => simp [intOf]; omega
                  · have hjl' : ¬ (j : Int) < (f.size : Int) := by omega
                    have HGd : Hid (Good f) := by
                      have h3 := HR.out rfl
                      exact ⟨fun i hi => h3.2 i (by omega), h3.1⟩
                    have HL' : Hid (Lnd ((T ++ f) ++ ⟨#[10]⟩) (X ++ [T.size]) (P ++ [f])) := lnd_step HL.out HGd.out
                    have zz1 : ¬ 9223372036854775807 < T.size + f.size := by omega
                    have zz2 : ¬ 9223372036854775807 < T.size + f.size + 1 := by omega
                    obtain ⟨W8, hW8⟩ : ∃ W8, wr.alloc (.cells #[.string f] 9) = W8 := ⟨_, rfl⟩
                    have g8 : wr.grownBy W8 none := by rw [← hW8]; exact World.grownBy_alloc _ _ _
                    have hN8 : W8.heap[wr.heap.size]? = some (.cells #[.string f] 9 (0, 0)) := by rw [← hW8]; exact heap_alloc_new wr _
                    have hb8 := hbq.kept g8 (by simp)
                    have ho8' := hoq.kept g8 (Classical.em _)
                    have ho8 : W8.drew.ownsRow W7.heap.size 9 1 vp P.length (P.map Value.string) := ho8'
                    clear ho8'
                    have x8 := g8.cell xq (by simp)
                    have c8 := hb8.cell
                    have d8 := hb8.frozen
                    have cq := hbq.cell
                    have hFs := hFq.2.2
                    have q8 := g8.size
                    have hnews : ∀ j u, [Value.string f][j]? = some u → W8.drew.cell? ((⟨wr.heap.size, 0, none⟩ : Addr).add j) = some u := World.news_of_block (w := W8.drew) (cs := #[.string f]) hN8
                    have hbase : W7.heap.size ≤ W8.drew.heap.size := by show W7.heap.size ≤ W8.heap.size; omega
                    have neP : some W6.heap.size ≠ vp.ownBlock := fun e => by have := (hoq.lt W6.heap.size e.symm).1; omega
                    have ne0 : some w.heap.size ≠ vp.ownBlock := fun e => by have := (hoq.lt w.heap.size e.symm).1; omega
                    have ne1 : some (w.heap.size + 1) ≠ vp.ownBlock := fun e => by have := (hoq.lt (w.heap.size + 1) e.symm).1; omega
                    have ne2 : some w1.heap.size ≠ vp.ownBlock := fun e => by have := (hoq.lt w1.heap.size e.symm).1; omega
                    have neb : some b ≠ vp.ownBlock := fun e => by have := (hoq.lt b e.symm).1; omega
                    go_wp2
                    refine Code.wp_mono noP_le ?_
                    go_region_law (first | (refine step_append_lies _ rfl (.tmp 145) (.tmp 150) 53 rfl W7.heap.size 9 i0 (.string ⟨#[]⟩) 1 16 underStS HI.out.1 HI.out.2.1 HI.out.2.2.1 HI.out.2.2.2 rfl (by decide) _ P.length (P.map Value.string) rfl ho8 ⟨wr.heap.size, 0, none⟩ 1 1 [.string f] rfl rfl hnews (by intro u hu; simp at hu; subst hu; rfl) (by decide) (by unfold maxLen; omega) (by omega) hbase _ rfl ?_; intro g9 cap9 w9 ho9 gr9 at9 lt9; have gr9' : W8.grownBy w9 vp.ownBlock := ⟨gr9.os, gr9.tape, gr9.output, gr9.size, gr9.block⟩; have hb9 := hb8.kept gr9' neP; have c9 := hb9.cell; have d9 := hb9.frozen; have x9 := gr9'.cell x8 neb))
                    all_goals
                      refine noP_normal ?_
                      have x10 : (w9.setCell ⟨W6.heap.size, 0, none⟩ (.slice (some ⟨g9, 0, none⟩) (P.length + 1) cap9)).cell? ⟨b, o + k, none⟩ = some (.string f) := (World.cell?_of_block (Below.heap_setCell _ _ _ _ (show b ≠ W6.heap.size by omega))).trans x9
                      have hb10 := hb9.set (.slice (some ⟨g9, 0, none⟩) (P.length + 1) cap9)
                      have ho10 := own_set (x := .slice (some ⟨g9, 0, none⟩) (P.length + 1) cap9) (o := 0) ho9 (hb9.not_row (by decide) ho9)
                      have hK10 : KeepsOthers wr (w9.setCell ⟨W6.heap.size, 0, none⟩ (.slice (some ⟨g9, 0, none⟩) (P.length + 1) cap9)) := ((KeepsOthers.of_grownBy g8 (fun _ _ e => by cases e)).trans (KeepsOthers.of_grownBy gr9' (fun j o e ho => rows_cells (show W8.ownsRow W7.heap.size 9 1 vp P.length (P.map Value.string) from ho8) j o e ho))).trans (KeepsOthers.setCell _ _ _)
                      have hF10 : FrJ w.heap.size (w.heap.size + 1) w1.heap.size s w.heap.size w W7.heap.size (w9.setCell ⟨W6.heap.size, 0, none⟩ (.slice (some ⟨g9, 0, none⟩) (P.length + 1) cap9)) := FrJ.set ⟨(hFq.1.own g8 (fun r e => by cases e)).kept gr9' ne0 ne1 ne2, gb_below (gb_row (gb_trans (gb_of_below hFq.2.1) g8) gr9' (fun i e => by have := (hoq.lt i e).1; omega)), Nat.le_trans hFs (Nat.le_trans g8.size gr9'.size)⟩ (by omega) (by omega) (by omega) (by omega) _
                      have hz1 := ByteArray.size_append (a := T) (b := f)
                      have hz2 := ByteArray.size_append (a := T ++ f) (b := (⟨#[10]⟩ : ByteArray))
                      have hz9 : (⟨#[10]⟩ : ByteArray).size = 1 := rfl
                      generalize w9.setCell ⟨W6.heap.size, 0, none⟩ (.slice (some ⟨g9, 0, none⟩) (P.length + 1) cap9) = W10 at *
                      have HZ : Hid (((T ++ f) ++ (⟨#[10]⟩ : ByteArray)).size ≤ 1001 * (k + 1)) := by unfold Hid; omega
                      clear hz1 hz2 hz9 HL HR HGd x9 c9 d9 hb9 gr9 gr9' c8 d8 x8 cq at9 lt9 hnews ho8 hb8
                      go_wp2
                      go_roundw
                      case rel => exact ⟨k + 1, _, X ++ [T.size], P ++ [f], _, by omega, by omega, rfl, by go_num, HZ.out, by rw [List.length_append]; simp only [List.length_cons, List.length_nil]; omega, HL', hb10, by rw [List.length_append, List.map_append]; exact ho10, hF10, hKq.trans hK10⟩
                      case measure => simp [intOf]; omega
                | false =>
                  by_cases hjl : j < f.size
                  · have hjl' : (j : Int) < (f.size : Int) := by omega
                    go_wp2
                    go_roundw
                    case rel => exact ⟨k + 1, T, X, P, vp, by omega, by omega, rfl, by go_num, by omega, by omega, HL, hbq, hoq, hFq, hKq⟩
                    case measure => simp [intOf]; omega
                  · have hjl' : ¬ (j : Int) < (f.size : Int) := by omega
                    go_wp2
                    go_roundw
                    case rel => exact ⟨k + 1, T, X, P, vp, by omega, by omega, rfl, by go_num, by omega, by omega, HL, hbq, hoq, hFq, hKq⟩
                    case measure => simp [intOf]; omega

        · have q1 : decide ((f.size : Int) ≤ 1000) = false := decide_eq_false (by omega)
          go_wp2
          go_quiet (fail)
          have gq := gb_drewN (World.grownBy.refl wr none) nq
          have xq := gq.cell xk (by simp)
          have hbq := hbx.kept gq (by simp)
          have hoq := hown.kept gq (Classical.em _)
          have hFq := hFJ.own (Nat.le_refl _) (by omega) gq (fun r e => by cases e)
          have hKq := hKO.trans (KeepsOthers.of_grownBy gq (fun _ _ e => by cases e))
          clear xk hbx hown hFJ hKO gq
          generalize wr.drewN nq = wq at *
          go_wp2
          go_loopw [13, 14] (fun vr v wr' => ∃ (j : Nat) (r : Bool), vr = .bool r ∧ v = .int .i64 j ∧ j ≤ f.size ∧ Hid (r = true → (0 < f.size → Sc.bt f (f.size - 1) ≠ 13) ∧ ∀ i, i < j → Sc.bt f i ≠ 10) ∧ Hid (r = true → f.size ≤ 1000) ∧ wr' = wq) (fun _ v _ => f.size - (intOf v).toNat)
          case atStart => exact ⟨0, false, rfl, rfl, Nat.zero_le _, (fun h => by cases h), (fun h => by cases h), rfl⟩
          case round =>
            obtain ⟨j, r, rfl, rfl, hj, HR, HR2, hw⟩ := hrel
            subst hw
            cases r with
            | true =>
              have hr2 := HR2.out rfl
              by_cases hjl : j < f.size
              · have hjl' : (j : Int) < (f.size : Int) := by omega
                have hbj := Sc.bt_at hjl
                by_cases h10 : Sc.bt f j = 10
                · have c10 : ((Sc.bt f j : Int) != 10) = false := by rw [h10]; rfl
                  clear h10
                  go_wp2
                  go_roundw
                  case rel => exact ⟨j + 1, false, rfl, by go_num, by omega, (fun h => by cases h), (fun h => by cases h), by first | rfl | trivial⟩
                  case measure => simp [intOf]; omega
                · have c10 : ((Sc.bt f j : Int) != 10) = true := by simp; omega
                  have HR' : Hid (true = true → (0 < f.size → Sc.bt f (f.size - 1) ≠ 13) ∧ ∀ i, i < j + 1 → Sc.bt f i ≠ 10) := fun _ => ⟨(HR.out rfl).1, fun i hi => by
                    by_cases e : i = j
                    · rw [e]; exact h10
                    · exact (HR.out rfl).2 i (by omega)⟩
                  clear h10
                  go_wp2
                  go_roundw
                  case rel => exact ⟨j + 1, true, rfl, by go_num, by omega, HR', HR2, by first | rfl | trivial⟩
                  case measure => simp [intOf]; omega
              · have hjl' : ¬ (j : Int) < (f.size : Int) := by omega
                have HGd : Hid (Good f) := by
                  have h3 := HR.out rfl
                  exact ⟨fun i hi => h3.2 i (by omega), h3.1⟩
                have HL' : Hid (Lnd ((T ++ f) ++ ⟨#[10]⟩) (X ++ [T.size]) (P ++ [f])) := lnd_step HL.out HGd.out
                have zz1 : ¬ 9223372036854775807 < T.size + f.size := by omega
                have zz2 : ¬ 9223372036854775807 < T.size + f.size + 1 := by omega
                obtain ⟨W8, hW8⟩ : ∃ W8, wr.alloc (.cells #[.string f] 9) = W8 := ⟨_, rfl⟩
                have g8 : wr.grownBy W8 none := by rw [← hW8]; exact World.grownBy_alloc _ _ _
                have hN8 : W8.heap[wr.heap.size]? = some (.cells #[.string f] 9 (0, 0)) := by rw [← hW8]; exact heap_alloc_new wr _
                have hb8 := hbq.kept g8 (by simp)
                have ho8' := hoq.kept g8 (Classical.em _)
                have ho8 : W8.drew.ownsRow W7.heap.size 9 1 vp P.length (P.map Value.string) := ho8'
                clear ho8'
                have x8 := g8.cell xq (by simp)
                have c8 := hb8.cell
                have d8 := hb8.frozen
                have cq := hbq.cell
                have hFs := hFq.2.2
                have q8 := g8.size
                have hnews : ∀ j u, [Value.string f][j]? = some u → W8.drew.cell? ((⟨wr.heap.size, 0, none⟩ : Addr).add j) = some u := World.news_of_block (w := W8.drew) (cs := #[.string f]) hN8
                have hbase : W7.heap.size ≤ W8.drew.heap.size := by show W7.heap.size ≤ W8.heap.size; omega
                have neP : some W6.heap.size ≠ vp.ownBlock := fun e => by have := (hoq.lt W6.heap.size e.symm).1; omega
                have ne0 : some w.heap.size ≠ vp.ownBlock := fun e => by have := (hoq.lt w.heap.size e.symm).1; omega
                have ne1 : some (w.heap.size + 1) ≠ vp.ownBlock := fun e => by have := (hoq.lt (w.heap.size + 1) e.symm).1; omega
                have ne2 : some w1.heap.size ≠ vp.ownBlock := fun e => by have := (hoq.lt w1.heap.size e.symm).1; omega
                have neb : some b ≠ vp.ownBlock := fun e => by have := (hoq.lt b e.symm).1; omega
                go_wp2
                refine Code.wp_mono noP_le ?_
                go_region_law (first | (refine step_append_lies _ rfl (.tmp 145) (.tmp 150) 53 rfl W7.heap.size 9 i0 (.string ⟨#[]⟩) 1 16 underStS HI.out.1 HI.out.2.1 HI.out.2.2.1 HI.out.2.2.2 rfl (by decide) _ P.length (P.map Value.string) rfl ho8 ⟨wr.heap.size, 0, none⟩ 1 1 [.string f] rfl rfl hnews (by intro u hu; simp at hu; subst hu; rfl) (by decide) (by unfold maxLen; omega) (by omega) hbase _ rfl ?_; intro g9 cap9 w9 ho9 gr9 at9 lt9; have gr9' : W8.grownBy w9 vp.ownBlock := ⟨gr9.os, gr9.tape, gr9.output, gr9.size, gr9.block⟩; have hb9 := hb8.kept gr9' neP; have c9 := hb9.cell; have d9 := hb9.frozen; have x9 := gr9'.cell x8 neb))
                all_goals
                  refine noP_normal ?_
                  have x10 : (w9.setCell ⟨W6.heap.size, 0, none⟩ (.slice (some ⟨g9, 0, none⟩) (P.length + 1) cap9)).cell? ⟨b, o + k, none⟩ = some (.string f) := (World.cell?_of_block (Below.heap_setCell _ _ _ _ (show b ≠ W6.heap.size by omega))).trans x9
                  have hb10 := hb9.set (.slice (some ⟨g9, 0, none⟩) (P.length + 1) cap9)
                  have ho10 := own_set (x := .slice (some ⟨g9, 0, none⟩) (P.length + 1) cap9) (o := 0) ho9 (hb9.not_row (by decide) ho9)
                  have hK10 : KeepsOthers wr (w9.setCell ⟨W6.heap.size, 0, none⟩ (.slice (some ⟨g9, 0, none⟩) (P.length + 1) cap9)) := ((KeepsOthers.of_grownBy g8 (fun _ _ e => by cases e)).trans (KeepsOthers.of_grownBy gr9' (fun j o e ho => rows_cells (show W8.ownsRow W7.heap.size 9 1 vp P.length (P.map Value.string) from ho8) j o e ho))).trans (KeepsOthers.setCell _ _ _)
                  have hF10 : FrJ w.heap.size (w.heap.size + 1) w1.heap.size s w.heap.size w W7.heap.size (w9.setCell ⟨W6.heap.size, 0, none⟩ (.slice (some ⟨g9, 0, none⟩) (P.length + 1) cap9)) := FrJ.set ⟨(hFq.1.own g8 (fun r e => by cases e)).kept gr9' ne0 ne1 ne2, gb_below (gb_row (gb_trans (gb_of_below hFq.2.1) g8) gr9' (fun i e => by have := (hoq.lt i e).1; omega)), Nat.le_trans hFs (Nat.le_trans g8.size gr9'.size)⟩ (by omega) (by omega) (by omega) (by omega) _
                  have hz1 := ByteArray.size_append (a := T) (b := f)
                  have hz2 := ByteArray.size_append (a := T ++ f) (b := (⟨#[10]⟩ : ByteArray))
                  have hz9 : (⟨#[10]⟩ : ByteArray).size = 1 := rfl
                  generalize w9.setCell ⟨W6.heap.size, 0, none⟩ (.slice (some ⟨g9, 0, none⟩) (P.length + 1) cap9) = W10 at *
                  have HZ : Hid (((T ++ f) ++ (⟨#[10]⟩ : ByteArray)).size ≤ 1001 * (k + 1)) := by unfold Hid; omega
                  clear hz1 hz2 hz9 HL HR HGd x9 c9 d9 hb9 gr9 gr9' c8 d8 x8 cq at9 lt9 hnews ho8 hb8
                  go_wp2
                  go_roundw
                  case rel => exact ⟨k + 1, _, X ++ [T.size], P ++ [f], _, by omega, by omega, rfl, by go_num, HZ.out, by rw [List.length_append]; simp only [List.length_cons, List.length_nil]; omega, HL', hb10, by rw [List.length_append, List.map_append]; exact ho10, hF10, hKq.trans hK10⟩
                  case measure => simp [intOf]; omega
            | false =>
              by_cases hjl : j < f.size
              · have hjl' : (j : Int) < (f.size : Int) := by omega
                go_wp2
                go_roundw
                case rel => exact ⟨k + 1, T, X, P, vp, by omega, by omega, rfl, by go_num, by omega, by omega, HL, hbq, hoq, hFq, hKq⟩
                case measure => simp [intOf]; omega
              · have hjl' : ¬ (j : Int) < (f.size : Int) := by omega
                go_wp2
                go_roundw
                case rel => exact ⟨k + 1, T, X, P, vp, by omega, by omega, rfl, by go_num, by omega, by omega, HL, hbq, hoq, hFq, hKq⟩
                case measure => simp [intOf]; omega

      · have hT2 : T.size ≤ 100100 := by omega
        obtain ⟨s2, c2, hvp⟩ := strs_of hown
        subst hvp
        by_cases hkn : k < n
        · have h1 : (k : Int) < (n : Int) := by omega
          have h2 : ¬ (k : Int) < 100 := by omega
          go_wp2
          gi_wp2_with (refine ⟨trivial, ?_⟩; gi_at_call 26; refine (lines_in _ T _).mono ?_; rintro e w11 ⟨rfl, hw11⟩; subst w11)
          refine with_tmps ?_
          intro AR hAR
          obtain ⟨W12, hW12⟩ : ∃ W12, (wr.alloc (.cells #[.string T] 9)).alloc (.cells #[.int .i64 0] 3) = W12 := ⟨_, rfl⟩
          rw [hW12]
          have m12 : Boxed W12 wr.heap.size 9 (.string T) := by rw [← hW12]; exact (Boxed.new _ _ _).alloc _
          have t12 : Boxed W12 (wr.heap.size + 1) 3 (.int .i64 0) := by
            rw [← hW12]
            have h := Boxed.new (wr.alloc (.cells #[.string T] 9)) 3 (.int .i64 0)
            rwa [World.size_alloc] at h
          have g12 : wr.grownBy W12 none := by rw [← hW12]; exact gb_alloc (World.grownBy_alloc _ _ _) _
          clear hW12
          have z12 : wr.heap.size + 1 < W12.heap.size := t12.lt
          have zJ := hFJ.2.2
          have hKr : wr.heap[E]? = some (.deferred (some [])) := hKO.same E _ hK7 rfl
          have hEr : E < wr.heap.size := (Array.getElem?_eq_some_iff.1 hKr).1
          have F12 : FrZ (w.heap.size + 1) W6.heap.size wr.heap.size T (.slice s2 P.length c2) W7.heap.size P.length (P.map Value.string) w.heap.size w E W12 := ⟨⟨hFJ.1.2.1.kept g12 (by simp), hbx.kept g12 (by simp), m12, hown.kept g12 (Classical.em _)⟩, hFJ.2.1.trans ((gb_below g12).mono (by omega)), (g12.block E hEr (by simp)).trans hKr⟩
          have hTm : T.size ≤ maxLen := by unfold maxLen; omega
          have hLL := lnd_len HL.out
          have HLL : Hid ((lns T).length = P.length) := hLL
          have hPP : P.length ≤ 100 := by omega
          clear hLL hFJ hbx hown hKO hKr
          refine wpIn_rangeFunc_ownF rfl (by omega) (gf := 51) (lb := #[.pointer (some ⟨wr.heap.size, 0, none⟩)]) (by subst hAR; rfl) trivial (enters_of Tryd.func51 (by kernel_rfl) rfl)
            (lines_stops 2 (by omega) wr.heap.size T hTm W12 m12.cell) Kb.trans (Kb.put (by omega)) (Below.refl _ _) (fun _ => rfl)
            (fun pre W' => Boxed W' (wr.heap.size + 1) 3 (.int .i64 (pre.length : Nat)) ∧ FrZ (w.heap.size + 1) W6.heap.size wr.heap.size T (.slice s2 P.length c2) W7.heap.size P.length (P.map Value.string) w.heap.size w E W')
            (fun c pre W' => BadZ T P pre)
            (fun p X' Y row hs hg hr => ⟨bxd_own hs.1 hg (fun r e => (hr r e).2), hs.2.own (Nat.le_refl _) (by omega) (by omega) hg hr⟩)
            (fun c p X' Y row hs hg hr => hs)
            ⟨t12, F12⟩
            (fun x => { tmps := ((AR.setIfInBounds 164 (.int .i64 (x : Nat))).setIfInBounds 165 (.string (T.extract x (le T x)))).setIfInBounds 17 (.string (T.extract x (le T x))), defers := [] }) ?assign2 ?body2 ?done2 ?stop2
          case assign2 =>
            intro l x W' K hK
            subst hAR
            gi_wp2
            exact hK
          case body2 =>
            rintro l pre x W5 ⟨hN, hF5⟩ hlen
            subst hAR
            have y0 := hN.cell
            have y1 := hN.frozen
            have y2 := hF5.1.2.1.cell
            have y4 := hF5.1.1.cell
            have y5 := hF5.1.1.frozen
            have hO := hF5.1.2.2.2
            have hw1 : IntKind.i64.wrap ((pre.length : Int) + 1) = (pre.length : Int) + 1 := by rw [IntKind.wrap_i64]; omega
            have hlw : Hid ((((pre ++ [x]).length : Nat) : Int) = (pre.length : Int) + 1) := by unfold Hid; simp
            have n1 : w.heap.size + 1 ≠ wr.heap.size + 1 := by omega
            have n2 : W6.heap.size ≠ wr.heap.size + 1 := by omega
            have nb : wr.heap.size ≠ wr.heap.size + 1 := by omega
            have n3 : w.heap.size ≤ wr.heap.size + 1 := by omega
            by_cases hpl : pre.length < P.length
            · have hge : ¬ ((P.length : Int) ≤ (pre.length : Int)) := by omega
              have hpl' : (pre.length : Int) < (P.length : Int) := by omega
              obtain ⟨gg, hs2, q0⟩ := strs_at hO pre.length hpl
              subst hs2
              by_cases hx : T.extract x (le T x) = P[pre.length]
              · rw [← hx] at q0
                clear hx hO
                generalize T.extract x (le T x) = yy at *
                gi_wp2
                exact ⟨KeepsOthers.setCell _ _ _, Below.heap_setCell _ _ _ _ nb, by rw [hlw.out]; exact hN.set _, hF5.set hN n1 n2 nb n3 _⟩
              · have bad : BadZ T P (pre ++ [x]) := ⟨pre, x, rfl, fun e => hx (by rw [List.getElem?_eq_getElem hpl] at e; exact (Option.some.inj e).symm)⟩
                have hyz : ((T.extract x (le T x)).toList == P[pre.length].toList) = false := toList_ne hx
                generalize T.extract x (le T x) = yy at *
                generalize P[pre.length] = zz at *
                clear hx hO
                gi_wp2
                exact ⟨KeepsOthers.setCell _ _ _, bad⟩
            · have hge : (P.length : Int) ≤ (pre.length : Int) := by omega
              have bad : BadZ T P (pre ++ [x]) := ⟨pre, x, rfl, fun e => hpl (List.getElem?_eq_some_iff.1 e).1⟩
              clear hO
              gi_wp2
              exact ⟨KeepsOthers.setCell _ _ _, bad⟩
          case done2 =>
            rintro E2 ys W13 hD2 hS ⟨hN, hF13⟩ hK2
            subst hAR
            have hlen : ys.length = P.length := by rw [hS]; exact HLL.out
            rw [hlen] at hN
            clear hlen hS
            have y0 := hN.cell
            have y2 := hF13.1.2.1.cell
            have y4 := hF13.1.1.cell
            have y5 := hF13.1.1.frozen
            have hbx := hF13.1.1.set (.bool true)
            have hs5 := (KeepsOthers.setCell W13 ⟨w.heap.size + 1, 0, none⟩ (.bool true)).same
            have hB5 := hF13.2.1.setCell (p := ⟨w.heap.size + 1, 0, none⟩) (by show w.heap.size ≤ w.heap.size + 1; omega) (.bool true)
            have hz5 := hB5.size
            have hE2 : E2 < W13.heap.size := (Array.getElem?_eq_some_iff.1 hK2).1
            have hM5 : Marks w.heap.size W13.heap.size [{ target := .collected E2, args := #[] }, { target := .collected E, args := #[] }] (W13.setCell ⟨w.heap.size + 1, 0, none⟩ (.bool true)) :=
              ⟨⟨E2, rfl, by omega, hE2, hs5 E2 _ hK2 rfl, fun d' hd he => by simp at hd; subst hd; simp at he; omega⟩, ⟨E, rfl, by omega, by omega, hs5 E _ hF13.2.2 rfl, fun d' hd => by cases hd⟩, trivial⟩
            clear hs5
            gi_wp2
            refine leaves_marks _ _ hM5 hz5 (fun W' hb hc => ?_)
            have hc5 : W'.cell? ⟨w.heap.size + 1, 0, none⟩ = some (.bool true) := Boxed.cell (hc _ _ rfl hbx)
            refine ⟨.bool true, ?_, rfl, hB5.trans hb⟩
            simp [results, go_sem, hc5]
          case stop2 =>
            rintro E2 c pre W13 hD2 ⟨q, hq⟩ ⟨pre', x, rfl, hbad⟩ hK2
            obtain ⟨hl, hg⟩ := List.getElem?_eq_some_iff.1 (pre_at hq)
            have hl' : pre'.length < P.length := by rw [← HLL.out]; exact hl
            have h9 := lnd_at HL.out pre'.length hl hl'
            rw [hg] at h9
            exact absurd (by rw [List.getElem?_eq_getElem hl', h9]) hbad
        · have h1 : ¬ (k : Int) < (n : Int) := by omega
          go_wp2
          gi_wp2_with (refine ⟨trivial, ?_⟩; gi_at_call 26; refine (lines_in _ T _).mono ?_; rintro e w11 ⟨rfl, hw11⟩; subst w11)
          refine with_tmps ?_
          intro AR hAR
          obtain ⟨W12, hW12⟩ : ∃ W12, (wr.alloc (.cells #[.string T] 9)).alloc (.cells #[.int .i64 0] 3) = W12 := ⟨_, rfl⟩
          rw [hW12]
          have m12 : Boxed W12 wr.heap.size 9 (.string T) := by rw [← hW12]; exact (Boxed.new _ _ _).alloc _
          have t12 : Boxed W12 (wr.heap.size + 1) 3 (.int .i64 0) := by
            rw [← hW12]
            have h := Boxed.new (wr.alloc (.cells #[.string T] 9)) 3 (.int .i64 0)
            rwa [World.size_alloc] at h
          have g12 : wr.grownBy W12 none := by rw [← hW12]; exact gb_alloc (World.grownBy_alloc _ _ _) _
          clear hW12
          have z12 : wr.heap.size + 1 < W12.heap.size := t12.lt
          have zJ := hFJ.2.2
          have hKr : wr.heap[E]? = some (.deferred (some [])) := hKO.same E _ hK7 rfl
          have hEr : E < wr.heap.size := (Array.getElem?_eq_some_iff.1 hKr).1
          have F12 : FrZ (w.heap.size + 1) W6.heap.size wr.heap.size T (.slice s2 P.length c2) W7.heap.size P.length (P.map Value.string) w.heap.size w E W12 := ⟨⟨hFJ.1.2.1.kept g12 (by simp), hbx.kept g12 (by simp), m12, hown.kept g12 (Classical.em _)⟩, hFJ.2.1.trans ((gb_below g12).mono (by omega)), (g12.block E hEr (by simp)).trans hKr⟩
          have hTm : T.size ≤ maxLen := by unfold maxLen; omega
          have hLL := lnd_len HL.out
          have HLL : Hid ((lns T).length = P.length) := hLL
          have hPP : P.length ≤ 100 := by omega
          clear hLL hFJ hbx hown hKO hKr
          refine wpIn_rangeFunc_ownF rfl (by omega) (gf := 51) (lb := #[.pointer (some ⟨wr.heap.size, 0, none⟩)]) (by subst hAR; rfl) trivial (enters_of Tryd.func51 (by kernel_rfl) rfl)
            (lines_stops 2 (by omega) wr.heap.size T hTm W12 m12.cell) Kb.trans (Kb.put (by omega)) (Below.refl _ _) (fun _ => rfl)
            (fun pre W' => Boxed W' (wr.heap.size + 1) 3 (.int .i64 (pre.length : Nat)) ∧ FrZ (w.heap.size + 1) W6.heap.size wr.heap.size T (.slice s2 P.length c2) W7.heap.size P.length (P.map Value.string) w.heap.size w E W')
            (fun c pre W' => BadZ T P pre)
            (fun p X' Y row hs hg hr => ⟨bxd_own hs.1 hg (fun r e => (hr r e).2), hs.2.own (Nat.le_refl _) (by omega) (by omega) hg hr⟩)
            (fun c p X' Y row hs hg hr => hs)
            ⟨t12, F12⟩
            (fun x => { tmps := ((AR.setIfInBounds 164 (.int .i64 (x : Nat))).setIfInBounds 165 (.string (T.extract x (le T x)))).setIfInBounds 17 (.string (T.extract x (le T x))), defers := [] }) ?assign2 ?body2 ?done2 ?stop2
          case assign2 =>
            intro l x W' K hK
            subst hAR
            gi_wp2
            exact hK
          case body2 =>
            rintro l pre x W5 ⟨hN, hF5⟩ hlen
            subst hAR
            have y0 := hN.cell
            have y1 := hN.frozen
            have y2 := hF5.1.2.1.cell
            have y4 := hF5.1.1.cell
            have y5 := hF5.1.1.frozen
            have hO := hF5.1.2.2.2
            have hw1 : IntKind.i64.wrap ((pre.length : Int) + 1) = (pre.length : Int) + 1 := by rw [IntKind.wrap_i64]; omega
            have hlw : Hid ((((pre ++ [x]).length : Nat) : Int) = (pre.length : Int) + 1) := by unfold Hid; simp
            have n1 : w.heap.size + 1 ≠ wr.heap.size + 1 := by omega
            have n2 : W6.heap.size ≠ wr.heap.size + 1 := by omega
            have nb : wr.heap.size ≠ wr.heap.size + 1 := by omega
            have n3 : w.heap.size ≤ wr.heap.size + 1 := by omega
            by_cases hpl : pre.length < P.length
            · have hge : ¬ ((P.length : Int) ≤ (pre.length : Int)) := by omega
              have hpl' : (pre.length : Int) < (P.length : Int) := by omega
              obtain ⟨gg, hs2, q0⟩ := strs_at hO pre.length hpl
              subst hs2
              by_cases hx : T.extract x (le T x) = P[pre.length]
              · rw [← hx] at q0
                clear hx hO
                generalize T.extract x (le T x) = yy at *
                gi_wp2
                exact ⟨KeepsOthers.setCell _ _ _, Below.heap_setCell _ _ _ _ nb, by rw [hlw.out]; exact hN.set _, hF5.set hN n1 n2 nb n3 _⟩
              · have bad : BadZ T P (pre ++ [x]) := ⟨pre, x, rfl, fun e => hx (by rw [List.getElem?_eq_getElem hpl] at e; exact (Option.some.inj e).symm)⟩
                have hyz : ((T.extract x (le T x)).toList == P[pre.length].toList) = false := toList_ne hx
                generalize T.extract x (le T x) = yy at *
                generalize P[pre.length] = zz at *
                clear hx hO
                gi_wp2
                exact ⟨KeepsOthers.setCell _ _ _, bad⟩
            · have hge : (P.length : Int) ≤ (pre.length : Int) := by omega
              have bad : BadZ T P (pre ++ [x]) := ⟨pre, x, rfl, fun e => hpl (List.getElem?_eq_some_iff.1 e).1⟩
              clear hO
              gi_wp2
              exact ⟨KeepsOthers.setCell _ _ _, bad⟩
          case done2 =>
            rintro E2 ys W13 hD2 hS ⟨hN, hF13⟩ hK2
            subst hAR
            have hlen : ys.length = P.length := by rw [hS]; exact HLL.out
            rw [hlen] at hN
            clear hlen hS
            have y0 := hN.cell
            have y2 := hF13.1.2.1.cell
            have y4 := hF13.1.1.cell
            have y5 := hF13.1.1.frozen
            have hbx := hF13.1.1.set (.bool true)
            have hs5 := (KeepsOthers.setCell W13 ⟨w.heap.size + 1, 0, none⟩ (.bool true)).same
            have hB5 := hF13.2.1.setCell (p := ⟨w.heap.size + 1, 0, none⟩) (by show w.heap.size ≤ w.heap.size + 1; omega) (.bool true)
            have hz5 := hB5.size
            have hE2 : E2 < W13.heap.size := (Array.getElem?_eq_some_iff.1 hK2).1
            have hM5 : Marks w.heap.size W13.heap.size [{ target := .collected E2, args := #[] }, { target := .collected E, args := #[] }] (W13.setCell ⟨w.heap.size + 1, 0, none⟩ (.bool true)) :=
              ⟨⟨E2, rfl, by omega, hE2, hs5 E2 _ hK2 rfl, fun d' hd he => by simp at hd; subst hd; simp at he; omega⟩, ⟨E, rfl, by omega, by omega, hs5 E _ hF13.2.2 rfl, fun d' hd => by cases hd⟩, trivial⟩
            clear hs5
            gi_wp2
            refine leaves_marks _ _ hM5 hz5 (fun W' hb hc => ?_)
            have hc5 : W'.cell? ⟨w.heap.size + 1, 0, none⟩ = some (.bool true) := Boxed.cell (hc _ _ rfl hbx)
            refine ⟨.bool true, ?_, rfl, hB5.trans hb⟩
            simp [results, go_sem, hc5]
          case stop2 =>
            rintro E2 c pre W13 hD2 ⟨q, hq⟩ ⟨pre', x, rfl, hbad⟩ hK2
            obtain ⟨hl, hg⟩ := List.getElem?_eq_some_iff.1 (pre_at hq)
            have hl' : pre'.length < P.length := by rw [← HLL.out]; exact hl
            have h9 := lnd_at HL.out pre'.length hl hl'
            rw [hg] at h9
            exact absurd (by rw [List.getElem?_eq_getElem hl', h9]) hbad
  case stop =>
    rintro E c pre W6 hD ⟨q, hq⟩ ⟨pre', x, rfl, hbad⟩ hK
    exact absurd (lns_pre hq).1 hbad
end Go.Proofs.YtimknahfgpafaaaDoor
