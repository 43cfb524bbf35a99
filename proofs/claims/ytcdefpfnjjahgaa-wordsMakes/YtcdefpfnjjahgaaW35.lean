/- WordsMakes: the walk. -/
import Derived.Test.YtcdefpfnjjahgaaW34
import Derived.Laws.AppendOwnNone
namespace Go.Proofs.Ytcdefpfnjjahgaa
open Go.RowKit
set_option linter.unusedVariables false
set_option linter.unusedSimpArgs false

theorem bits_news {w : World} {a : Addr} {n : Nat} {q : Nat → Bool} (h : Bd w (some a) n q) : ∀ j u, ((List.range n).map fun k => Value.bool (q k))[j]? = some u → w.cell? (a.add j) = some u := fun j u hj => by
  have hjn : j < n := by
    have := (List.getElem?_eq_some_iff.1 hj).1
    simpa using this
  rw [List.getElem?_map, List.getElem?_range hjn] at hj
  cases hj
  exact h.at hjn
theorem bits_one {n : Nat} {q : Nat → Bool} : ∀ u ∈ ((List.range n).map fun k => Value.bool (q k)), u.oneCell' = true := fun u hu => by
  obtain ⟨k, _, rfl⟩ := List.mem_map.1 hu
  rfl
theorem newB2 (w : World) : ∀ j u, [Value.bool true, .bool true][j]? = some u → (w.alloc (.cells #[.bool true, .bool true] 4)).cell? ((⟨w.heap.size, 0, none⟩ : Addr).add j) = some u := World.news_of_block (cs := #[.bool true, .bool true]) (heap_alloc_new w _)
theorem full_row {w : World} {base n g cap : Nat} {q : Nat → Bool} (h : w.ownsRow base 4 1 (.slice (some ⟨g, 0, none⟩) (n + 2) cap) (n + 2) (((List.range n).map fun k => Value.bool (q k)) ++ [.bool true, .bool true])) : ∃ F : Nat → Value, w.rowIs g 4 cap F ∧ (∀ j, j < n → F j = .bool (q j)) ∧ F n = .bool true ∧ F (n + 1) = .bool true ∧ n + 2 ≤ cap := by
  rcases h.2 with ⟨e, _⟩ | ⟨g', cap', cur, e, _, hg, hnc, _, hsz, htk⟩
  · cases e
  · injection e with e1 e2 e3
    injection e1 with e1
    injection e1 with e1
    subst e1 e3
    have hat : ∀ j u, (((List.range n).map fun k => Value.bool (q k)) ++ [.bool true, .bool true])[j]? = some u → cur.getD j undef = u := fun j u hj => by
      rw [← htk, List.getElem?_take] at hj
      split at hj
      · rw [Array.getElem?_toList] at hj
        rw [Array.getD_eq_getD_getElem?, hj]; rfl
      · cases hj
    refine ⟨fun j => cur.getD j undef, ⟨cur, hg, by omega, fun i hi => by dsimp only; rw [Array.getD_eq_getD_getElem?, Array.getElem?_eq_getElem (by omega)]; rfl⟩, fun j hj => hat j _ ?_, hat n _ ?_, hat (n + 1) _ ?_, by omega⟩
    · rw [List.getElem?_append_left (by simpa using hj), List.getElem?_map, List.getElem?_range hj]; rfl
    · rw [List.getElem?_append_right (by simp)]; simp
    · rw [List.getElem?_append_right (by simp)]; simp

theorem Bd.below {w W : World} {sp : Option Addr} {n : Nat} {q : Nat → Bool} (h : Bd w sp n q) (hb : Below w.heap.size w W) : Bd W sp n q := fun k hk => by
  obtain ⟨a, h1, h2⟩ := h k hk
  exact ⟨a, h1, (hb.cell (p := a.add k) (cell_lt h2)).trans h2⟩
theorem full_bd {W : World} {g cap n : Nat} {F : Nat → Value} {q : Nat → Bool} (h : W.rowIs g 4 cap F) (hq : ∀ j, j < n → F j = .bool (q j)) (hc : n ≤ cap) : Bd W (some ⟨g, 0, none⟩) n q := fun k hk => ⟨_, rfl, by rw [add_mid, Nat.zero_add, h.cell (i := k) (by omega), hq k hk]⟩
theorem made_fresh {w : World} {B base k : Nat} {An : Nat → Ans} {sg sw : Nat → Option Addr} {L : Nat → Prop} {sp : Option Addr} (h : Book w B base k An sg sw L) (hl : ∀ x, sp = some x → w.heap.size ≤ x.block) (hb : base ≤ w.heap.size) : ∀ x, sp = some x → base ≤ x.block ∧ ∀ i, i < k → ∀ y, sg i = some y → x.block ≠ y.block := fun x e => ⟨by have := hl x e; omega, fun i hi y e' => by have := (h.got i hi).lt e'; have := hl x e; omega⟩
theorem Bx.gb {w w' : World} {g : Nat} {t : TypeId} {x y : Value} {L : Nat → Prop} (h : Bx w g t x y) (hg : Gb L w w') (hn : ¬ L g) : Bx w' g t x y := (hg.block g h.lt hn).trans h
theorem hl_next {L : Nat → Prop} {a b : Nat} (h : ∀ j, L j → j < a) (hs : a ≤ b) : ∀ j, Lnext L a b j → j < b := fun j hj => Or.elim hj (fun h1 => Nat.lt_of_lt_of_le (h j h1) hs) (fun h1 => h1.2)
theorem hl_mono {L : Nat → Prop} {a b : Nat} (h : ∀ j, L j → j < a) (hs : a ≤ b) : ∀ j, L j → j < b := fun j hj => Nat.lt_of_lt_of_le (h j hj) hs
theorem nl_new {L : Nat → Prop} {a b : Nat} (h : ∀ j, L j → j < a) (hb : a ≤ b) : ¬ L b := fun hh => by have := h b hh; omega
theorem nl_next {L : Nat → Prop} {a b g : Nat} (h : ¬ L g) (hg : g < a) : ¬ Lnext L a b g := fun hj => Or.elim hj h (fun h1 => by omega)

theorem slice_nil {n cap : Nat} (h : n = 0) (h' : cap = 0) : Value.slice none n cap = Value.slice none 0 0 := by rw [h, h']
theorem own_nil {w : World} {base n : Nat} {q : Nat → Bool} (h : n = 0) : w.ownsRow base 4 1 (.slice none 0 0) n ((List.range n).map fun k => Value.bool (q k)) := by subst h; exact World.ownsRow_nil _ _ _ _

set_option maxRecDepth 100000 in
set_option maxHeartbeats 4000000 in
theorem makes_walk (x : Int) (n cap : Nat) (sp : Option Addr) (q : Nat → Bool) (hn : n ≤ 140737488351232) (w : World) (hb : Bd w sp n q) (h0 : sp = none → n = 0 ∧ cap = 0) :
    Calls Try.prog 4 #[.int .i64 x, .slice sp n cap] w fun e w' => e = .returned (.bool true) ∧ Below w.heap.size w w' := by
  obtain ⟨ib, hib⟩ := info_parts infoBq
  have HB : Hid (Try.prog.info? 4 = some ib ∧ ib.zero = some (.bool false) ∧ ib.size = 1 ∧ ib.bytes = 1) := hib
  clear hib
  have hRN := refNewU x
  have hNE := newU x
  have fN := fine_new x
  generalize newAns x = aN at *
  have hROb := fun w h => refOfU n cap sp q (by omega) w h
  have fO := fine_of n q
  cases sp with
  | none =>
    have HN0 : Hid (n = 0) := (h0 rfl).1
    have HC0 : Hid (cap = 0) := (h0 rfl).2
    clear h0
    have hOFf := fun cp sq w h => ofU n cp sq q (by omega) w h
    generalize ofAns n q = aO at *
    have hVN : ∀ sp w, Wd w sp aN.c aN.f → Calls Try.prog 13 #[.agg #[.int .i64 aN.N, .slice sp aN.c aN.c]] w fun e w' => e = .returned (.bool true) ∧ w.grownBy w' none := fun sp w h => by
      have := validC aN.N aN.c aN.c sp aN.f fN.lt (by have := fN.c; omega) w h
      rwa [fN.ok] at this
    have hVO : ∀ sp w, Wd w sp aO.c aO.f → Calls Try.prog 13 #[.agg #[.int .i64 aO.N, .slice sp aO.c aO.c]] w fun e w' => e = .returned (.bool true) ∧ w.grownBy w' none := fun sp w h => by
      have := validC aO.N aO.c aO.c sp aO.f fO.lt (by have := fO.c; omega) w h
      rwa [fO.ok] at this
    have hwn : IntKind.i64.wrap ((n : Int) + 1) = (n : Int) + 1 := by rw [IntKind.wrap_i64]; omega
    have hi1 : (n : Int) < (n : Int) + 1 + 1 := by omega
    have hi2 : (n : Int) + 1 < (n : Int) + 1 + 1 := by omega
    go_enter Try.func4, Try.ntmps4
    go_wp2_with (first | (go_at_call 7; refine (aliveC _).mono ?_; rintro e w1 ⟨rfl, g1⟩; have hb1 := hb.kept g1 (by simp); have z1 := g1.size) | (at_builtin; (fail_if_success (guard_hyp hown2)); refine wpList_append_own_none rfl _ _ 29 rfl w.heap.size 4 ib 1 underBq HB.out.1 _ 0 [] rfl (World.ownsRow_nil _ _ _ _) (slice_nil HN0.out HC0.out) ?_; have hown2 : w1.ownsRow w.heap.size 4 1 (.slice none 0 0) n ((List.range n).map fun k => Value.bool (q k)) := (own_nil HN0.out)) | (at_builtin; guard_hyp hown2; refine wpList_append_own _ rfl _ _ 29 rfl w.heap.size 4 ib (.bool false) 1 1 underBq HB.out.1 HB.out.2.1 HB.out.2.2.1 HB.out.2.2.2 rfl (by decide) _ _ _ rfl (hown2.alloc _) ⟨w1.heap.size, 0, none⟩ 2 2 [.bool true, .bool true] rfl rfl (newB2 _) (by intro u hu; simp at hu; subst hu; rfl) (by unfold maxLen; omega) (by omega) (by simp only [World.size_alloc]; omega) ?_; intro v3 w3 hown3 g3 hnil3; obtain ⟨b3, c3, rfl⟩ := ownsRow_succ hown3; have z3 := g3.size; rw [World.size_alloc] at z3; have G3 := gb_row (gb_alloc g1 (.cells #[.bool true, .bool true] 4)) g3 (fun i e => (hown2.lt i e).1); obtain ⟨D3, R3, dq, d0, d1, hc3⟩ := full_row hown3; have lb3 := (hown3.lt b3 rfl).1; obtain ⟨W4, hW4⟩ : ∃ W4, w3.alloc (.cells #[.slice none 0 0, .slice none 0 0, .bool false] 34) = W4 := ⟨_, rfl⟩; have bk4 := Book.new w3 w.heap.size (fun _ => noAns 0) (fun _ => none) (fun _ => none) (L0 w3.heap.size) rfl (by omega); rw [hW4] at bk4; have g4 : w3.grownBy W4 none := (by rw [← hW4]; exact World.grownBy_alloc _ _ _); have R4 := rowIs_kept R3 g4 (by simp); have z4 := g4.size; have zB : w3.heap.size < W4.heap.size := bk4.lt; have BL4 : Below w.heap.size w W4 := (gb_below (gb_trans G3 g4)); have HL4 : ∀ j, L0 w3.heap.size j → j < W4.heap.size := (fun j h => by have h' : j = w3.heap.size := h; omega); have Z4 : w.heap.size ≤ W4.heap.size := (by omega)) | (go_at_call 10; guard_hyp W4; (fail_if_success (guard_hyp V5)); refine (hRN W4).mono ?_; rintro e y5 ⟨s5, rfl, r50, l5, g5⟩; obtain ⟨V5, hV5, p5, q5, sz5, gv5, B5want⟩ := box2 y5 (.int .i64 aN.N) (.slice s5 aN.c aN.c) 25; have e5 := gb_trans g5 gv5; have r5want := r50.kept gv5; clear p5 q5; have frwant := made_fresh bk4 l5 Z4; have bk5 := bk4.kept e5; have R5 := rowIs_kept R4 e5 (by simp); have BL5 := BL4.trans ((gb_below e5).mono Z4); have Z5 : w.heap.size ≤ V5.heap.size := Nat.le_trans Z4 e5.size; have HL5 := hl_mono HL4 e5.size; have nL5want := nl_new HL4 g5.size) | (go_at_call 8; guard_hyp V5; (fail_if_success (guard_hyp V6)); refine (hNE V5).mono ?_; rintro e y6 ⟨s6, rfl, r60, l6, g6⟩; obtain ⟨V6, hV6, p6, q6, sz6, gv6, B6r⟩ := box2 y6 (.int .i64 aN.N) (.slice s6 aN.c aN.c) 25; have e6 := gb_trans g6 gv6; have r6r := r60.kept gv6; clear p6 q6; have frr := made_fresh bk5 l6 Z5; have bk6 := bk5.kept e6; have R6 := rowIs_kept R5 e6 (by simp); have BL6 := BL5.trans ((gb_below e6).mono Z5); have Z6 : w.heap.size ≤ V6.heap.size := Nat.le_trans Z5 e6.size; have HL6 := hl_mono HL5 e6.size; have B6want := B5want.kept e6 (by simp); have r6want := r5want.kept e6; have nL6r := nl_new HL5 g6.size; have nL6want := nL5want; have x6r0 := B6r.cell0; have x6r1 := B6r.cell1; have x6want0 := B6want.cell0; have x6want1 := B6want.cell1) | (go_at_call 11; guard_hyp V6; (fail_if_success (guard_hyp V7)); refine (bookAdds w3.heap.size w.heap.size _ _ _ _ (by decide) aN fN.c s6 s5 _ V6 bk6 r6r r6want frr).mono ?_; rintro e V7 ⟨rfl, bk7, nr7, bl7, gb7⟩; have R7 := nr7.row R6 (by decide) (by decide); have BL7 := BL6.trans bl7; have Z7 : w.heap.size ≤ V7.heap.size := Nat.le_trans Z6 nr7.size; have HL7 := hl_next HL6 nr7.size; have B7want := B6want.gb gb7 nL6want; have r7want := r6want.nr nr7; have nL7want := nl_next (b := V7.heap.size) nL6want B6want.lt; have B7r := B6r.gb gb7 nL6r; have r7r := r6r.nr nr7; have nL7r := nl_next (b := V7.heap.size) nL6r B6r.lt) | (go_at_call 8; guard_hyp V7; (fail_if_success (guard_hyp V8)); refine (hNE V7).mono ?_; rintro e y8 ⟨s8, rfl, r80, l8, g8⟩; obtain ⟨V8, hV8, p8, q8, sz8, gv8, B8s⟩ := box2 y8 (.int .i64 aN.N) (.slice s8 aN.c aN.c) 25; have e8 := gb_trans g8 gv8; have r8s := r80.kept gv8; clear p8 q8; have frs := made_fresh bk7 l8 Z7; have bk8 := bk7.kept e8; have R8 := rowIs_kept R7 e8 (by simp); have BL8 := BL7.trans ((gb_below e8).mono Z7); have Z8 : w.heap.size ≤ V8.heap.size := Nat.le_trans Z7 e8.size; have HL8 := hl_mono HL7 e8.size; have B8want := B7want.kept e8 (by simp); have r8want := r7want.kept e8; have B8r := B7r.kept e8 (by simp); have r8r := r7r.kept e8; have nL8s := nl_new HL7 g8.size; have nL8want := nL7want; have nL8r := nL7r; have x8s0 := B8s.cell0; have x8s1 := B8s.cell1; have x8want0 := B8want.cell0; have x8want1 := B8want.cell1) | (go_at_call 11; guard_hyp V8; (fail_if_success (guard_hyp V9)); refine (bookAdds w3.heap.size w.heap.size _ _ _ _ (by decide) aN fN.c s8 s5 _ V8 bk8 r8s r8want frs).mono ?_; rintro e V9 ⟨rfl, bk9, nr9, bl9, gb9⟩; have R9 := nr9.row R8 (by decide) (by decide); have BL9 := BL8.trans bl9; have Z9 : w.heap.size ≤ V9.heap.size := Nat.le_trans Z8 nr9.size; have HL9 := hl_next HL8 nr9.size; have B9r := B8r.gb gb9 nL8r; have r9r := r8r.nr nr9; have nL9r := nl_next (b := V9.heap.size) nL8r B8r.lt) | (go_at_call 12; guard_hyp V9; (fail_if_success (guard_hyp V10)); refine (hROb V9 (Bd.below hb BL9)).mono ?_; rintro e y10 ⟨s10, rfl, r100, l10, g10⟩; obtain ⟨V10, hV10, p10, q10, sz10, gv10, B10of⟩ := box2 y10 (.int .i64 aO.N) (.slice s10 aO.c aO.c) 25; have e10 := gb_trans g10 gv10; have r10of := r100.kept gv10; clear p10 q10; have frof := made_fresh bk9 l10 Z9; have bk10 := bk9.kept e10; have R10 := rowIs_kept R9 e10 (by simp); have BL10 := BL9.trans ((gb_below e10).mono Z9); have Z10 : w.heap.size ≤ V10.heap.size := Nat.le_trans Z9 e10.size; have HL10 := hl_mono HL9 e10.size; have B10r := B9r.kept e10 (by simp); have r10r := r9r.kept e10; have nL10of := nl_new HL9 g10.size; have nL10r := nL9r) | (go_at_call 9; guard_hyp V10; (fail_if_success (guard_hyp V11)); refine (hOFf _ _ V10 (full_bd R10 dq (by omega))).mono ?_; rintro e y11 ⟨s11, rfl, r110, l11, g11⟩; obtain ⟨V11, hV11, p11, q11, sz11, gv11, B11t⟩ := box2 y11 (.int .i64 aO.N) (.slice s11 aO.c aO.c) 25; have e11 := gb_trans g11 gv11; have r11t := r110.kept gv11; clear p11 q11; have frt := made_fresh bk10 l11 Z10; have bk11 := bk10.kept e11; have R11 := rowIs_kept R10 e11 (by simp); have BL11 := BL10.trans ((gb_below e11).mono Z10); have Z11 : w.heap.size ≤ V11.heap.size := Nat.le_trans Z10 e11.size; have HL11 := hl_mono HL10 e11.size; have B11r := B10r.kept e11 (by simp); have r11r := r10r.kept e11; have B11of := B10of.kept e11 (by simp); have r11of := r10of.kept e11; have nL11t := nl_new HL10 g11.size; have nL11r := nL10r; have nL11of := nL10of; have x11t0 := B11t.cell0; have x11t1 := B11t.cell1; have x11of0 := B11of.cell0; have x11of1 := B11of.cell1) | (go_at_call 11; guard_hyp V11; (fail_if_success (guard_hyp V12)); refine (bookAdds w3.heap.size w.heap.size _ _ _ _ (by decide) aO fO.c s11 s10 _ V11 bk11 r11t r11of frt).mono ?_; rintro e V12 ⟨rfl, bk12, nr12, bl12, gb12⟩; have R12 := nr12.row R11 (by decide) (by decide); have BL12 := BL11.trans bl12; have Z12 : w.heap.size ≤ V12.heap.size := Nat.le_trans Z11 nr12.size; have HL12 := hl_next HL11 nr12.size; have B12r := B11r.gb gb12 nL11r; have r12r := r11r.nr nr12; have nL12r := nl_next (b := V12.heap.size) nL11r B11r.lt; have B12of := B11of.gb gb12 nL11of; have r12of := r11of.nr nr12; have nL12of := nl_next (b := V12.heap.size) nL11of B11of.lt; have B12t := B11t.gb gb12 nL11t; have r12t := r11t.nr nr12; have nL12t := nl_next (b := V12.heap.size) nL11t B11t.lt) | (go_at_call 9; guard_hyp V12; (fail_if_success (guard_hyp V13)); refine (hOFf _ _ V12 (full_bd R12 dq (by omega))).mono ?_; rintro e y13 ⟨s13, rfl, r130, l13, g13⟩; obtain ⟨V13, hV13, p13, q13, sz13, gv13, B13u⟩ := box2 y13 (.int .i64 aO.N) (.slice s13 aO.c aO.c) 25; have e13 := gb_trans g13 gv13; have r13u := r130.kept gv13; clear p13 q13; have fru := made_fresh bk12 l13 Z12; have bk13 := bk12.kept e13; have R13 := rowIs_kept R12 e13 (by simp); have BL13 := BL12.trans ((gb_below e13).mono Z12); have Z13 : w.heap.size ≤ V13.heap.size := Nat.le_trans Z12 e13.size; have HL13 := hl_mono HL12 e13.size; have B13r := B12r.kept e13 (by simp); have r13r := r12r.kept e13; have B13of := B12of.kept e13 (by simp); have r13of := r12of.kept e13; have B13t := B12t.kept e13 (by simp); have r13t := r12t.kept e13; have nL13u := nl_new HL12 g13.size; have nL13r := nL12r; have nL13of := nL12of; have nL13t := nL12t; have x13u0 := B13u.cell0; have x13u1 := B13u.cell1; have x13of0 := B13of.cell0; have x13of1 := B13of.cell1) | (go_at_call 11; guard_hyp V13; (fail_if_success (guard_hyp V14)); refine (bookAdds w3.heap.size w.heap.size _ _ _ _ (by decide) aO fO.c s13 s10 _ V13 bk13 r13u r13of fru).mono ?_; rintro e V14 ⟨rfl, bk14, nr14, bl14, gb14⟩; have R14 := nr14.row R13 (by decide) (by decide); have BL14 := BL13.trans bl14; have Z14 : w.heap.size ≤ V14.heap.size := Nat.le_trans Z13 nr14.size; have HL14 := hl_next HL13 nr14.size; have B14r := B13r.gb gb14 nL13r; have r14r := r13r.nr nr14; have nL14r := nl_next (b := V14.heap.size) nL13r B13r.lt; have B14t := B13t.gb gb14 nL13t; have r14t := r13t.nr nr14; have nL14t := nl_next (b := V14.heap.size) nL13t B13t.lt; have x14r0 := B14r.cell0; have x14r1 := B14r.cell1; have x14t0 := B14t.cell0; have x14t1 := B14t.cell1; have f0 := R14.cell (i := n) (by omega); rw [d0] at f0; have f1 := R14.cell (i := n + 1) (by omega); rw [d1] at f1) | (go_at_call 13; guard_hyp V14; (fail_if_success (guard_hyp V15)); refine (hVN _ _ r14r.wd).mono ?_; rintro e V15 ⟨rfl, g15⟩; have bk15 := bk14.kept g15; have R15 := rowIs_kept R14 g15 (by simp); have BL15 := BL14.trans ((gb_below g15).mono Z14); have Z15 : w.heap.size ≤ V15.heap.size := Nat.le_trans Z14 g15.size; have HL15 := hl_mono HL14 g15.size; have B15t := B14t.kept g15 (by simp); have r15t := r14t.kept g15; have x15t0 := B15t.cell0; have x15t1 := B15t.cell1) | (go_at_call 13; guard_hyp V15; refine (hVO _ _ r15t.wd).mono ?_; rintro e V16 ⟨rfl, g16⟩; have bk16 := bk15.kept g16; have R16 := rowIs_kept R15 g16 (by simp); have BL16 := BL15.trans ((gb_below g16).mono Z15); have Z16 : w.heap.size ≤ V16.heap.size := Nat.le_trans Z15 g16.size; have HL16 := hl_mono HL15 g16.size))
    obtain ⟨An, sg, sw, L, bkx, HLx⟩ : ∃ An sg sw L, Book V16 w3.heap.size w.heap.size 4 An sg sw L ∧ ∀ j, L j → j < V16.heap.size := ⟨_, _, _, _, bk16, HL16⟩
    have R16' : ∃ F, V16.rowIs b3 4 c3 F ∧ Hid (∀ j, j < n → F j = .bool (if j < 0 then !q j else q j)) := ⟨_, R16, fun j hj => by rw [if_neg (Nat.not_lt_zero _)]; exact dq j hj⟩
    clear bk16 HL16 R16
    go_loopw [17] (fun v wr => ∃ k : Nat, k ≤ n ∧ v = .int .i64 k ∧ (∃ F, wr.rowIs b3 4 c3 F ∧ Hid (∀ j, j < n → F j = .bool (if j < k then !q j else q j))) ∧ Book wr w3.heap.size w.heap.size 4 An sg sw L ∧ Below w.heap.size w wr ∧ w.heap.size ≤ wr.heap.size ∧ V16.heap.size ≤ wr.heap.size) (fun v _ => n - (intOf v).toNat)
    case atStart => exact ⟨0, Nat.zero_le _, rfl, R16', bkx, BL16, Z16, Nat.le_refl _⟩
    case round =>
      obtain ⟨k, hk, rfl, ⟨F, hR, HF⟩, hbk, hBL, hZ, hZ2⟩ := hrel
      by_cases hlt : k < n
      · exact absurd hlt (by have := HN0.out; omega)
      · have hlt' : ¬ (k : Int) < (n : Int) := by omega
        have hfb : Bd wr (some ⟨b3, 0, none⟩) n (fun j => !q j) := full_bd hR (fun j hj => by rw [HF.out j hj, if_pos (by omega)]) (by omega)
        have hRF := fun cp w h => refOfU n cp (some ⟨b3, 0, none⟩) (fun j => !q j) (by omega) w h
        have hOF := fun cp w h => ofU n cp (some ⟨b3, 0, none⟩) (fun j => !q j) (by omega) w h
        have fF := fine_of n (fun j => !q j)
        generalize ofAns n (fun j => !q j) = aF at *
        go_wp2_with (first
          | (go_at_call 12; refine (hRF _ wr hfb).mono ?_; rintro e y1 ⟨s1, rfl, r1, l1, g1⟩; obtain ⟨U1, hU1, p1, q1, sz1, gv1, C1⟩ := box2 y1 (.int .i64 aF.N) (.slice s1 aF.c aF.c) 25; have e1 := gb_trans g1 gv1; have r1' := r1.kept gv1; have hb1 := hfb.kept e1 (by simp); have k1 := hbk.kept e1)
          | (go_at_call 9; refine (hOF _ U1 hb1).mono ?_; rintro e y2 ⟨s2, rfl, r2, l2, g2⟩; obtain ⟨U2, hU2, p2, q2, sz2, gv2, C2⟩ := box2 y2 (.int .i64 aF.N) (.slice s2 aF.c aF.c) 25; have e2 := gb_trans g2 gv2; have r2' := r2.kept gv2; have fr2 := made_fresh k1 l2 (Nat.le_trans hZ e1.size); have k2 := k1.kept e2; have C12 := C1.kept e2 (by simp); have r12 := r1'.kept e2; have v0 := C12.cell0; have v1 := C12.cell1; have v2 := C2.cell0; have v3 := C2.cell1)
          | (go_at_call 11; refine (bookAdds w3.heap.size w.heap.size _ _ _ _ (by decide) aF fF.c s2 s1 _ U2 k2 r2' r12 fr2).mono ?_; rintro e U3 ⟨rfl, k3, nr3, bl3, gb3⟩)
          | (go_at_call 14; refine (bookStands w3.heap.size w.heap.size _ _ _ _ _ (by decide) (by decide) U3 k3).mono ?_; rintro e U4 ⟨rfl, bl4⟩))
        go_ret
        exact ⟨rfl, hBL.trans (((gb_below (gb_trans e1 e2)).mono hZ).trans (bl3.trans bl4))⟩
  | some a =>
    clear h0
    have hOFf := fun cp sq w h => ofU n cp sq q (by omega) w h
    generalize ofAns n q = aO at *
    have hVN : ∀ sp w, Wd w sp aN.c aN.f → Calls Try.prog 13 #[.agg #[.int .i64 aN.N, .slice sp aN.c aN.c]] w fun e w' => e = .returned (.bool true) ∧ w.grownBy w' none := fun sp w h => by
      have := validC aN.N aN.c aN.c sp aN.f fN.lt (by have := fN.c; omega) w h
      rwa [fN.ok] at this
    have hVO : ∀ sp w, Wd w sp aO.c aO.f → Calls Try.prog 13 #[.agg #[.int .i64 aO.N, .slice sp aO.c aO.c]] w fun e w' => e = .returned (.bool true) ∧ w.grownBy w' none := fun sp w h => by
      have := validC aO.N aO.c aO.c sp aO.f fO.lt (by have := fO.c; omega) w h
      rwa [fO.ok] at this
    have hwn : IntKind.i64.wrap ((n : Int) + 1) = (n : Int) + 1 := by rw [IntKind.wrap_i64]; omega
    have hi1 : (n : Int) < (n : Int) + 1 + 1 := by omega
    have hi2 : (n : Int) + 1 < (n : Int) + 1 + 1 := by omega
    go_enter Try.func4, Try.ntmps4
    go_wp2_with (first | (go_at_call 7; refine (aliveC _).mono ?_; rintro e w1 ⟨rfl, g1⟩; have hb1 := hb.kept g1 (by simp); have z1 := g1.size) | (at_builtin; (fail_if_success (guard_hyp g2)); refine wpList_append_own _ rfl _ _ 29 rfl w.heap.size 4 ib (.bool false) 1 1 underBq HB.out.1 HB.out.2.1 HB.out.2.2.1 HB.out.2.2.2 rfl (by decide) _ 0 [] rfl (World.ownsRow_nil _ _ _ _) a n cap ((List.range n).map fun k => Value.bool (q k)) rfl (by simp) (bits_news hb1) bits_one (by unfold maxLen; omega) (by omega) (by omega) ?_; intro v2 w2 hown2 g2 hnil2; have z2 := g2.size; rw [Nat.zero_add, List.nil_append] at hown2) | (at_builtin; guard_hyp g2; refine wpList_append_own _ rfl _ _ 29 rfl w.heap.size 4 ib (.bool false) 1 1 underBq HB.out.1 HB.out.2.1 HB.out.2.2.1 HB.out.2.2.2 rfl (by decide) _ _ _ rfl (hown2.alloc _) ⟨w2.heap.size, 0, none⟩ 2 2 [.bool true, .bool true] rfl rfl (newB2 _) (by intro u hu; simp at hu; subst hu; rfl) (by unfold maxLen; omega) (by omega) (by simp only [World.size_alloc]; omega) ?_; intro v3 w3 hown3 g3 hnil3; obtain ⟨b3, c3, rfl⟩ := ownsRow_succ hown3; have z3 := g3.size; rw [World.size_alloc] at z3; have G3 := gb_row (gb_alloc (gb_row g1 g2 (fun i e => by cases e)) (.cells #[.bool true, .bool true] 4)) g3 (fun i e => (hown2.lt i e).1); obtain ⟨D3, R3, dq, d0, d1, hc3⟩ := full_row hown3; have lb3 := (hown3.lt b3 rfl).1; obtain ⟨W4, hW4⟩ : ∃ W4, w3.alloc (.cells #[.slice none 0 0, .slice none 0 0, .bool false] 34) = W4 := ⟨_, rfl⟩; have bk4 := Book.new w3 w.heap.size (fun _ => noAns 0) (fun _ => none) (fun _ => none) (L0 w3.heap.size) rfl (by omega); rw [hW4] at bk4; have g4 : w3.grownBy W4 none := (by rw [← hW4]; exact World.grownBy_alloc _ _ _); have R4 := rowIs_kept R3 g4 (by simp); have z4 := g4.size; have zB : w3.heap.size < W4.heap.size := bk4.lt; have BL4 : Below w.heap.size w W4 := (gb_below (gb_trans G3 g4)); have HL4 : ∀ j, L0 w3.heap.size j → j < W4.heap.size := (fun j h => by have h' : j = w3.heap.size := h; omega); have Z4 : w.heap.size ≤ W4.heap.size := (by omega)) | (go_at_call 10; guard_hyp W4; (fail_if_success (guard_hyp V5)); refine (hRN W4).mono ?_; rintro e y5 ⟨s5, rfl, r50, l5, g5⟩; obtain ⟨V5, hV5, p5, q5, sz5, gv5, B5want⟩ := box2 y5 (.int .i64 aN.N) (.slice s5 aN.c aN.c) 25; have e5 := gb_trans g5 gv5; have r5want := r50.kept gv5; clear p5 q5; have frwant := made_fresh bk4 l5 Z4; have bk5 := bk4.kept e5; have R5 := rowIs_kept R4 e5 (by simp); have BL5 := BL4.trans ((gb_below e5).mono Z4); have Z5 : w.heap.size ≤ V5.heap.size := Nat.le_trans Z4 e5.size; have HL5 := hl_mono HL4 e5.size; have nL5want := nl_new HL4 g5.size) | (go_at_call 8; guard_hyp V5; (fail_if_success (guard_hyp V6)); refine (hNE V5).mono ?_; rintro e y6 ⟨s6, rfl, r60, l6, g6⟩; obtain ⟨V6, hV6, p6, q6, sz6, gv6, B6r⟩ := box2 y6 (.int .i64 aN.N) (.slice s6 aN.c aN.c) 25; have e6 := gb_trans g6 gv6; have r6r := r60.kept gv6; clear p6 q6; have frr := made_fresh bk5 l6 Z5; have bk6 := bk5.kept e6; have R6 := rowIs_kept R5 e6 (by simp); have BL6 := BL5.trans ((gb_below e6).mono Z5); have Z6 : w.heap.size ≤ V6.heap.size := Nat.le_trans Z5 e6.size; have HL6 := hl_mono HL5 e6.size; have B6want := B5want.kept e6 (by simp); have r6want := r5want.kept e6; have nL6r := nl_new HL5 g6.size; have nL6want := nL5want; have x6r0 := B6r.cell0; have x6r1 := B6r.cell1; have x6want0 := B6want.cell0; have x6want1 := B6want.cell1) | (go_at_call 11; guard_hyp V6; (fail_if_success (guard_hyp V7)); refine (bookAdds w3.heap.size w.heap.size _ _ _ _ (by decide) aN fN.c s6 s5 _ V6 bk6 r6r r6want frr).mono ?_; rintro e V7 ⟨rfl, bk7, nr7, bl7, gb7⟩; have R7 := nr7.row R6 (by decide) (by decide); have BL7 := BL6.trans bl7; have Z7 : w.heap.size ≤ V7.heap.size := Nat.le_trans Z6 nr7.size; have HL7 := hl_next HL6 nr7.size; have B7want := B6want.gb gb7 nL6want; have r7want := r6want.nr nr7; have nL7want := nl_next (b := V7.heap.size) nL6want B6want.lt; have B7r := B6r.gb gb7 nL6r; have r7r := r6r.nr nr7; have nL7r := nl_next (b := V7.heap.size) nL6r B6r.lt) | (go_at_call 8; guard_hyp V7; (fail_if_success (guard_hyp V8)); refine (hNE V7).mono ?_; rintro e y8 ⟨s8, rfl, r80, l8, g8⟩; obtain ⟨V8, hV8, p8, q8, sz8, gv8, B8s⟩ := box2 y8 (.int .i64 aN.N) (.slice s8 aN.c aN.c) 25; have e8 := gb_trans g8 gv8; have r8s := r80.kept gv8; clear p8 q8; have frs := made_fresh bk7 l8 Z7; have bk8 := bk7.kept e8; have R8 := rowIs_kept R7 e8 (by simp); have BL8 := BL7.trans ((gb_below e8).mono Z7); have Z8 : w.heap.size ≤ V8.heap.size := Nat.le_trans Z7 e8.size; have HL8 := hl_mono HL7 e8.size; have B8want := B7want.kept e8 (by simp); have r8want := r7want.kept e8; have B8r := B7r.kept e8 (by simp); have r8r := r7r.kept e8; have nL8s := nl_new HL7 g8.size; have nL8want := nL7want; have nL8r := nL7r; have x8s0 := B8s.cell0; have x8s1 := B8s.cell1; have x8want0 := B8want.cell0; have x8want1 := B8want.cell1) | (go_at_call 11; guard_hyp V8; (fail_if_success (guard_hyp V9)); refine (bookAdds w3.heap.size w.heap.size _ _ _ _ (by decide) aN fN.c s8 s5 _ V8 bk8 r8s r8want frs).mono ?_; rintro e V9 ⟨rfl, bk9, nr9, bl9, gb9⟩; have R9 := nr9.row R8 (by decide) (by decide); have BL9 := BL8.trans bl9; have Z9 : w.heap.size ≤ V9.heap.size := Nat.le_trans Z8 nr9.size; have HL9 := hl_next HL8 nr9.size; have B9r := B8r.gb gb9 nL8r; have r9r := r8r.nr nr9; have nL9r := nl_next (b := V9.heap.size) nL8r B8r.lt) | (go_at_call 12; guard_hyp V9; (fail_if_success (guard_hyp V10)); refine (hROb V9 (Bd.below hb BL9)).mono ?_; rintro e y10 ⟨s10, rfl, r100, l10, g10⟩; obtain ⟨V10, hV10, p10, q10, sz10, gv10, B10of⟩ := box2 y10 (.int .i64 aO.N) (.slice s10 aO.c aO.c) 25; have e10 := gb_trans g10 gv10; have r10of := r100.kept gv10; clear p10 q10; have frof := made_fresh bk9 l10 Z9; have bk10 := bk9.kept e10; have R10 := rowIs_kept R9 e10 (by simp); have BL10 := BL9.trans ((gb_below e10).mono Z9); have Z10 : w.heap.size ≤ V10.heap.size := Nat.le_trans Z9 e10.size; have HL10 := hl_mono HL9 e10.size; have B10r := B9r.kept e10 (by simp); have r10r := r9r.kept e10; have nL10of := nl_new HL9 g10.size; have nL10r := nL9r) | (go_at_call 9; guard_hyp V10; (fail_if_success (guard_hyp V11)); refine (hOFf _ _ V10 (full_bd R10 dq (by omega))).mono ?_; rintro e y11 ⟨s11, rfl, r110, l11, g11⟩; obtain ⟨V11, hV11, p11, q11, sz11, gv11, B11t⟩ := box2 y11 (.int .i64 aO.N) (.slice s11 aO.c aO.c) 25; have e11 := gb_trans g11 gv11; have r11t := r110.kept gv11; clear p11 q11; have frt := made_fresh bk10 l11 Z10; have bk11 := bk10.kept e11; have R11 := rowIs_kept R10 e11 (by simp); have BL11 := BL10.trans ((gb_below e11).mono Z10); have Z11 : w.heap.size ≤ V11.heap.size := Nat.le_trans Z10 e11.size; have HL11 := hl_mono HL10 e11.size; have B11r := B10r.kept e11 (by simp); have r11r := r10r.kept e11; have B11of := B10of.kept e11 (by simp); have r11of := r10of.kept e11; have nL11t := nl_new HL10 g11.size; have nL11r := nL10r; have nL11of := nL10of; have x11t0 := B11t.cell0; have x11t1 := B11t.cell1; have x11of0 := B11of.cell0; have x11of1 := B11of.cell1) | (go_at_call 11; guard_hyp V11; (fail_if_success (guard_hyp V12)); refine (bookAdds w3.heap.size w.heap.size _ _ _ _ (by decide) aO fO.c s11 s10 _ V11 bk11 r11t r11of frt).mono ?_; rintro e V12 ⟨rfl, bk12, nr12, bl12, gb12⟩; have R12 := nr12.row R11 (by decide) (by decide); have BL12 := BL11.trans bl12; have Z12 : w.heap.size ≤ V12.heap.size := Nat.le_trans Z11 nr12.size; have HL12 := hl_next HL11 nr12.size; have B12r := B11r.gb gb12 nL11r; have r12r := r11r.nr nr12; have nL12r := nl_next (b := V12.heap.size) nL11r B11r.lt; have B12of := B11of.gb gb12 nL11of; have r12of := r11of.nr nr12; have nL12of := nl_next (b := V12.heap.size) nL11of B11of.lt; have B12t := B11t.gb gb12 nL11t; have r12t := r11t.nr nr12; have nL12t := nl_next (b := V12.heap.size) nL11t B11t.lt) | (go_at_call 9; guard_hyp V12; (fail_if_success (guard_hyp V13)); refine (hOFf _ _ V12 (full_bd R12 dq (by omega))).mono ?_; rintro e y13 ⟨s13, rfl, r130, l13, g13⟩; obtain ⟨V13, hV13, p13, q13, sz13, gv13, B13u⟩ := box2 y13 (.int .i64 aO.N) (.slice s13 aO.c aO.c) 25; have e13 := gb_trans g13 gv13; have r13u := r130.kept gv13; clear p13 q13; have fru := made_fresh bk12 l13 Z12; have bk13 := bk12.kept e13; have R13 := rowIs_kept R12 e13 (by simp); have BL13 := BL12.trans ((gb_below e13).mono Z12); have Z13 : w.heap.size ≤ V13.heap.size := Nat.le_trans Z12 e13.size; have HL13 := hl_mono HL12 e13.size; have B13r := B12r.kept e13 (by simp); have r13r := r12r.kept e13; have B13of := B12of.kept e13 (by simp); have r13of := r12of.kept e13; have B13t := B12t.kept e13 (by simp); have r13t := r12t.kept e13; have nL13u := nl_new HL12 g13.size; have nL13r := nL12r; have nL13of := nL12of; have nL13t := nL12t; have x13u0 := B13u.cell0; have x13u1 := B13u.cell1; have x13of0 := B13of.cell0; have x13of1 := B13of.cell1) | (go_at_call 11; guard_hyp V13; (fail_if_success (guard_hyp V14)); refine (bookAdds w3.heap.size w.heap.size _ _ _ _ (by decide) aO fO.c s13 s10 _ V13 bk13 r13u r13of fru).mono ?_; rintro e V14 ⟨rfl, bk14, nr14, bl14, gb14⟩; have R14 := nr14.row R13 (by decide) (by decide); have BL14 := BL13.trans bl14; have Z14 : w.heap.size ≤ V14.heap.size := Nat.le_trans Z13 nr14.size; have HL14 := hl_next HL13 nr14.size; have B14r := B13r.gb gb14 nL13r; have r14r := r13r.nr nr14; have nL14r := nl_next (b := V14.heap.size) nL13r B13r.lt; have B14t := B13t.gb gb14 nL13t; have r14t := r13t.nr nr14; have nL14t := nl_next (b := V14.heap.size) nL13t B13t.lt; have x14r0 := B14r.cell0; have x14r1 := B14r.cell1; have x14t0 := B14t.cell0; have x14t1 := B14t.cell1; have f0 := R14.cell (i := n) (by omega); rw [d0] at f0; have f1 := R14.cell (i := n + 1) (by omega); rw [d1] at f1) | (go_at_call 13; guard_hyp V14; (fail_if_success (guard_hyp V15)); refine (hVN _ _ r14r.wd).mono ?_; rintro e V15 ⟨rfl, g15⟩; have bk15 := bk14.kept g15; have R15 := rowIs_kept R14 g15 (by simp); have BL15 := BL14.trans ((gb_below g15).mono Z14); have Z15 : w.heap.size ≤ V15.heap.size := Nat.le_trans Z14 g15.size; have HL15 := hl_mono HL14 g15.size; have B15t := B14t.kept g15 (by simp); have r15t := r14t.kept g15; have x15t0 := B15t.cell0; have x15t1 := B15t.cell1) | (go_at_call 13; guard_hyp V15; refine (hVO _ _ r15t.wd).mono ?_; rintro e V16 ⟨rfl, g16⟩; have bk16 := bk15.kept g16; have R16 := rowIs_kept R15 g16 (by simp); have BL16 := BL15.trans ((gb_below g16).mono Z15); have Z16 : w.heap.size ≤ V16.heap.size := Nat.le_trans Z15 g16.size; have HL16 := hl_mono HL15 g16.size))
    obtain ⟨An, sg, sw, L, bkx, HLx⟩ : ∃ An sg sw L, Book V16 w3.heap.size w.heap.size 4 An sg sw L ∧ ∀ j, L j → j < V16.heap.size := ⟨_, _, _, _, bk16, HL16⟩
    have R16' : ∃ F, V16.rowIs b3 4 c3 F ∧ Hid (∀ j, j < n → F j = .bool (if j < 0 then !q j else q j)) := ⟨_, R16, fun j hj => by rw [if_neg (Nat.not_lt_zero _)]; exact dq j hj⟩
    clear bk16 HL16 R16
    go_loopw [17] (fun v wr => ∃ k : Nat, k ≤ n ∧ v = .int .i64 k ∧ (∃ F, wr.rowIs b3 4 c3 F ∧ Hid (∀ j, j < n → F j = .bool (if j < k then !q j else q j))) ∧ Book wr w3.heap.size w.heap.size 4 An sg sw L ∧ Below w.heap.size w wr ∧ w.heap.size ≤ wr.heap.size ∧ V16.heap.size ≤ wr.heap.size) (fun v _ => n - (intOf v).toNat)
    case atStart => exact ⟨0, Nat.zero_le _, rfl, R16', bkx, BL16, Z16, Nat.le_refl _⟩
    case round =>
      obtain ⟨k, hk, rfl, ⟨F, hR, HF⟩, hbk, hBL, hZ, hZ2⟩ := hrel
      by_cases hlt : k < n
      · have hlt' : (k : Int) < (n : Int) := by omega
        have hlt2 : (k : Int) < (n : Int) + 1 + 1 := by omega
        have u0 := hR.cell (i := k) (by omega)
        rw [HF.out k hlt, if_neg (Nat.lt_irrefl _)] at u0
        have u2 := (Bd.below hb hBL).at hlt
        have hqq : (q k != q k) = false := by simp
        go_wp2
        go_quiet (fail)
        have gq := gb_drewN (World.grownBy.refl wr none) nq
        have hR := rowIs_kept hR gq (by simp)
        have hbk := hbk.kept gq
        have hBL := hBL.trans ((gb_below gq).mono hZ)
        have hZ : w.heap.size ≤ (wr.drewN nq).heap.size := Nat.le_trans hZ gq.size
        have hZ2 : V16.heap.size ≤ (wr.drewN nq).heap.size := Nat.le_trans hZ2 gq.size
        clear gq u0 u2
        generalize wr.drewN nq = wq at *
        have u0 := hR.cell (i := k) (by omega)
        rw [HF.out k hlt, if_neg (Nat.lt_irrefl _)] at u0
        have u1 := hR.frozen k
        have R' := World.rowIs.set hR k (.bool (!q k))
        have hbk' := hbk.other (o := k) hR (by decide) (by decide) (by decide) (.bool (!q k))
        have hBL' := hBL.setCell (p := ⟨b3, k, none⟩) (by show w.heap.size ≤ b3; omega) (.bool (!q k))
        have hZ' : w.heap.size ≤ (wq.setCell ⟨b3, k, none⟩ (.bool (!q k))).heap.size := by simpa [World.setCell] using hZ
        have hZ2' : V16.heap.size ≤ (wq.setCell ⟨b3, k, none⟩ (.bool (!q k))).heap.size := by simpa [World.setCell] using hZ2
        have HF' : Hid (∀ j, j < n → (fun j => if j = k then Value.bool (!q k) else F j) j = .bool (if j < k + 1 then !q j else q j)) := fun j hj => by
          dsimp only
          by_cases e : j = k
          · rw [if_pos e, if_pos (by omega), e]
          · rw [if_neg e, HF.out j hj]
            by_cases e2 : j < k
            · rw [if_pos e2, if_pos (by omega)]
            · rw [if_neg e2, if_neg (by omega)]
        go_wp2
        refine ⟨⟨k + 1, by omega, by go_num, ⟨_, R', HF'⟩, hbk', hBL', hZ', hZ2'⟩, ?_⟩
        simp [intOf]; omega
      · have hlt' : ¬ (k : Int) < (n : Int) := by omega
        have hfb : Bd wr (some ⟨b3, 0, none⟩) n (fun j => !q j) := full_bd hR (fun j hj => by rw [HF.out j hj, if_pos (by omega)]) (by omega)
        have hRF := fun cp w h => refOfU n cp (some ⟨b3, 0, none⟩) (fun j => !q j) (by omega) w h
        have hOF := fun cp w h => ofU n cp (some ⟨b3, 0, none⟩) (fun j => !q j) (by omega) w h
        have fF := fine_of n (fun j => !q j)
        generalize ofAns n (fun j => !q j) = aF at *
        go_wp2_with (first
          | (go_at_call 12; refine (hRF _ wr hfb).mono ?_; rintro e y1 ⟨s1, rfl, r1, l1, g1⟩; obtain ⟨U1, hU1, p1, q1, sz1, gv1, C1⟩ := box2 y1 (.int .i64 aF.N) (.slice s1 aF.c aF.c) 25; have e1 := gb_trans g1 gv1; have r1' := r1.kept gv1; have hb1 := hfb.kept e1 (by simp); have k1 := hbk.kept e1)
          | (go_at_call 9; refine (hOF _ U1 hb1).mono ?_; rintro e y2 ⟨s2, rfl, r2, l2, g2⟩; obtain ⟨U2, hU2, p2, q2, sz2, gv2, C2⟩ := box2 y2 (.int .i64 aF.N) (.slice s2 aF.c aF.c) 25; have e2 := gb_trans g2 gv2; have r2' := r2.kept gv2; have fr2 := made_fresh k1 l2 (Nat.le_trans hZ e1.size); have k2 := k1.kept e2; have C12 := C1.kept e2 (by simp); have r12 := r1'.kept e2; have v0 := C12.cell0; have v1 := C12.cell1; have v2 := C2.cell0; have v3 := C2.cell1)
          | (go_at_call 11; refine (bookAdds w3.heap.size w.heap.size _ _ _ _ (by decide) aF fF.c s2 s1 _ U2 k2 r2' r12 fr2).mono ?_; rintro e U3 ⟨rfl, k3, nr3, bl3, gb3⟩)
          | (go_at_call 14; refine (bookStands w3.heap.size w.heap.size _ _ _ _ _ (by decide) (by decide) U3 k3).mono ?_; rintro e U4 ⟨rfl, bl4⟩))
        go_ret
        exact ⟨rfl, hBL.trans (((gb_below (gb_trans e1 e2)).mono hZ).trans (bl3.trans bl4))⟩
end Go.Proofs.Ytcdefpfnjjahgaa
