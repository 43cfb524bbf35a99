/- joins of the law: three answers of two rows go into the book. -/
import Derived.Test.YtcdefpfnjjahgaaW37
import Derived.Test.YtcdefpfnjjahgaaW44
import Derived.Test.YtcdefpfnjjahgaaW42
namespace Go.Proofs.Ytcdefpfnjjahgaa
open Go.RowKit
set_option linter.unusedVariables false
set_option linter.unusedSimpArgs false

/-- Of what kind a block is. -/
def Ty (w : World) (g t : Nat) : Prop := ∃ cs z, w.heap[g]? = some (.cells cs t z)
theorem Ty.set {w : World} {g t : Nat} (h : Ty w g t) (o : Nat) (v : Value) : Ty (w.setCell ⟨g, o, none⟩ v) g t := by
  obtain ⟨cs, z, h⟩ := h
  exact ⟨cs.setIfInBounds o v, z, by simp [World.setCell, Array.getElem?_modify, h]⟩
theorem Bx.ty {w : World} {g t : Nat} {x y : Value} (h : Bx w g t x y) : Ty w g t := ⟨_, _, h⟩
theorem Book.box {w : World} {B base k g o : Nat} {An : Nat → Ans} {sg sw : Nat → Option Addr} {L : Nat → Prop} (h : Book w B base k An sg sw L) (ht : Ty w g 25) (hn : ¬ L g) (x : Value) : Book (w.setCell ⟨g, o, none⟩ x) B base k An sg sw L := by
  obtain ⟨cs, z, hc⟩ := ht
  obtain ⟨vg, vw, xg, xw, kL, k1, k2, k3, k4, k5, k6⟩ := h.mem
  have nB : B ≠ g := fun e => hn (kL g (.inl e.symm))
  have nG : ∀ {sp : Option Addr} {c : Nat} {f : Nat → Nat}, Gr w sp c f → Gr (w.setCell ⟨g, o, none⟩ x) sp c f := fun hh => hh.imp id (fun ⟨b, e1, e2⟩ => ⟨b, e1, World.rowIs.setOther e2 (a := ⟨g, o, none⟩) (fun e => by
    obtain ⟨c', hc', _⟩ := e2
    have e' : b = g := e
    rw [e', hc] at hc'
    simp at hc') x⟩)
  exact ⟨⟨vg, vw, xg, xw, kL, (Below.heap_setCell _ _ _ _ nB).trans k1, own_set k2 (fun e => hn (kL g (.inr (.inl e.symm)))), own_set k3 (fun e => hn (kL g (.inr (.inr e.symm)))), k4, k5, k6⟩, fun i hi => nG (h.got i hi), fun i hi => nG (h.want i hi), h.apart, h.low, h.wlow, h.base, h.len⟩
theorem Gr.box {w : World} {g o c : Nat} {sp : Option Addr} {f : Nat → Nat} (h : Gr w sp c f) (ht : Ty w g 25) (x : Value) : Gr (w.setCell ⟨g, o, none⟩ x) sp c f := by
  obtain ⟨cs, z, hc⟩ := ht
  exact h.imp id (fun ⟨b, e1, e2⟩ => ⟨b, e1, World.rowIs.setOther e2 (a := ⟨g, o, none⟩) (fun e => by
    obtain ⟨c', hc', _⟩ := e2
    have e' : b = g := e
    rw [e', hc] at hc'
    simp at hc') x⟩)
/-- What a part of the law leaves that puts answers into the book. -/
structure Jn (base : Nat) (L L' : Nat → Prop) (w w' : World) : Prop where
  nr : Nr w w'
  bl : Below base w w'
  gb : Gb L w w'
  hl : ∀ j, L' j → j < w'.heap.size
  sub : ∀ j, L' j → L j ∨ w.heap.size ≤ j
theorem Jn.refl {base : Nat} {L : Nat → Prop} {w : World} (hl : ∀ j, L j → j < w.heap.size) : Jn base L L w w := ⟨⟨rfl, rfl, rfl, Nat.le_refl _, fun _ _ _ => rfl⟩, Below.refl _ _, ⟨rfl, rfl, rfl, Nat.le_refl _, fun _ _ _ => rfl⟩, hl, fun j h => .inl h⟩
theorem Jn.size {base : Nat} {L L' : Nat → Prop} {w w' : World} (h : Jn base L L' w w') : w.heap.size ≤ w'.heap.size := h.nr.size
theorem Jn.grow {base : Nat} {L L' : Nat → Prop} {w V V' : World} (h : Jn base L L' w V) (hb : base ≤ w.heap.size) (g : V.grownBy V' none) : Jn base L L' w V' :=
  ⟨⟨g.os.trans h.nr.os, g.tape.trans h.nr.tape, g.output.trans h.nr.output, Nat.le_trans h.size g.size, fun k hk hn => (g.block k (Nat.lt_of_lt_of_le hk h.size) (by simp)).trans (h.nr.block k hk hn)⟩,
   h.bl.grown g (Nat.le_trans hb h.size) (fun k e => by cases e),
   ⟨g.os.trans h.gb.os, g.tape.trans h.gb.tape, g.output.trans h.gb.output, Nat.le_trans h.size g.size, fun k hk hn => (g.block k (Nat.lt_of_lt_of_le hk h.size) (by simp)).trans (h.gb.block k hk hn)⟩,
   fun j hj => Nat.lt_of_lt_of_le (h.hl j hj) g.size, h.sub⟩
theorem Jn.then {base : Nat} {L L1 L2 : Nat → Prop} {w V V' : World} (h : Jn base L L1 w V) (k : Jn base L1 L2 V V') : Jn base L L2 w V' :=
  ⟨⟨k.nr.os.trans h.nr.os, k.nr.tape.trans h.nr.tape, k.nr.output.trans h.nr.output, Nat.le_trans h.size k.size, fun j hj hn => by
      have e := h.nr.block j hj hn
      exact (k.nr.block j (Nat.lt_of_lt_of_le hj h.size) (fun cs t z hh => hn cs t z (e ▸ hh))).trans e⟩,
   h.bl.trans k.bl,
   ⟨k.gb.os.trans h.gb.os, k.gb.tape.trans h.gb.tape, k.gb.output.trans h.gb.output, Nat.le_trans h.size k.size, fun j hj hn => (k.gb.block j (Nat.lt_of_lt_of_le hj h.size) (fun h1 => by
      rcases h.sub j h1 with h2 | h2
      · exact hn h2
      · omega)).trans (h.gb.block j hj hn)⟩,
   k.hl, fun j hj => by
      rcases k.sub j hj with h1 | h1
      · exact h.sub j h1
      · exact .inr (Nat.le_trans h.size h1)⟩
theorem Jn.adds {base : Nat} {L L1 : Nat → Prop} {w V V' : World} (h : Jn base L L1 w V) (k1 : Nr V V') (k2 : Below base V V') (k3 : Gb L1 V V') : Jn base L (Lnext L1 V.heap.size V'.heap.size) w V' :=
  h.then ⟨k1, k2, k3, hl_next h.hl k1.size, fun j hj => hj.imp id (fun h => h.1)⟩
theorem Jn.set {base g : Nat} {L L1 : Nat → Prop} {w V : World} (h : Jn base L L1 w V) (hb : base ≤ w.heap.size) (hg : w.heap.size ≤ g) (o : Nat) (v : Value) : Jn base L L1 w (V.setCell ⟨g, o, none⟩ v) := by
  have hs : (V.setCell ⟨g, o, none⟩ v).heap.size = V.heap.size := by simp [World.setCell]
  have hh : ∀ k, k < w.heap.size → (V.setCell ⟨g, o, none⟩ v).heap[k]? = V.heap[k]? := fun k hk => Below.heap_setCell _ _ _ _ (by show k ≠ g; omega)
  exact ⟨⟨h.nr.os, h.nr.tape, h.nr.output, by rw [hs]; exact h.size, fun k hk hn => (hh k hk).trans (h.nr.block k hk hn)⟩, h.bl.setCell (by show base ≤ g; omega) v,
    ⟨h.nr.os, h.nr.tape, h.nr.output, by rw [hs]; exact h.size, fun k hk hn => (hh k hk).trans (h.gb.block k hk hn)⟩, fun j hj => by rw [hs]; exact h.hl j hj, h.sub⟩
/-- Words that can be read, and that stay while the book grows. -/
def Kw (base : Nat) (w : World) (sp : Option Addr) (n : Nat) (f : Nat → Nat) : Prop := ∀ k, k < n → ∃ a, sp = some a ∧ w.cell? (a.add k) = some (.int .u64 (f k)) ∧ ((a.add k).block < base ∨ Ty w (a.add k).block 55)
theorem Kw.wd {base : Nat} {w : World} {sp : Option Addr} {n : Nat} {f : Nat → Nat} (h : Kw base w sp n f) : Wd w sp n f := fun k hk => by
  obtain ⟨a, h1, h2, _⟩ := h k hk
  exact ⟨a, h1, h2⟩
theorem Kw.jn {base : Nat} {L L' : Nat → Prop} {w V : World} {sp : Option Addr} {n : Nat} {f : Nat → Nat} (h : Kw base w sp n f) (j : Jn base L L' w V) : Kw base V sp n f := fun k hk => by
  obtain ⟨a, h1, h2, h3⟩ := h k hk
  have hl := cell_lt h2
  have e : V.heap[(a.add k).block]? = w.heap[(a.add k).block]? := by
    rcases h3 with h3 | ⟨cs, z, h3⟩
    · exact j.bl.block _ h3
    · exact j.nr.block _ hl (fun cs' t z' e' => by
        rw [h3] at e'
        simp only [Option.some.injEq, Obj.cells.injEq] at e'
        obtain ⟨_, rfl, _⟩ := e'
        exact ⟨by decide, by decide⟩)
  refine ⟨a, h1, (World.cell?_of_block (w := w) e).trans h2, h3.imp id (fun ⟨cs, z, h⟩ => ⟨cs, z, e.trans h⟩)⟩
theorem Kw.low {base : Nat} {w : World} {sp : Option Addr} {n : Nat} {f : Nat → Nat} (h : Wd w sp n f) (hb : w.heap.size ≤ base) : Kw base w sp n f := fun k hk => by
  obtain ⟨a, h1, h2⟩ := h k hk
  exact ⟨a, h1, h2, .inl (Nat.lt_of_lt_of_le (cell_lt h2) hb)⟩
theorem Kw.below {base b0 : Nat} {w W : World} {sp : Option Addr} {n : Nat} {f : Nat → Nat} (h : Wd w sp n f) (hb : w.heap.size ≤ base) (hw : Below w.heap.size w W) : Kw base W sp n f := fun k hk => by
  obtain ⟨a, h1, h2⟩ := h k hk
  have hl := cell_lt h2
  exact ⟨a, h1, (hw.cell (p := a.add k) hl).trans h2, .inl (Nat.lt_of_lt_of_le hl hb)⟩
theorem Lent.kw {base : Nat} {w : World} {b n c : Nat} {f : Nat → Nat} (h : Lent w b n c f) : Kw base w (some ⟨b, 0, none⟩) n f := fun k hk => by
  obtain ⟨a, h1, h2⟩ := h.wd k hk
  obtain ⟨F, ⟨cur, h3, _⟩, _⟩ := h.row
  cases h1
  refine ⟨_, rfl, h2, .inr ⟨cur, (0, 0), ?_⟩⟩
  rw [add_mid]
  exact h3
theorem nl_jn {base g : Nat} {L L' : Nat → Prop} {w V : World} (j : Jn base L L' w V) (h : ¬ L g) (hg : g < w.heap.size) : ¬ L' g := fun hh => by
  rcases j.sub g hh with h1 | h1
  · exact h h1
  · omega

set_option maxRecDepth 100000 in
set_option maxHeartbeats 4000000 in
theorem joinsC (B base k : Nat) (An : Nat → Ans) (sg sw : Nat → Option Addr) (L : Nat → Prop) (hk : k + 3 ≤ 1000) (N N' : Int) (n n' cx cy cr cs : Nat) (sx sy sr ss : Option Addr) (f f' : Nat → Nat) (hf : ∀ k, k < n → f k < 18446744073709551616) (hf' : ∀ k, k < n' → f' k < 18446744073709551616) (hn : n ≤ 9223372036854775807) (hn' : n' ≤ 9223372036854775807)
    (w : World) (bk : Book w B base k An sg sw L) (hbase : base ≤ w.heap.size) (hl : ∀ j, L j → j < w.heap.size) (kx : Kw base w sx n f) (ky : Kw base w sy n' f') (kr : Kw base w sr n f) (ks : Kw base w ss n' f') :
    Calls Try.prog 23 #[.pointer (some ⟨B, 0, none⟩), .agg #[.int .i64 N, .slice sx n cx], .agg #[.int .i64 N', .slice sy n' cy], .agg #[.int .i64 N, .slice sr n cr], .agg #[.int .i64 N', .slice ss n' cs]] w fun e w' => (∃ v, e = .returned v) ∧ ∃ An' sg' sw' L', Book w' B base (k + 3) An' sg' sw' L' ∧ Jn base L L' w w' := by
  have hR1 := fun w h h' => refJoin1U N N' n n' cr cs sr ss f f' hf hf' hn hn' w h h'
  have hR2 := fun w h h' => refJoin2U N N' n n' cr cs sr ss f f' hf hf' hn hn' w h h'
  have hR3 := fun w h h' => refJoin3U N N' n n' cr cs sr ss f f' hf hf' hn hn' w h h'
  have hP1 := fun w h h' => andJU N N' n n' cx cy sx sy f f' hf hf' hn hn' w h h'
  have hP2 := fun w h h' => orJU N N' n n' cx cy sx sy f f' hf hf' hn hn' w h h'
  have hP3 := fun w h h' => xorJU N N' n n' cx cy sx sy f f' hf hf' hn hn' w h h'
  have f1 := join_c (op := (fun a b => a && b)) (N := N) (N' := N') (n' := n') (f' := f') hf
  have f2 := join_c (op := (fun a b => a || b)) (N := N) (N' := N') (n' := n') (f' := f') hf
  have f3 := join_c (op := (fun a b => Bool.xor a b)) (N := N) (N' := N') (n' := n') (f' := f') hf
  generalize joinAns (fun a b => a && b) N n f N' n' f' = a1 at *
  generalize joinAns (fun a b => a || b) N n f N' n' f' = a2 at *
  generalize joinAns (fun a b => Bool.xor a b) N n f N' n' f' = a3 at *
  obtain ⟨U1, hU1, c0, c1, sz1, g1, B1x⟩ := box2 w (.int .i64 N) (.slice sx n cx) 25
  obtain ⟨U2, hU2, d0, d1, sz2, g2, B2y⟩ := box2 U1 (.int .i64 N') (.slice sy n' cy) 25
  obtain ⟨U3, hU3, e0, e1, sz3, g3, B3r⟩ := box2 U2 (.int .i64 N) (.slice sr n cr) 25
  obtain ⟨U4, hU4, i0, i1, sz4, g4, B4s⟩ := box2 U3 (.int .i64 N') (.slice ss n' cs) 25
  have g34 := gb_trans g3 g4
  have g24 := gb_trans g2 g34
  have g14 := gb_trans g1 g24
  have B4x := B1x.kept g24 (by simp)
  have B4y := B2y.kept g34 (by simp)
  have B4r := B3r.kept g4 (by simp)
  have bk4 := bk.kept g14
  have J4 := (Jn.refl (base := base) hl).grow hbase g14
  have Z4 := Nat.le_trans hbase J4.size
  have nL4x : ¬ L w.heap.size := nl_new hl (Nat.le_refl _)
  have nL4y : ¬ L U1.heap.size := nl_new hl g1.size
  have nL4r : ¬ L U2.heap.size := nl_new hl (gb_trans g1 g2).size
  have nL4s : ¬ L U3.heap.size := nl_new hl (gb_trans g1 (gb_trans g2 g3)).size
  have Kx : Hid (Kw base w sx n f) := kx
  have Ky : Hid (Kw base w sy n' f') := ky
  have Kr : Hid (Kw base w sr n f) := kr
  have Ks : Hid (Kw base w ss n' f') := ks
  clear kx ky kr ks c0 c1 d0 d1 e0 e1 i0 i1
  have x4x0 := B4x.cell0
  have x4x1 := B4x.cell1
  have x4y0 := B4y.cell0
  have x4y1 := B4y.cell1
  have x4r0 := B4r.cell0
  have x4r1 := B4r.cell1
  have x4s0 := B4s.cell0
  have x4s1 := B4s.cell1
  go_enter Try.func23, Try.ntmps23
  go_wp2_with (first | (go_at_call 41; guard_hyp Z4; (fail_if_success (guard_hyp Z5)); refine (hR1 _ (Kr.out.jn J4).wd (Ks.out.jn J4).wd).mono ?_; rintro e y5 ⟨s5, rfl, r50, l5, g5⟩; obtain ⟨V5, hV5, p5, q5, sz5, gv5, B5want⟩ := box2 y5 (.int .i64 a1.N) (.slice s5 a1.c a1.c) 25; have e5 := gb_trans g5 gv5; have ne_x_want := Nat.ne_of_lt (Nat.lt_of_lt_of_le B4x.lt g5.size); have ne_y_want := Nat.ne_of_lt (Nat.lt_of_lt_of_le B4y.lt g5.size); have ne_r_want := Nat.ne_of_lt (Nat.lt_of_lt_of_le B4r.lt g5.size); have ne_s_want := Nat.ne_of_lt (Nat.lt_of_lt_of_le B4s.lt g5.size); have r5want := r50.kept gv5; clear p5 q5; have frwant := made_fresh bk4 l5 Z4; have nL5want := nl_new J4.hl g5.size; have bk5 := bk4.kept e5; have J5 := J4.grow hbase e5; have Z5 := Nat.le_trans hbase J5.size; have B5x := B4x.kept e5 (by simp); have nL5x := nL4x; have B5y := B4y.kept e5 (by simp); have nL5y := nL4y; have B5r := B4r.kept e5 (by simp); have nL5r := nL4r; have B5s := B4s.kept e5 (by simp); have nL5s := nL4s; have lwwant : w.heap.size ≤ y5.heap.size := Nat.le_trans J4.size g5.size; have x5x0 := B5x.cell0; have x5x1 := B5x.cell1; have x5y0 := B5y.cell0; have x5y1 := B5y.cell1; have x5r0 := B5r.cell0; have x5r1 := B5r.cell1; have x5s0 := B5s.cell0; have x5s1 := B5s.cell1; have x5want0 := B5want.cell0; have x5want1 := B5want.cell1; clear x4x0 x4x1 x4y0 x4y1 x4r0 x4r1 x4s0 x4s1) | (go_at_call 42; guard_hyp Z5; (fail_if_success (guard_hyp Z6)); refine (hP1 _ (Kx.out.jn J5).wd (Ky.out.jn J5).wd).mono ?_; rintro e y6 ⟨s6, rfl, r60, l6, g6⟩; obtain ⟨V6, hV6, p6, q6, sz6, gv6, B6a⟩ := box2 y6 (.int .i64 a1.N) (.slice s6 a1.c a1.c) 25; have e6 := gb_trans g6 gv6; have r6a := r60.kept gv6; clear p6 q6; have fra := made_fresh bk5 l6 Z5; have nL6a := nl_new J5.hl g6.size; have bk6 := bk5.kept e6; have J6 := J5.grow hbase e6; have Z6 := Nat.le_trans hbase J6.size; have B6x := B5x.kept e6 (by simp); have nL6x := nL5x; have B6y := B5y.kept e6 (by simp); have nL6y := nL5y; have B6r := B5r.kept e6 (by simp); have nL6r := nL5r; have B6s := B5s.kept e6 (by simp); have nL6s := nL5s; have B6want := B5want.kept e6 (by simp); have nL6want := nL5want; have r6want := r5want.kept e6; have lwa : w.heap.size ≤ y6.heap.size := Nat.le_trans J5.size g6.size; have x6x0 := B6x.cell0; have x6x1 := B6x.cell1; have x6y0 := B6y.cell0; have x6y1 := B6y.cell1; have x6r0 := B6r.cell0; have x6r1 := B6r.cell1; have x6s0 := B6s.cell0; have x6s1 := B6s.cell1; have x6want0 := B6want.cell0; have x6want1 := B6want.cell1; have x6a0 := B6a.cell0; have x6a1 := B6a.cell1; clear x5x0 x5x1 x5y0 x5y1 x5r0 x5r1 x5s0 x5s1 x5want0 x5want1) | (go_at_call 11; guard_hyp Z6; (fail_if_success (guard_hyp Z7)); refine (bookAdds B base _ _ _ _ (by omega) a1 f1 s6 s5 _ V6 bk6 r6a r6want fra (fun x e => (frwant x e).1)).mono ?_; rintro e V7 ⟨rfl, bk7, nr7, bl7, gb7⟩; have J7 := J6.adds nr7 bl7 gb7; have Z7 := Nat.le_trans hbase J7.size; have B7x := B6x.gb gb7 nL6x; have nL7x := nl_next (b := V7.heap.size) nL6x B6x.lt; have B7y := B6y.gb gb7 nL6y; have nL7y := nl_next (b := V7.heap.size) nL6y B6y.lt; have B7r := B6r.gb gb7 nL6r; have nL7r := nl_next (b := V7.heap.size) nL6r B6r.lt; have B7s := B6s.gb gb7 nL6s; have nL7s := nl_next (b := V7.heap.size) nL6s B6s.lt; have B7want := B6want.gb gb7 nL6want; have nL7want := nl_next (b := V7.heap.size) nL6want B6want.lt; have r7want := r6want.nr nr7; have x7x0 := B7x.cell0; have x7x1 := B7x.cell1; have x7y0 := B7y.cell0; have x7y1 := B7y.cell1; have x7r0 := B7r.cell0; have x7r1 := B7r.cell1; have x7s0 := B7s.cell0; have x7s1 := B7s.cell1; have x7want0 := B7want.cell0; have x7want1 := B7want.cell1; clear x6x0 x6x1 x6y0 x6y1 x6r0 x6r1 x6s0 x6s1 x6want0 x6want1 x6a0 x6a1) | (go_at_call 41; guard_hyp Z7; (fail_if_success (guard_hyp Z8)); refine (hR2 _ (Kr.out.jn J7).wd (Ks.out.jn J7).wd).mono ?_; rintro e y8 ⟨s8, rfl, r80, l8, g8⟩; have frwant8 := made_fresh bk7 l8 Z7; have k8 := bk7.kept g8; have Jq8 := J7.grow hbase g8; have Q8x := B7x.kept g8 (by simp); have Q8y := B7y.kept g8 (by simp); have Q8r := B7r.kept g8 (by simp); have Q8s := B7s.kept g8 (by simp); have Q8want := B7want.kept g8 (by simp); obtain ⟨V8, hV8⟩ : ∃ V, (y8.setCell ⟨y5.heap.size, 0, none⟩ (.int .i64 a2.N)).setCell ⟨y5.heap.size, 1, none⟩ (.slice s8 a2.c a2.c) = V := ⟨_, rfl⟩; have J8 : Jn _ _ _ w V8 := hV8 ▸ (Jq8.set hbase lwwant 0 (.int .i64 a2.N)).set hbase lwwant 1 (.slice s8 a2.c a2.c); have bk8 : Book V8 _ _ _ _ _ _ _ := hV8 ▸ (k8.box Q8want.ty nL7want (o := 0) (.int .i64 a2.N)).box (Q8want.ty.set 0 (.int .i64 a2.N)) nL7want (o := 1) (.slice s8 a2.c a2.c); have Z8 := Nat.le_trans hbase J8.size; have B8x : Bx V8 w.heap.size 25 _ _ := hV8 ▸ (Q8x.setFar (ne_x_want) _).setFar (ne_x_want) _; have nL8x := nL7x; have B8y : Bx V8 U1.heap.size 25 _ _ := hV8 ▸ (Q8y.setFar (ne_y_want) _).setFar (ne_y_want) _; have nL8y := nL7y; have B8r : Bx V8 U2.heap.size 25 _ _ := hV8 ▸ (Q8r.setFar (ne_r_want) _).setFar (ne_r_want) _; have nL8r := nL7r; have B8s : Bx V8 U3.heap.size 25 _ _ := hV8 ▸ (Q8s.setFar (ne_s_want) _).setFar (ne_s_want) _; have nL8s := nL7s; have B8want : Bx V8 y5.heap.size 25 (.int .i64 a2.N) (.slice s8 a2.c a2.c) := hV8 ▸ Q8want.set _ _; have nL8want := nL7want; have r8want : Gr V8 s8 a2.c a2.f := hV8 ▸ (r80.box Q8want.ty (o := 0) (.int .i64 a2.N)).box (Q8want.ty.set 0 (.int .i64 a2.N)) (o := 1) (.slice s8 a2.c a2.c); have wx0 := Q8want.cell0; have wx1 := Q8want.cell1; have wf0 := Q8want.free0; have wf1 := Q8want.free1; have x8x0 := B8x.cell0; have x8x1 := B8x.cell1; have x8y0 := B8y.cell0; have x8y1 := B8y.cell1; have x8r0 := B8r.cell0; have x8r1 := B8r.cell1; have x8s0 := B8s.cell0; have x8s1 := B8s.cell1; have x8want0 := B8want.cell0; have x8want1 := B8want.cell1; clear x7x0 x7x1 x7y0 x7y1 x7r0 x7r1 x7s0 x7s1 x7want0 x7want1) | (go_at_call 43; guard_hyp Z8; (fail_if_success (guard_hyp Z9)); refine (hP2 _ (Kx.out.jn J8).wd (Ky.out.jn J8).wd).mono ?_; rintro e y9 ⟨s9, rfl, r90, l9, g9⟩; obtain ⟨V9, hV9, p9, q9, sz9, gv9, B9o⟩ := box2 y9 (.int .i64 a2.N) (.slice s9 a2.c a2.c) 25; have e9 := gb_trans g9 gv9; have r9o := r90.kept gv9; clear p9 q9; have fro := made_fresh bk8 l9 Z8; have nL9o := nl_new J8.hl g9.size; have bk9 := bk8.kept e9; have J9 := J8.grow hbase e9; have Z9 := Nat.le_trans hbase J9.size; have B9x := B8x.kept e9 (by simp); have nL9x := nL8x; have B9y := B8y.kept e9 (by simp); have nL9y := nL8y; have B9r := B8r.kept e9 (by simp); have nL9r := nL8r; have B9s := B8s.kept e9 (by simp); have nL9s := nL8s; have B9want := B8want.kept e9 (by simp); have nL9want := nL8want; have r9want := r8want.kept e9; have lwo : w.heap.size ≤ y9.heap.size := Nat.le_trans J8.size g9.size; have x9x0 := B9x.cell0; have x9x1 := B9x.cell1; have x9y0 := B9y.cell0; have x9y1 := B9y.cell1; have x9r0 := B9r.cell0; have x9r1 := B9r.cell1; have x9s0 := B9s.cell0; have x9s1 := B9s.cell1; have x9want0 := B9want.cell0; have x9want1 := B9want.cell1; have x9o0 := B9o.cell0; have x9o1 := B9o.cell1; clear x8x0 x8x1 x8y0 x8y1 x8r0 x8r1 x8s0 x8s1 x8want0 x8want1) | (go_at_call 11; guard_hyp Z9; (fail_if_success (guard_hyp Z10)); refine (bookAdds B base _ _ _ _ (by omega) a2 f2 s9 s8 _ V9 bk9 r9o r9want fro (fun x e => (frwant8 x e).1)).mono ?_; rintro e V10 ⟨rfl, bk10, nr10, bl10, gb10⟩; have J10 := J9.adds nr10 bl10 gb10; have Z10 := Nat.le_trans hbase J10.size; have B10x := B9x.gb gb10 nL9x; have nL10x := nl_next (b := V10.heap.size) nL9x B9x.lt; have B10y := B9y.gb gb10 nL9y; have nL10y := nl_next (b := V10.heap.size) nL9y B9y.lt; have B10r := B9r.gb gb10 nL9r; have nL10r := nl_next (b := V10.heap.size) nL9r B9r.lt; have B10s := B9s.gb gb10 nL9s; have nL10s := nl_next (b := V10.heap.size) nL9s B9s.lt; have B10want := B9want.gb gb10 nL9want; have nL10want := nl_next (b := V10.heap.size) nL9want B9want.lt; have r10want := r9want.nr nr10; have x10x0 := B10x.cell0; have x10x1 := B10x.cell1; have x10y0 := B10y.cell0; have x10y1 := B10y.cell1; have x10r0 := B10r.cell0; have x10r1 := B10r.cell1; have x10s0 := B10s.cell0; have x10s1 := B10s.cell1; have x10want0 := B10want.cell0; have x10want1 := B10want.cell1; clear x9x0 x9x1 x9y0 x9y1 x9r0 x9r1 x9s0 x9s1 x9want0 x9want1 x9o0 x9o1) | (go_at_call 41; guard_hyp Z10; (fail_if_success (guard_hyp Z11)); refine (hR3 _ (Kr.out.jn J10).wd (Ks.out.jn J10).wd).mono ?_; rintro e y11 ⟨s11, rfl, r110, l11, g11⟩; have frwant11 := made_fresh bk10 l11 Z10; have k11 := bk10.kept g11; have Jq11 := J10.grow hbase g11; have Q11x := B10x.kept g11 (by simp); have Q11y := B10y.kept g11 (by simp); have Q11r := B10r.kept g11 (by simp); have Q11s := B10s.kept g11 (by simp); have Q11want := B10want.kept g11 (by simp); obtain ⟨V11, hV11⟩ : ∃ V, (y11.setCell ⟨y5.heap.size, 0, none⟩ (.int .i64 a3.N)).setCell ⟨y5.heap.size, 1, none⟩ (.slice s11 a3.c a3.c) = V := ⟨_, rfl⟩; have J11 : Jn _ _ _ w V11 := hV11 ▸ (Jq11.set hbase lwwant 0 (.int .i64 a3.N)).set hbase lwwant 1 (.slice s11 a3.c a3.c); have bk11 : Book V11 _ _ _ _ _ _ _ := hV11 ▸ (k11.box Q11want.ty nL10want (o := 0) (.int .i64 a3.N)).box (Q11want.ty.set 0 (.int .i64 a3.N)) nL10want (o := 1) (.slice s11 a3.c a3.c); have Z11 := Nat.le_trans hbase J11.size; have B11x : Bx V11 w.heap.size 25 _ _ := hV11 ▸ (Q11x.setFar (ne_x_want) _).setFar (ne_x_want) _; have nL11x := nL10x; have B11y : Bx V11 U1.heap.size 25 _ _ := hV11 ▸ (Q11y.setFar (ne_y_want) _).setFar (ne_y_want) _; have nL11y := nL10y; have B11r : Bx V11 U2.heap.size 25 _ _ := hV11 ▸ (Q11r.setFar (ne_r_want) _).setFar (ne_r_want) _; have nL11r := nL10r; have B11s : Bx V11 U3.heap.size 25 _ _ := hV11 ▸ (Q11s.setFar (ne_s_want) _).setFar (ne_s_want) _; have nL11s := nL10s; have B11want : Bx V11 y5.heap.size 25 (.int .i64 a3.N) (.slice s11 a3.c a3.c) := hV11 ▸ Q11want.set _ _; have nL11want := nL10want; have r11want : Gr V11 s11 a3.c a3.f := hV11 ▸ (r110.box Q11want.ty (o := 0) (.int .i64 a3.N)).box (Q11want.ty.set 0 (.int .i64 a3.N)) (o := 1) (.slice s11 a3.c a3.c); have wx0 := Q11want.cell0; have wx1 := Q11want.cell1; have wf0 := Q11want.free0; have wf1 := Q11want.free1; have x11x0 := B11x.cell0; have x11x1 := B11x.cell1; have x11y0 := B11y.cell0; have x11y1 := B11y.cell1; have x11r0 := B11r.cell0; have x11r1 := B11r.cell1; have x11s0 := B11s.cell0; have x11s1 := B11s.cell1; have x11want0 := B11want.cell0; have x11want1 := B11want.cell1; clear x10x0 x10x1 x10y0 x10y1 x10r0 x10r1 x10s0 x10s1 x10want0 x10want1) | (go_at_call 44; guard_hyp Z11; (fail_if_success (guard_hyp Z12)); refine (hP3 _ (Kx.out.jn J11).wd (Ky.out.jn J11).wd).mono ?_; rintro e y12 ⟨s12, rfl, r120, l12, g12⟩; obtain ⟨V12, hV12, p12, q12, sz12, gv12, B12z⟩ := box2 y12 (.int .i64 a3.N) (.slice s12 a3.c a3.c) 25; have e12 := gb_trans g12 gv12; have r12z := r120.kept gv12; clear p12 q12; have frz := made_fresh bk11 l12 Z11; have nL12z := nl_new J11.hl g12.size; have bk12 := bk11.kept e12; have J12 := J11.grow hbase e12; have Z12 := Nat.le_trans hbase J12.size; have B12x := B11x.kept e12 (by simp); have nL12x := nL11x; have B12y := B11y.kept e12 (by simp); have nL12y := nL11y; have B12r := B11r.kept e12 (by simp); have nL12r := nL11r; have B12s := B11s.kept e12 (by simp); have nL12s := nL11s; have B12want := B11want.kept e12 (by simp); have nL12want := nL11want; have r12want := r11want.kept e12; have lwz : w.heap.size ≤ y12.heap.size := Nat.le_trans J11.size g12.size; have x12x0 := B12x.cell0; have x12x1 := B12x.cell1; have x12y0 := B12y.cell0; have x12y1 := B12y.cell1; have x12r0 := B12r.cell0; have x12r1 := B12r.cell1; have x12s0 := B12s.cell0; have x12s1 := B12s.cell1; have x12want0 := B12want.cell0; have x12want1 := B12want.cell1; have x12z0 := B12z.cell0; have x12z1 := B12z.cell1; clear x11x0 x11x1 x11y0 x11y1 x11r0 x11r1 x11s0 x11s1 x11want0 x11want1) | (go_at_call 11; guard_hyp Z12; (fail_if_success (guard_hyp Z13)); refine (bookAdds B base _ _ _ _ (by omega) a3 f3 s12 s11 _ V12 bk12 r12z r12want frz (fun x e => (frwant11 x e).1)).mono ?_; rintro e V13 ⟨rfl, bk13, nr13, bl13, gb13⟩; have J13 := J12.adds nr13 bl13 gb13; have Z13 := Nat.le_trans hbase J13.size; have B13x := B12x.gb gb13 nL12x; have nL13x := nl_next (b := V13.heap.size) nL12x B12x.lt; have B13y := B12y.gb gb13 nL12y; have nL13y := nl_next (b := V13.heap.size) nL12y B12y.lt; have B13r := B12r.gb gb13 nL12r; have nL13r := nl_next (b := V13.heap.size) nL12r B12r.lt; have B13s := B12s.gb gb13 nL12s; have nL13s := nl_next (b := V13.heap.size) nL12s B12s.lt; have B13want := B12want.gb gb13 nL12want; have nL13want := nl_next (b := V13.heap.size) nL12want B12want.lt; have r13want := r12want.nr nr13; have x13x0 := B13x.cell0; have x13x1 := B13x.cell1; have x13y0 := B13y.cell0; have x13y1 := B13y.cell1; have x13r0 := B13r.cell0; have x13r1 := B13r.cell1; have x13s0 := B13s.cell0; have x13s1 := B13s.cell1; have x13want0 := B13want.cell0; have x13want1 := B13want.cell1; clear x12x0 x12x1 x12y0 x12y1 x12r0 x12r1 x12s0 x12s1 x12want0 x12want1 x12z0 x12z1))
  go_end0
  exact ⟨⟨_, rfl⟩, _, _, _, _, bk13, J13⟩
end Go.Proofs.Ytcdefpfnjjahgaa
