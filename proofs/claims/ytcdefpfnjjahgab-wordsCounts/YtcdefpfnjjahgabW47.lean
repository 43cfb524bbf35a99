/- Plain facts on the book. -/
import Derived.Test.YtcdefpfnjjahgabW37
import Derived.Test.YtcdefpfnjjahgabW38
namespace Go.Proofs.Ytcdefpfnjjahgab
open Go.RowKit
set_option linter.unusedVariables false
set_option linter.unusedSimpArgs false

theorem Bd.below {w W : World} {sp : Option Addr} {n : Nat} {q : Nat → Bool} (h : Bd w sp n q) (hb : Below w.heap.size w W) : Bd W sp n q := fun k hk => by
  obtain ⟨a, h1, h2⟩ := h k hk
  exact ⟨a, h1, (hb.cell (p := a.add k) (cell_lt h2)).trans h2⟩
theorem full_bd {W : World} {g cap n : Nat} {F : Nat → Value} {q : Nat → Bool} (h : W.rowIs g 4 cap F) (hq : ∀ j, j < n → F j = .bool (q j)) (hc : n ≤ cap) : Bd W (some ⟨g, 0, none⟩) n q := fun k hk => ⟨_, rfl, by rw [add_mid, Nat.zero_add, h.cell (i := k) (by omega), hq k hk]⟩
theorem made_fresh {w : World} {B base k : Nat} {An : Nat → Ans} {sg sw : Nat → Option Addr} {L : Nat → Prop} {sp : Option Addr} (h : Book w B base k An sg sw L) (hl : ∀ x, sp = some x → w.heap.size ≤ x.block) (hb : base ≤ w.heap.size) : ∀ x, sp = some x → base ≤ x.block ∧ ∀ i, i < k → ∀ y, sg i = some y → x.block ≠ y.block := fun x e => ⟨by have := hl x e; omega, fun i hi y e' => by have := (h.got i hi).lt e'; have := hl x e; omega⟩
theorem Bx.gb {w w' : World} {g : Nat} {t : TypeId} {x y : Value} {L : Nat → Prop} (h : Bx w g t x y) (hg : Gb L w w') (hn : ¬ L g) : Bx w' g t x y := (hg.block g h.lt hn).trans h
theorem hl_next {L : Nat → Prop} {a b : Nat} (h : ∀ j, L j → j < a) (hs : a ≤ b) : ∀ j, Lnext L a b j → j < b := fun j hj => Or.elim hj (fun h1 => Nat.lt_of_lt_of_le (h j h1) hs) (fun h1 => h1.2)
theorem hl_mono {L : Nat → Prop} {a b : Nat} (h : ∀ j, L j → j < a) (hs : a ≤ b) : ∀ j, L j → j < b := fun j hj => Nat.lt_of_lt_of_le (h j hj) hs
theorem nl_new {L : Nat → Prop} {a b : Nat} (h : ∀ j, L j → j < a) (hb : a ≤ b) : ¬ L b := fun hh => by have := h b hh; omega
theorem nl_next {L : Nat → Prop} {a b g : Nat} (h : ¬ L g) (hg : g < a) : ¬ Lnext L a b g := fun hj => Or.elim hj h (fun h1 => by omega)

theorem bitAt_of {n : Nat} {f : Nat → Nat} {p : Nat → Bool} (hp : ∀ k, k < n → f k = Pk.pack p k) {q : Nat} (hq : q < 64 * n) : Pk.bitAt f q = p q := by
  rw [← Pk.bitAt_pack p q]
  unfold Pk.bitAt
  rw [hp (q / 64) (by omega)]
theorem Wd.belowK {w W : World} {sp : Option Addr} {n : Nat} {q : Nat → Nat} (h : Wd w sp n q) (hb : Below w.heap.size w W) : Wd W sp n q := fun k hk => by
  obtain ⟨a, h1, h2⟩ := h k hk
  exact ⟨a, h1, (hb.cell (p := a.add k) (cell_lt h2)).trans h2⟩
theorem lent_of {w : World} {b n c : Nat} {f : Nat → Nat} (h : ∃ F, w.rowIs b 22 c F ∧ (∀ k, k < n → F k = .int .u64 (f k)) ∧ (∀ i, i < 70 → F (n + i) = .int .u64 (7777 + (i : Int))) ∧ n + 70 ≤ c) : Lent w b n c f := by
  obtain ⟨F, h1, h2, h3, h4⟩ := h
  exact ⟨⟨F, h1, h2, h3⟩, h4⟩
theorem lent_lt {w : World} {b n c : Nat} {f : Nat → Nat} (h : ∃ F, w.rowIs b 22 c F ∧ (∀ k, k < n → F k = .int .u64 (f k)) ∧ (∀ i, i < 70 → F (n + i) = .int .u64 (7777 + (i : Int))) ∧ n + 70 ≤ c) : b < w.heap.size := by
  obtain ⟨F, h1, _⟩ := h
  exact h1.lt
theorem bk_wiped {w w' : World} {B base k b n c : Nat} {f : Nat → Nat} {An : Nat → Ans} {sg sw : Nat → Option Addr} {L : Nat → Prop} (h : Book w B base k An sg sw L) (hx : Lent w b n c f) (hb : Hid (b < base)) (hg : w.grownBy w' (some b)) : Book w' B base k An sg sw L := by
  obtain ⟨F, h1, _⟩ := hx.row
  exact h.wiped h1 hb.out hg
theorem xk_lt {n : Nat} {f : Nat → Nat} (hf : ∀ k, k < n → f k < 18446744073709551616) : ∀ k, k < n → xk f k < 18446744073709551616 := fun k hk => Nat.xor_lt_two_pow (n := 64) (hf k hk) (by decide)

theorem ok_c {m : Nat} {p : Nat → Bool} (h : m ≤ 65538) : (okAns m p).c ≤ 1025 := by show (m + 63) / 64 ≤ 1025; omega
/-- Of what kind a block is. -/
def Ty (w : World) (g t : Nat) : Prop := ∃ cs z, w.heap[g]? = some (.cells cs t z)
theorem Ty.set {w : World} {g t : Nat} (h : Ty w g t) (o : Nat) (v : Value) : Ty (w.setCell ⟨g, o, none⟩ v) g t := by
  obtain ⟨cs, z, h⟩ := h
  exact ⟨cs.setIfInBounds o v, z, by simp [World.setCell, Array.getElem?_modify, h]⟩
theorem Bx.ty {w : World} {g t : Nat} {x y : Value} (h : Bx w g t x y) : Ty w g t := ⟨_, _, h⟩
theorem Book.box {w : World} {B base k g o : Nat} {An : Nat → Ans} {sg sw : Nat → Option Addr} {L : Nat → Prop} (h : Book w B base k An sg sw L) (ht : Ty w g 31) (hn : ¬ L g) (x : Value) : Book (w.setCell ⟨g, o, none⟩ x) B base k An sg sw L := by
  obtain ⟨cs, z, hc⟩ := ht
  obtain ⟨vg, vw, xg, xw, kL, k1, k2, k3, k4, k5, k6⟩ := h.mem
  have nB : B ≠ g := fun e => hn (kL g (.inl e.symm))
  have nG : ∀ {sp : Option Addr} {c : Nat} {f : Nat → Nat}, Gr w sp c f → Gr (w.setCell ⟨g, o, none⟩ x) sp c f := fun hh => hh.imp id (fun ⟨b, e1, e2⟩ => ⟨b, e1, World.rowIs.setOther e2 (a := ⟨g, o, none⟩) (fun e => by
    obtain ⟨c', hc', _⟩ := e2
    have e' : b = g := e
    rw [e', hc] at hc'
    simp at hc') x⟩)
  exact ⟨⟨vg, vw, xg, xw, kL, (Below.heap_setCell _ _ _ _ nB).trans k1, own_set k2 (fun e => hn (kL g (.inr (.inl e.symm)))), own_set k3 (fun e => hn (kL g (.inr (.inr e.symm)))), k4, k5, k6⟩, fun i hi => nG (h.got i hi), fun i hi => nG (h.want i hi), h.apart, h.low, h.wlow, h.base, h.len⟩
theorem Gr.box {w : World} {g o c : Nat} {sp : Option Addr} {f : Nat → Nat} (h : Gr w sp c f) (ht : Ty w g 31) (x : Value) : Gr (w.setCell ⟨g, o, none⟩ x) sp c f := by
  obtain ⟨cs, z, hc⟩ := ht
  exact h.imp id (fun ⟨b, e1, e2⟩ => ⟨b, e1, World.rowIs.setOther e2 (a := ⟨g, o, none⟩) (fun e => by
    obtain ⟨c', hc', _⟩ := e2
    have e' : b = g := e
    rw [e', hc] at hc'
    simp at hc') x⟩)
/-- What a part of the law leaves that puts answers into the book. -/
structure Jn (base : Nat) (L L' : Nat → Prop) (w w' : World) : Prop where
  nr : Nr w w'
  bl : Below base w w'
  gb : Gb L w w'
  hl : ∀ j, L' j → j < w'.heap.size
  sub : ∀ j, L' j → L j ∨ w.heap.size ≤ j
theorem Jn.refl {base : Nat} {L : Nat → Prop} {w : World} (hl : ∀ j, L j → j < w.heap.size) : Jn base L L w w := ⟨⟨rfl, rfl, rfl, Nat.le_refl _, fun _ _ _ => rfl⟩, Below.refl _ _, ⟨rfl, rfl, rfl, Nat.le_refl _, fun _ _ _ => rfl⟩, hl, fun j h => .inl h⟩
theorem Jn.size {base : Nat} {L L' : Nat → Prop} {w w' : World} (h : Jn base L L' w w') : w.heap.size ≤ w'.heap.size := h.nr.size
theorem Jn.grow {base : Nat} {L L' : Nat → Prop} {w V V' : World} (h : Jn base L L' w V) (hb : base ≤ w.heap.size) (g : V.grownBy V' none) : Jn base L L' w V' :=
  ⟨⟨g.os.trans h.nr.os, g.tape.trans h.nr.tape, g.output.trans h.nr.output, Nat.le_trans h.size g.size, fun k hk hn => (g.block k (Nat.lt_of_lt_of_le hk h.size) (by simp)).trans (h.nr.block k hk hn)⟩,
   h.bl.grown g (Nat.le_trans hb h.size) (fun k e => by cases e),
   ⟨g.os.trans h.gb.os, g.tape.trans h.gb.tape, g.output.trans h.gb.output, Nat.le_trans h.size g.size, fun k hk hn => (g.block k (Nat.lt_of_lt_of_le hk h.size) (by simp)).trans (h.gb.block k hk hn)⟩,
   fun j hj => Nat.lt_of_lt_of_le (h.hl j hj) g.size, h.sub⟩
theorem Jn.then {base : Nat} {L L1 L2 : Nat → Prop} {w V V' : World} (h : Jn base L L1 w V) (k : Jn base L1 L2 V V') : Jn base L L2 w V' :=
  ⟨⟨k.nr.os.trans h.nr.os, k.nr.tape.trans h.nr.tape, k.nr.output.trans h.nr.output, Nat.le_trans h.size k.size, fun j hj hn => by
      have e := h.nr.block j hj hn
      exact (k.nr.block j (Nat.lt_of_lt_of_le hj h.size) (fun cs t z hh => hn cs t z (e ▸ hh))).trans e⟩,
   h.bl.trans k.bl,
   ⟨k.gb.os.trans h.gb.os, k.gb.tape.trans h.gb.tape, k.gb.output.trans h.gb.output, Nat.le_trans h.size k.size, fun j hj hn => (k.gb.block j (Nat.lt_of_lt_of_le hj h.size) (fun h1 => by
      rcases h.sub j h1 with h2 | h2
      · exact hn h2
      · omega)).trans (h.gb.block j hj hn)⟩,
   k.hl, fun j hj => by
      rcases k.sub j hj with h1 | h1
      · exact h.sub j h1
      · exact .inr (Nat.le_trans h.size h1)⟩
theorem Jn.adds {base : Nat} {L L1 : Nat → Prop} {w V V' : World} (h : Jn base L L1 w V) (k1 : Nr V V') (k2 : Below base V V') (k3 : Gb L1 V V') : Jn base L (Lnext L1 V.heap.size V'.heap.size) w V' :=
  h.then ⟨k1, k2, k3, hl_next h.hl k1.size, fun j hj => hj.imp id (fun h => h.1)⟩
theorem Jn.set {base g : Nat} {L L1 : Nat → Prop} {w V : World} (h : Jn base L L1 w V) (hb : base ≤ w.heap.size) (hg : w.heap.size ≤ g) (o : Nat) (v : Value) : Jn base L L1 w (V.setCell ⟨g, o, none⟩ v) := by
  have hs : (V.setCell ⟨g, o, none⟩ v).heap.size = V.heap.size := by simp [World.setCell]
  have hh : ∀ k, k < w.heap.size → (V.setCell ⟨g, o, none⟩ v).heap[k]? = V.heap[k]? := fun k hk => Below.heap_setCell _ _ _ _ (by show k ≠ g; omega)
  exact ⟨⟨h.nr.os, h.nr.tape, h.nr.output, by rw [hs]; exact h.size, fun k hk hn => (hh k hk).trans (h.nr.block k hk hn)⟩, h.bl.setCell (by show base ≤ g; omega) v,
    ⟨h.nr.os, h.nr.tape, h.nr.output, by rw [hs]; exact h.size, fun k hk hn => (hh k hk).trans (h.gb.block k hk hn)⟩, fun j hj => by rw [hs]; exact h.hl j hj, h.sub⟩
/-- Words that can be read, and that stay while the book grows. -/
def Kw (base : Nat) (w : World) (sp : Option Addr) (n : Nat) (f : Nat → Nat) : Prop := ∀ k, k < n → ∃ a, sp = some a ∧ w.cell? (a.add k) = some (.int .u64 (f k)) ∧ ((a.add k).block < base ∨ Ty w (a.add k).block 22)
theorem Kw.wd {base : Nat} {w : World} {sp : Option Addr} {n : Nat} {f : Nat → Nat} (h : Kw base w sp n f) : Wd w sp n f := fun k hk => by
  obtain ⟨a, h1, h2, _⟩ := h k hk
  exact ⟨a, h1, h2⟩
theorem Kw.jn {base : Nat} {L L' : Nat → Prop} {w V : World} {sp : Option Addr} {n : Nat} {f : Nat → Nat} (h : Kw base w sp n f) (j : Jn base L L' w V) : Kw base V sp n f := fun k hk => by
  obtain ⟨a, h1, h2, h3⟩ := h k hk
  have hl := cell_lt h2
  have e : V.heap[(a.add k).block]? = w.heap[(a.add k).block]? := by
    rcases h3 with h3 | ⟨cs, z, h3⟩
    · exact j.bl.block _ h3
    · exact j.nr.block _ hl (fun cs' t z' e' => by
        rw [h3] at e'
        simp only [Option.some.injEq, Obj.cells.injEq] at e'
        obtain ⟨_, rfl, _⟩ := e'
        exact ⟨by decide, by decide⟩)
  refine ⟨a, h1, (World.cell?_of_block (w := w) e).trans h2, h3.imp id (fun ⟨cs, z, h⟩ => ⟨cs, z, e.trans h⟩)⟩
theorem Kw.low {base : Nat} {w : World} {sp : Option Addr} {n : Nat} {f : Nat → Nat} (h : Wd w sp n f) (hb : w.heap.size ≤ base) : Kw base w sp n f := fun k hk => by
  obtain ⟨a, h1, h2⟩ := h k hk
  exact ⟨a, h1, h2, .inl (Nat.lt_of_lt_of_le (cell_lt h2) hb)⟩
theorem Kw.below {base b0 : Nat} {w W : World} {sp : Option Addr} {n : Nat} {f : Nat → Nat} (h : Wd w sp n f) (hb : w.heap.size ≤ base) (hw : Below w.heap.size w W) : Kw base W sp n f := fun k hk => by
  obtain ⟨a, h1, h2⟩ := h k hk
  have hl := cell_lt h2
  exact ⟨a, h1, (hw.cell (p := a.add k) hl).trans h2, .inl (Nat.lt_of_lt_of_le hl hb)⟩
theorem Lent.kw {base : Nat} {w : World} {b n c : Nat} {f : Nat → Nat} (h : Lent w b n c f) : Kw base w (some ⟨b, 0, none⟩) n f := fun k hk => by
  obtain ⟨a, h1, h2⟩ := h.wd k hk
  obtain ⟨F, ⟨cur, h3, _⟩, _⟩ := h.row
  cases h1
  refine ⟨_, rfl, h2, .inr ⟨cur, (0, 0), ?_⟩⟩
  rw [add_mid]
  exact h3
theorem nl_jn {base g : Nat} {L L' : Nat → Prop} {w V : World} (j : Jn base L L' w V) (h : ¬ L g) (hg : g < w.heap.size) : ¬ L' g := fun hh => by
  rcases j.sub g hh with h1 | h1
  · exact h h1
  · omega
end Go.Proofs.Ytcdefpfnjjahgab
