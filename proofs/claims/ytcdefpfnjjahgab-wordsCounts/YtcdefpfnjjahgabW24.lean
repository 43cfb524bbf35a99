/- The statements' own book of answers: one answer more. -/
import Derived.Test.YtcdefpfnjjahgabW23
import Derived.Deep.AppendLies
import Derived.Deep.RegionLaw
import Derived.RangeFuncBox
namespace Go.Proofs.Ytcdefpfnjjahgab
open Go.RowKit
set_option linter.unusedVariables false

theorem far1 {w : World} {g o b o' : Nat} {x v : Value} (h : w.cell? ⟨b, o', none⟩ = some v) (hne : b ≠ g) : (w.setCell ⟨g, o, none⟩ x).cell? ⟨b, o', none⟩ = some v := by
  have e : (w.setCell ⟨g, o, none⟩ x).heap[b]? = w.heap[b]? := Below.heap_setCell _ _ _ _ hne
  rw [← h]
  exact World.cell?_of_block (w := w) e

/-- What was there is as it was, but for the blocks S. -/
structure Gb (S : Nat → Prop) (w w' : World) : Prop where
  os : w'.os = w.os
  tape : w'.tape = w.tape
  output : w'.output = w.output
  size : w.heap.size ≤ w'.heap.size
  block : ∀ k, k < w.heap.size → ¬ S k → w'.heap[k]? = w.heap[k]?
theorem Gb.of {S : Nat → Prop} {a b : World} {r : Option Nat} (h : a.grownBy b r) (hr : ∀ i, r = some i → i < a.heap.size → S i) : Gb S a b := ⟨h.os, h.tape, h.output, h.size, fun k hk hn => h.block k hk (fun e => hn (hr k e.symm hk))⟩
theorem Gb.grow {S : Nat → Prop} {a b c : World} {r : Option Nat} (h : Gb S a b) (k : b.grownBy c r) (hr : ∀ i, r = some i → i < a.heap.size → S i) : Gb S a c :=
  ⟨k.os.trans h.os, k.tape.trans h.tape, k.output.trans h.output, Nat.le_trans h.size k.size, fun i hi hn => (k.block i (Nat.lt_of_lt_of_le hi h.size) (fun e => hn (hr i e.symm hi))).trans (h.block i hi hn)⟩
theorem Gb.set {S : Nat → Prop} {a b : World} (h : Gb S a b) (x : Addr) (hx : S x.block) (v : Value) : Gb S a (b.setCell x v) :=
  ⟨h.os, h.tape, h.output, by simpa [World.setCell] using h.size, fun i hi hn => (Below.heap_setCell _ _ _ _ (fun e => hn (by rw [e]; exact hx))).trans (h.block i hi hn)⟩
theorem own_set {w : World} {base e size n g o : Nat} {v x : Value} {xs : List Value} (h : w.ownsRow base e size v n xs) (hne : some g ≠ v.ownBlock) : (w.setCell ⟨g, o, none⟩ x).ownsRow base e size v n xs := by
  refine ⟨h.1, ?_⟩
  rcases h.2 with h0 | ⟨b, cap, cur, rfl, h1, h2, h3⟩
  · exact .inl h0
  · exact .inr ⟨b, cap, cur, rfl, h1, (Below.heap_setCell _ _ _ _ (fun e => hne (by simp [Value.ownBlock, e]))).trans h2, h3⟩

theorem bInfoR : (Try.prog.info? 31).map (fun i => (i.zero, i.size, i.bytes)) = some (some (.agg #[.int .i64 0, .slice none 0 0]), 2, 32) := by kernel_rfl
theorem bUnderRS : Try.prog.underlying 28 = some (.slice 31) := by kernel_rfl

/-- The book's three cells. -/
def Bk (w : World) (B : Nat) (vg vw : Value) : Prop := w.heap[B]? = some (.cells #[vg, vw, .bool false] 35 (0, 0))
theorem Bk.lt {w : World} {B : Nat} {vg vw : Value} (h : Bk w B vg vw) : B < w.heap.size := (Array.getElem?_eq_some_iff.1 h).1
theorem Bk.kept {w w' : World} {B : Nat} {vg vw : Value} {r : Option Nat} (h : Bk w B vg vw) (hg : w.grownBy w' r) (hne : some B ≠ r) : Bk w' B vg vw := (hg.block B h.lt hne).trans h
theorem Bk.c0 {w : World} {B : Nat} {vg vw : Value} (h : Bk w B vg vw) : w.cell? ⟨B, 0, none⟩ = some vg := by unfold Bk at h; simp [World.cell?, h]
theorem Bk.c1 {w : World} {B : Nat} {vg vw : Value} (h : Bk w B vg vw) : w.cell? ⟨B, 1, none⟩ = some vw := by unfold Bk at h; simp [World.cell?, h]
theorem Bk.f0 {w : World} {B : Nat} {vg vw : Value} (h : Bk w B vg vw) : w.frozen? ⟨B, 0, none⟩ = false := by unfold Bk at h; simp [World.frozen?, h]
theorem Bk.f1 {w : World} {B : Nat} {vg vw : Value} (h : Bk w B vg vw) : w.frozen? ⟨B, 1, none⟩ = false := by unfold Bk at h; simp [World.frozen?, h]
theorem Bk.set0 {w : World} {B : Nat} {vg vw : Value} (h : Bk w B vg vw) (v : Value) : Bk (w.setCell ⟨B, 0, none⟩ v) B v vw := by unfold Bk at h ⊢; simp [World.setCell, Array.getElem?_modify, h]
theorem Bk.set1 {w : World} {B : Nat} {vg vw : Value} (h : Bk w B vg vw) (v : Value) : Bk (w.setCell ⟨B, 1, none⟩ v) B vg v := by unfold Bk at h ⊢; simp [World.setCell, Array.getElem?_modify, h]
/-- The book lies in no list of rows. -/
theorem Bk.ne {w : World} {B base n : Nat} {vg vw v : Value} {xs : List Value} (h : Bk w B vg vw) (ho : w.ownsRow base 31 2 v n xs) : some B ≠ v.ownBlock := by
  rcases ho.2 with ⟨rfl, _⟩ | ⟨g, cap, cur, rfl, _, hg, _⟩
  · simp [Value.ownBlock]
  · intro e
    simp only [Value.ownBlock, Option.some.injEq] at e
    subst e
    rw [h] at hg
    simp at hg

set_option maxHeartbeats 4000000 in
theorem addsT (B base : Nat) (N : Int) (n ca cb k : Nat) (sa sb : Option Addr) (f : Nat → Nat) (hn : n ≤ 9223372036854775807) (e : Int) (w : World) (ha : Wd w sa n f) (hb : Wd w sb n f) (vg vw : Value) (xg xw : List Value) (hB : Bk w B vg vw)
    (og : w.ownsRow base 31 2 vg k xg) (ow : w.ownsRow base 31 2 vw k xw) (hk : k ≤ 1000) (hne : vg.ownBlock = none ∨ vg.ownBlock ≠ vw.ownBlock) (hbase : base ≤ w.heap.size)
    :
    Calls Try.prog 20 #[.pointer (some ⟨B, 0, none⟩), .agg #[.int .i64 N, .slice sa n ca], .int .i64 e, .agg #[.int .i64 N, .slice sb n cb], .int .i64 e] w fun e w' => e = .returned (.tuple #[]) ∧
      ∃ g5 c5 g8 c8, Bk w' B (.slice (some ⟨g5, 0, none⟩) (k + 1) c5) (.slice (some ⟨g8, 0, none⟩) (k + 1) c8) ∧
        w'.ownsRow base 31 2 (.slice (some ⟨g5, 0, none⟩) (k + 1) c5) (k + 1) (xg ++ [.int .i64 N, .slice sa n ca]) ∧ w'.ownsRow base 31 2 (.slice (some ⟨g8, 0, none⟩) (k + 1) c8) (k + 1) (xw ++ [.int .i64 N, .slice sb n cb]) ∧ g5 ≠ g8 ∧
        (vg.ownBlock = some g5 ∨ w.heap.size ≤ g5) ∧ (vw.ownBlock = some g8 ∨ w.heap.size ≤ g8) ∧ Gb (fun j => j = B ∨ vg.ownBlock = some j ∨ vw.ownBlock = some j) w w' := by
  obtain ⟨W1, hW, c0, c1, sz, hg1, hA⟩ := box2 w (.int .i64 N) (.slice sa n ca) 31
  obtain ⟨W2, hW2, d0, d1, sz2, hg2, hC⟩ := box2 W1 (.int .i64 N) (.slice sb n cb) 31
  have g2 := gb_trans hg1 hg2
  have hA2 := hA.kept hg2 (by simp)
  have a0 := hA2.cell0
  have a1 := hA2.cell1
  have hsm := sameYes N n ca cb sa sb f hn W2 (ha.kept g2 (by simp)) (hb.kept g2 (by simp))
  have hee : (e != e) = false := by simp
  obtain ⟨i0, hi⟩ := info_parts bInfoR
  have HI : Hid (Try.prog.info? 31 = some i0 ∧ i0.zero = some (.agg #[.int .i64 0, .slice none 0 0]) ∧ i0.size = 2 ∧ i0.bytes = 32) := hi
  clear hi
  have lg := og.lt
  have lw := ow.lt
  have lB := hB.lt
  have q1 : w.heap.size < W1.heap.size := by have := sz.out; omega
  have q2 : W1.heap.size < W2.heap.size := by have := sz2.out; omega
  go_enter Try.func20, Try.ntmps20
  go_wp2_with (first | (go_at_call 38; refine hsm.mono ?_; rintro e w3 ⟨rfl, g3⟩; have G3 := gb_trans g2 g3; have hA3 := hA2.kept g3 (by simp); have x0 := hA3.cell0; have x1 := hA3.cell1; have hC3 := hC.kept g3 (by simp); have y0 := hC3.cell0; have y1 := hC3.cell1; have hB3 := hB.kept G3 (by simp); have z0 := hB3.c0; have z1 := hB3.c1; have og3 := og.kept G3 (Classical.em _); have ow3 := ow.kept G3 (Classical.em _); obtain ⟨W4, hW4, t0, t1, sz4, g4, hN4⟩ := box2 w3 (.int .i64 N) (.slice sa n ca) 31))
  have og4 := og3.kept g4 (Classical.em _)
  have hA4 := hA3.kept g4 (by simp)
  have hB4 := hB3.kept g4 (by simp)
  have u0 := hA4.cell0
  have u1 := hA4.cell1
  have u2 := hB4.c0
  have u3 := hB4.f0
  have q3 := g3.size
  have neA : some w.heap.size ≠ vg.ownBlock := fun e => by have := (lg w.heap.size e.symm).2; omega
  have neB := hB4.ne og4
  have nAB : w.heap.size ≠ B := by omega
  have nCB : W1.heap.size ≠ B := by omega
  have hnews : ∀ j u, [Value.int .i64 N, .slice sa n ca][j]? = some u → W4.drew.cell? ((⟨w3.heap.size, 0, none⟩ : Addr).add j) = some u := World.news_of_block (w := W4.drew) (cs := #[.int .i64 N, .slice sa n ca]) hN4
  have og4d : W4.drew.ownsRow base 31 2 vg k xg := og4
  have hb4 : base ≤ W4.drew.heap.size := by show base ≤ W4.heap.size; have := G3.size; have := g4.size; omega
  go_region_law (first | (refine step_append_lies _ rfl (.tmp 28) (.tmp 30) 28 rfl base 31 i0 (.agg #[.int .i64 0, .slice none 0 0]) 2 32 bUnderRS HI.out.1 HI.out.2.1 HI.out.2.2.1 HI.out.2.2.2 rfl (by decide) _ k xg rfl og4d ⟨w3.heap.size, 0, none⟩ 1 1 [.int .i64 N, .slice sa n ca] rfl rfl hnews (by intro u hu; simp at hu; rcases hu with rfl | rfl <;> rfl) (by decide) (by unfold maxLen; omega) (by omega) hb4 _ rfl ?_; intro g5 cap5 w5 og5 gr5 at5 lt5; have hA5 := hA4.kept (r := vg.ownBlock) ⟨gr5.os, gr5.tape, gr5.output, gr5.size, gr5.block⟩ neA; have v0 := hA5.cell0; have v1 := hA5.cell1; have hB5 := hB4.kept (r := vg.ownBlock) ⟨gr5.os, gr5.tape, gr5.output, gr5.size, gr5.block⟩ neB; have v2 := hB5.c0; have v3 := hB5.f0))
  all_goals
    have gr5' : W4.grownBy w5 vg.ownBlock := ⟨gr5.os, gr5.tape, gr5.output, gr5.size, gr5.block⟩
    have ow5 : w5.ownsRow base 31 2 vw k xw := (ow3.kept g4 (Classical.em _)).kept gr5' (by
      rcases hne with h | h
      · rw [h]; exact Classical.em _
      · exact .inr (fun e => h e.symm))
    have neC : some W1.heap.size ≠ vg.ownBlock := fun e => by have := (lg W1.heap.size e.symm).2; omega
    have hC5 := (hC3.kept g4 (by simp)).kept gr5' neC
    have nw5 := hB5.ne ow5
    have ng5 := hB5.ne og5
    obtain ⟨W6, hW6⟩ : ∃ W6, w5.setCell ⟨B, 0, none⟩ (.slice (some ⟨g5, 0, none⟩) (k + 1) cap5) = W6 := ⟨_, rfl⟩
    have hB6 : Bk W6 B (.slice (some ⟨g5, 0, none⟩) (k + 1) cap5) vw := by rw [← hW6]; exact hB5.set0 _
    have hC6 : Bx W6 W1.heap.size 31 (.int .i64 N) (.slice sb n cb) := by rw [← hW6]; exact (Below.heap_setCell _ _ _ _ nCB).trans hC5
    have ow6 : W6.ownsRow base 31 2 vw k xw := by rw [← hW6]; exact own_set ow5 nw5
    have og6 : W6.ownsRow base 31 2 (.slice (some ⟨g5, 0, none⟩) (k + 1) cap5) (k + 1) (xg ++ [.int .i64 N, .slice sa n ca]) := by rw [← hW6]; exact own_set og5 ng5
    have Z6 : Hid (W6.heap.size = w5.heap.size) := by unfold Hid; rw [← hW6]; simp [World.setCell]
    obtain ⟨W7, hW7, p0, p1, sz7, g7, hN7⟩ := box2 W6 (.int .i64 N) (.slice sb n cb) 31
    have ow7 := ow6.kept g7 (Classical.em _)
    have og7 := og6.kept g7 (Classical.em _)
    have hC7 := hC6.kept g7 (by simp)
    have hB7 := hB6.kept g7 (by simp)
    have r0 := hC6.cell0
    have r1 := hC6.cell1
    have r2 := hB6.c1
    have r3 := hC7.cell0
    have r4 := hC7.cell1
    have r5 := hB7.c1
    have r6 := hB7.f1
    have HH5 : vg.ownBlock = some g5 ∨ W4.heap.size ≤ g5 := by
      rcases at5 with h | h
      · exact .inl h
      · exact .inr (by rw [h]; exact Nat.le_refl _)
    have neG : vw.ownBlock ≠ some g5 := by
      intro e
      rcases HH5 with h | h
      · rcases hne with h' | h'
        · rw [h'] at h; cases h
        · exact h' (h.trans e.symm)
      · have := (lw g5 e).2
        have := G3.size
        have := g4.size
        omega
    have hnews7 : ∀ j u, [Value.int .i64 N, .slice sb n cb][j]? = some u → W7.drew.cell? ((⟨W6.heap.size, 0, none⟩ : Addr).add j) = some u := World.news_of_block (w := W7.drew) (cs := #[.int .i64 N, .slice sb n cb]) hN7
    have ow7d : W7.drew.ownsRow base 31 2 vw k xw := ow7
    have hb7 : base ≤ W7.drew.heap.size := by
      show base ≤ W7.heap.size
      have := G3.size
      have := g4.size
      have := gr5'.size
      have := Z6.out
      have := g7.size
      omega
    have nw7 := hB7.ne ow7
    go_wp2
    go_region_law (first | (refine step_append_lies _ rfl (.tmp 38) (.tmp 40) 28 rfl base 31 i0 (.agg #[.int .i64 0, .slice none 0 0]) 2 32 bUnderRS HI.out.1 HI.out.2.1 HI.out.2.2.1 HI.out.2.2.2 rfl (by decide) _ k xw rfl ow7d ⟨W6.heap.size, 0, none⟩ 1 1 [.int .i64 N, .slice sb n cb] rfl rfl hnews7 (by intro u hu; simp at hu; rcases hu with rfl | rfl <;> rfl) (by decide) (by unfold maxLen; omega) (by omega) hb7 _ rfl ?_; intro g8 cap8 w8 ow8 gr8 at8 lt8; have hB8 := hB7.kept (r := vw.ownBlock) ⟨gr8.os, gr8.tape, gr8.output, gr8.size, gr8.block⟩ nw7; have s2 := hB8.c1; have s3 := hB8.f1))
    all_goals
      have gr8' : W7.grownBy w8 vw.ownBlock := ⟨gr8.os, gr8.tape, gr8.output, gr8.size, gr8.block⟩
      have og8 := og7.kept gr8' (.inr (fun e => neG e.symm))
      have nn8 := hB8.ne ow8
      have nn5 := hB8.ne og8
      have k1 := G3.size
      have k2 := g4.size
      have k3 := gr5'.size
      have k4 := Z6.out
      have k5 := g7.size
      have k6 := sz7.out
      have g58 : g5 ≠ g8 := by
        rcases at8 with h | h
        · intro e; subst e; exact neG h
        · have e : g8 = W7.heap.size := h
          omega
      have f1 : vg.ownBlock = some g5 ∨ w.heap.size ≤ g5 := by
        rcases HH5 with h | h
        · exact .inl h
        · exact .inr (by omega)
      have f2 : vw.ownBlock = some g8 ∨ w.heap.size ≤ g8 := by
        rcases at8 with h | h
        · exact .inl h
        · have e : g8 = W7.heap.size := h
          exact .inr (by omega)
      have GG : Gb (fun j => j = B ∨ vg.ownBlock = some j ∨ vw.ownBlock = some j) w w5 := ((Gb.of G3 (by simp)).grow g4 (by simp)).grow gr5' (fun i e _ => .inr (.inl e))
      have GG6 : Gb (fun j => j = B ∨ vg.ownBlock = some j ∨ vw.ownBlock = some j) w W6 := by rw [← hW6]; exact GG.set ⟨B, 0, none⟩ (.inl rfl) _
      have GG8 := ((GG6.grow g7 (by simp)).grow gr8' (fun i e _ => .inr (.inr e))).set ⟨B, 1, none⟩ (.inl rfl) (.slice (some ⟨g8, 0, none⟩) (k + 1) cap8)
      go_wp2
      go_end0
      exact ⟨rfl, g5, cap5, g8, cap8, hB8.set1 _, own_set og8 nn5, own_set ow8 nn8, g58, f1, f2, GG8⟩


end Go.Proofs.Ytcdefpfnjjahgab
