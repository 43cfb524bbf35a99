/- The statements' own book of answers, as a whole. -/
import Derived.Test.YtcdefpfnjjahgabW32
namespace Go.Proofs.Ytcdefpfnjjahgab
open Go.RowKit
set_option linter.unusedVariables false
set_option linter.unusedSimpArgs false

/-- An answer: its N, how many words, its error, its words. -/
structure Ans where
  N : Int
  c : Nat
  e : Int
  f : Nat → Nat
/-- A row of one's own, or none. -/
def Gr (w : World) (sp : Option Addr) (c : Nat) (f : Nat → Nat) : Prop := (sp = none ∧ c = 0) ∨ ∃ b, sp = some ⟨b, 0, none⟩ ∧ w.rowIs b 22 c (fun k => .int .u64 (f k))
theorem Gr.kept {w w' : World} {sp : Option Addr} {c : Nat} {f : Nat → Nat} (h : Gr w sp c f) (hg : w.grownBy w' none) : Gr w' sp c f := h.imp id (fun ⟨b, h1, h2⟩ => ⟨b, h1, rowIs_kept h2 hg (by simp)⟩)
theorem Gr.wd {w : World} {sp : Option Addr} {c : Nat} {f : Nat → Nat} (h : Gr w sp c f) : Wd w sp c f := fun k hk => by
  rcases h with ⟨_, h0⟩ | ⟨b, h1, h2⟩
  · omega
  · exact ⟨_, h1, by rw [add_mid, Nat.zero_add]; exact h2.cell hk⟩
theorem Gr.lt {w : World} {sp : Option Addr} {c : Nat} {f : Nat → Nat} (h : Gr w sp c f) {a : Addr} (e : sp = some a) : a.block < w.heap.size := by
  rcases h with ⟨h1, _⟩ | ⟨b, h1, h2⟩
  · rw [h1] at e; cases e
  · rw [h1] at e; cases e; exact h2.lt
/-- What is no list of rows and no book is as it was. -/
structure Nr (w w' : World) : Prop where
  os : w'.os = w.os
  tape : w'.tape = w.tape
  output : w'.output = w.output
  size : w.heap.size ≤ w'.heap.size
  block : ∀ k, k < w.heap.size → (∀ cs t z, w.heap[k]? = some (.cells cs t z) → t ≠ 31 ∧ t ≠ 35) → w'.heap[k]? = w.heap[k]?
theorem Nr.row {w w' : World} {b t n : Nat} {F : Nat → Value} (h : Nr w w') (hr : w.rowIs b t n F) (h1 : t ≠ 31) (h2 : t ≠ 35) : w'.rowIs b t n F := hr.of_block (h.block b hr.lt (fun cs t' z e => by
  obtain ⟨c, hc, _⟩ := hr
  rw [hc] at e
  cases e
  exact ⟨h1, h2⟩))
theorem Gr.nr {w w' : World} {sp : Option Addr} {c : Nat} {f : Nat → Nat} (h : Gr w sp c f) (hg : Nr w w') : Gr w' sp c f := h.imp id (fun ⟨b, h1, h2⟩ => ⟨b, h1, hg.row h2 (by decide) (by decide)⟩)
/-- The book with k answers. -/
structure Book (w : World) (B base k : Nat) (An : Nat → Ans) (sg sw : Nat → Option Addr) (L : Nat → Prop) : Prop where
  mem : ∃ vg vw xg xw, (∀ j, (j = B ∨ vg.ownBlock = some j ∨ vw.ownBlock = some j) → L j) ∧ Bk w B vg vw ∧ w.ownsRow base 31 2 vg k xg ∧ w.ownsRow base 31 2 vw k xw ∧ (vg.ownBlock = none ∨ vg.ownBlock ≠ vw.ownBlock) ∧ (∀ i, i < k → xg[i * 2]? = some (.int .i64 (An i).N) ∧ xg[i * 2 + 1]? = some (.slice (sg i) (An i).c (An i).c)) ∧ (∀ i, i < k → xw[i * 2]? = some (.int .i64 (An i).N) ∧ xw[i * 2 + 1]? = some (.slice (sw i) (An i).c (An i).c))
  got : ∀ i, i < k → Gr w (sg i) (An i).c (An i).f
  want : ∀ i, i < k → Gr w (sw i) (An i).c (An i).f
  apart : Apart k sg
  low : ∀ i, i < k → ∀ a, sg i = some a → base ≤ a.block
  wlow : ∀ i, i < k → ∀ a, sw i = some a → base ≤ a.block
  base : base ≤ B
  len : ∀ i, i < k → (An i).c ≤ 1025
theorem Book.lt {w : World} {B base k : Nat} {An : Nat → Ans} {sg sw : Nat → Option Addr} {L : Nat → Prop} (h : Book w B base k An sg sw L) : B < w.heap.size := by
  obtain ⟨vg, vw, xg, xw, _, h1, _⟩ := h.mem
  exact h1.lt
theorem Book.kept {w w' : World} {B base k : Nat} {An : Nat → Ans} {sg sw : Nat → Option Addr} {L : Nat → Prop} (h : Book w B base k An sg sw L) (hg : w.grownBy w' none) : Book w' B base k An sg sw L := by
  obtain ⟨vg, vw, xg, xw, hL, h1, h2, h3, h4, h5, h6⟩ := h.mem
  exact ⟨⟨vg, vw, xg, xw, hL, h1.kept hg (by simp), h2.kept hg (Classical.em _), h3.kept hg (Classical.em _), h4, h5, h6⟩, fun i hi => (h.got i hi).kept hg, fun i hi => (h.want i hi).kept hg, h.apart, h.low, h.wlow, h.base, h.len⟩
/-- .. and under a store into a row of another kind. -/
theorem Book.other {w : World} {B base k g t n o : Nat} {An : Nat → Ans} {sg sw : Nat → Option Addr} {F : Nat → Value} {L : Nat → Prop} (h : Book w B base k An sg sw L) (hr : w.rowIs g t n F) (h1 : t ≠ 31) (h2 : t ≠ 35) (h3 : t ≠ 22) (x : Value) : Book (w.setCell ⟨g, o, none⟩ x) B base k An sg sw L := by
  obtain ⟨c, hc, _⟩ := hr
  obtain ⟨vg, vw, xg, xw, kL, k1, k2, k3, k4, k5, k6⟩ := h.mem
  have nB : B ≠ g := fun e => by
    rw [← e, show w.heap[B]? = _ from k1] at hc
    simp only [Option.some.injEq, Obj.cells.injEq] at hc
    exact h2 hc.2.1.symm
  have nR : ∀ {v : Value} {xs : List Value}, w.ownsRow base 31 2 v k xs → some g ≠ v.ownBlock := fun ho e => by
    rcases ho.2 with ⟨rfl, _⟩ | ⟨b, cap, cur, rfl, _, hb, _⟩
    · cases e
    · cases e
      rw [hc] at hb
      simp only [Option.some.injEq, Obj.cells.injEq] at hb
      exact h1 hb.2.1
  have nG : ∀ {sp : Option Addr} {c : Nat} {f : Nat → Nat}, Gr w sp c f → Gr (w.setCell ⟨g, o, none⟩ x) sp c f := fun hh => hh.imp id (fun ⟨b, e1, e2⟩ => ⟨b, e1, World.rowIs.setOther e2 (a := ⟨g, o, none⟩) (fun e => by
    obtain ⟨c', hc', _⟩ := e2
    have e' : b = g := e
    rw [e', hc] at hc'
    simp only [Option.some.injEq, Obj.cells.injEq] at hc'
    exact h3 hc'.2.1) x⟩)
  exact ⟨⟨vg, vw, xg, xw, kL, (Below.heap_setCell _ _ _ _ nB).trans k1, own_set k2 (nR k2), own_set k3 (nR k3), k4, k5, k6⟩, fun i hi => nG (h.got i hi), fun i hi => nG (h.want i hi), h.apart, h.low, h.wlow, h.base, h.len⟩
/-- .. and where a row of words below the book's base is written over. -/
theorem Book.wiped {w w' : World} {B base k g n : Nat} {An : Nat → Ans} {sg sw : Nat → Option Addr} {L : Nat → Prop} {F : Nat → Value} (h : Book w B base k An sg sw L) (hr : w.rowIs g 22 n F) (hlt : g < base) (hg : w.grownBy w' (some g)) : Book w' B base k An sg sw L := by
  obtain ⟨c, hc, _⟩ := hr
  obtain ⟨vg, vw, xg, xw, kL, k1, k2, k3, k4, k5, k6⟩ := h.mem
  have nB : some B ≠ some g := fun e => by have := Option.some.inj e; have := h.base; omega
  have nR : ∀ {v : Value} {xs : List Value}, w.ownsRow base 31 2 v k xs → v.ownBlock = none ∨ v.ownBlock ≠ some g := fun ho => .inr (fun e => by have := (ho.lt g e).1; omega)
  have nG : ∀ {sp : Option Addr} {c : Nat} {f : Nat → Nat}, Gr w sp c f → (∀ a, sp = some a → base ≤ a.block) → Gr w' sp c f := fun hh hl => hh.imp id (fun ⟨b, e1, e2⟩ => ⟨b, e1, rowIs_kept e2 hg (fun e => by have := Option.some.inj e; have h2 : base ≤ b := hl _ e1; omega)⟩)
  exact ⟨⟨vg, vw, xg, xw, kL, k1.kept hg nB, k2.kept hg (nR k2), k3.kept hg (nR k3), k4, k5, k6⟩, fun i hi => nG (h.got i hi) (h.low i hi), fun i hi => nG (h.want i hi) (h.wlow i hi), h.apart, h.low, h.wlow, h.base, h.len⟩
theorem Book.new (w : World) (base : Nat) (An : Nat → Ans) (sg sw : Nat → Option Addr) (L : Nat → Prop) (hL : L w.heap.size) (hb : base ≤ w.heap.size) : Book (w.alloc (.cells #[.slice none 0 0, .slice none 0 0, .bool false] 35)) w.heap.size base 0 An sg sw L :=
  ⟨⟨_, _, [], [], (fun j h => by rcases h with rfl | h | h; exact hL; cases h; cases h), heap_alloc_new w _, World.ownsRow_nil _ _ _ _, World.ownsRow_nil _ _ _ _, .inl rfl, fun i hi => absurd hi (Nat.not_lt_zero _), fun i hi => absurd hi (Nat.not_lt_zero _)⟩, fun i hi => absurd hi (Nat.not_lt_zero _), fun i hi => absurd hi (Nat.not_lt_zero _), fun i j hi => absurd hi (Nat.not_lt_zero _), fun i hi => absurd hi (Nat.not_lt_zero _), fun i hi => absurd hi (Nat.not_lt_zero _), hb, fun i hi => absurd hi (Nat.not_lt_zero _)⟩
/-- The book's blocks: at first; and behind an answer. -/
def L0 (a : Nat) : Nat → Prop := fun j => j = a
def Lnext (L : Nat → Prop) (a b : Nat) : Nat → Prop := fun j => L j ∨ (a ≤ j ∧ j < b)
def ext {α : Type} (k : Nat) (x : α) (F : Nat → α) : Nat → α := fun i => if i = k then x else F i
theorem ext_at {α : Type} (k : Nat) (x : α) (F : Nat → α) : ext k x F k = x := if_pos rfl
theorem ext_old {α : Type} {k i : Nat} (x : α) (F : Nat → α) (h : i < k) : ext k x F i = F i := if_neg (by omega)
theorem list2 {k : Nat} {xs : List Value} {An : Nat → Ans} {sg : Nat → Option Addr} (hl : xs.length = k * 2) (a : Ans) (sp : Option Addr) (h : ∀ i, i < k → xs[i * 2]? = some (.int .i64 (An i).N) ∧ xs[i * 2 + 1]? = some (.slice (sg i) (An i).c (An i).c)) :
    ∀ i, i < k + 1 → (xs ++ [.int .i64 a.N, .slice sp a.c a.c])[i * 2]? = some (.int .i64 (ext k a An i).N) ∧ (xs ++ [.int .i64 a.N, .slice sp a.c a.c])[i * 2 + 1]? = some (.slice (ext k sp sg i) (ext k a An i).c (ext k a An i).c) := fun i hi => by
  by_cases e : i < k
  · rw [ext_old a An e, ext_old sp sg e, List.getElem?_append_left (by omega), List.getElem?_append_left (by omega)]
    exact h i e
  · obtain rfl : i = k := by omega
    rw [ext_at, ext_at, List.getElem?_append_right (by omega), List.getElem?_append_right (by omega), show i * 2 - xs.length = 0 by omega, show i * 2 + 1 - xs.length = 1 by omega]
    exact ⟨rfl, rfl⟩

set_option maxRecDepth 100000 in
set_option maxHeartbeats 4000000 in
theorem bookAdds (B base k : Nat) (An : Nat → Ans) (sg sw : Nat → Option Addr) (hk : k ≤ 1000) (a : Ans) (ha : a.c ≤ 1025) (sp sq : Option Addr) (L : Nat → Prop) (w : World) (h : Book w B base k An sg sw L) (h1 : Gr w sp a.c a.f) (h2 : Gr w sq a.c a.f) (hf : ∀ x, sp = some x → base ≤ x.block ∧ ∀ i, i < k → ∀ y, sg i = some y → x.block ≠ y.block) (hq : ∀ x, sq = some x → base ≤ x.block) :
    Calls Try.prog 20 #[.pointer (some ⟨B, 0, none⟩), .agg #[.int .i64 a.N, .slice sp a.c a.c], .int .i64 a.e, .agg #[.int .i64 a.N, .slice sq a.c a.c], .int .i64 a.e] w fun e w' => e = .returned (.tuple #[]) ∧ Book w' B base (k + 1) (ext k a An) (ext k sp sg) (ext k sq sw) (Lnext L w.heap.size w'.heap.size) ∧ Nr w w' ∧ Below base w w' ∧ Gb L w w' := by
  obtain ⟨vg, vw, xg, xw, kL, k1, k2, k3, k4, k5, k6⟩ := h.mem
  refine (addsT B base a.N a.c a.c a.c k sp sq a.f (by omega) a.e w h1.wd h2.wd vg vw xg xw k1 k2 k3 hk k4 (by have := h.base; have := k1.lt; omega)).mono ?_
  rintro e w' ⟨rfl, g5, c5, g8, c8, b1, b2, b3, b4, b5, b6, b7⟩
  have nr : Nr w w' := ⟨b7.os, b7.tape, b7.output, b7.size, fun j hj hn => b7.block j hj (fun hS => by
    rcases hS with rfl | e | e
    · exact (hn _ _ _ (show w.heap[j]? = _ from k1)).2 rfl
    · rcases k2.2 with ⟨rfl, _⟩ | ⟨g, cap, cur, rfl, _, hg, _⟩
      · cases e
      · cases e; exact (hn _ _ _ hg).1 rfl
    · rcases k3.2 with ⟨rfl, _⟩ | ⟨g, cap, cur, rfl, _, hg, _⟩
      · cases e
      · cases e; exact (hn _ _ _ hg).1 rfl)⟩
  have hL' : ∀ j, (j = B ∨ (Value.slice (some ⟨g5, 0, none⟩) (k + 1) c5).ownBlock = some j ∨ (Value.slice (some ⟨g8, 0, none⟩) (k + 1) c8).ownBlock = some j) → L j ∨ (w.heap.size ≤ j ∧ j < w'.heap.size) := fun j hj => by
    rcases hj with e | e | e
    · exact .inl (kL j (.inl e))
    · cases e
      rcases b5 with h | h
      · exact .inl (kL _ (.inr (.inl h)))
      · exact .inr ⟨h, (b2.lt g5 rfl).2⟩
    · cases e
      rcases b6 with h | h
      · exact .inl (kL _ (.inr (.inr h)))
      · exact .inr ⟨h, (b3.lt g8 rfl).2⟩
  refine ⟨rfl, ⟨⟨_, _, _, _, hL', b1, b2, b3, .inr (fun e => b4 (by simpa [Value.ownBlock] using e)), list2 k2.1 a sp k5, list2 k3.1 a sq k6⟩, ?_, ?_, ?_, ?_, ?_, h.base, ?_⟩, nr, ⟨b7.os, b7.tape, b7.output, b7.size, fun j hj => b7.block j (by have := h.base; have := k1.lt; omega) (fun hS => by
    have := h.base
    rcases hS with rfl | e | e
    · omega
    · have := (k2.lt j e).1; omega
    · have := (k3.lt j e).1; omega)⟩, ⟨b7.os, b7.tape, b7.output, b7.size, fun j hj hn => b7.block j hj (fun hS => hn (kL j hS))⟩⟩
  · intro i hi
    by_cases e : i < k
    · rw [ext_old _ _ e, ext_old _ _ e]; exact (h.got i e).nr nr
    · obtain rfl : i = k := by omega
      rw [ext_at, ext_at]; exact h1.nr nr
  · intro i hi
    by_cases e : i < k
    · rw [ext_old _ _ e, ext_old _ _ e]; exact (h.want i e).nr nr
    · obtain rfl : i = k := by omega
      rw [ext_at, ext_at]; exact h2.nr nr
  · intro i j hi hj hij x y hx hy
    by_cases ei : i < k
    · rw [ext_old _ _ ei] at hx
      by_cases ej : j < k
      · rw [ext_old _ _ ej] at hy; exact h.apart i j ei ej hij x y hx hy
      · obtain rfl : j = k := by omega
        rw [ext_at] at hy
        exact fun e => (hf y hy).2 i ei x hx e.symm
    · obtain rfl : i = k := by omega
      rw [ext_at] at hx
      have ej : j < i := by omega
      rw [ext_old _ _ ej] at hy
      exact (hf x hx).2 j ej y hy
  · intro i hi x hx
    by_cases e : i < k
    · rw [ext_old _ _ e] at hx; exact h.low i e x hx
    · obtain rfl : i = k := by omega
      rw [ext_at] at hx; exact (hf x hx).1
  · intro i hi x hx
    by_cases e : i < k
    · rw [ext_old _ _ e] at hx; exact h.wlow i e x hx
    · obtain rfl : i = k := by omega
      rw [ext_at] at hx; exact hq x hx
  · intro i hi
    by_cases e : i < k
    · rw [ext_old _ _ e]; exact h.len i e
    · obtain rfl : i = k := by omega
      rw [ext_at]; exact ha
/-- Two cells of a list of rows. -/
theorem listIs_of {w : World} {base k g cap : Nat} {xs : List Value} {An : Nat → Ans} {sg : Nat → Option Addr} (h : w.ownsRow base 31 2 (.slice (some ⟨g, 0, none⟩) k cap) k xs) (hx : ∀ i, i < k → xs[i * 2]? = some (.int .i64 (An i).N) ∧ xs[i * 2 + 1]? = some (.slice (sg i) (An i).c (An i).c)) :
    ListIs w g k (fun i => (An i).N) sg (fun i => (An i).c) (fun i => (An i).c) := by
  have hc := h.cells (g := g) rfl
  refine ⟨?_, fun i hi => ⟨?_, ?_⟩⟩
  · rcases h.2 with ⟨e, _⟩ | ⟨g', cap', cur, e, _, hg, _⟩
    · cases e
    · injection e with e1 _ _
      injection e1 with e1
      injection e1 with e1
      subst e1
      exact ⟨cur, hg⟩
  · have := hc _ _ (hx i hi).1
    rwa [add_mid, Nat.zero_add] at this
  · have := hc _ _ (hx i hi).2
    rwa [add_mid, Nat.zero_add] at this
theorem own_some {w : World} {base k : Nat} {v : Value} {xs : List Value} (h : w.ownsRow base 31 2 v k xs) (hk : 0 < k) : ∃ g cap, v = .slice (some ⟨g, 0, none⟩) k cap := by
  rcases h.2 with ⟨_, h0⟩ | ⟨g, cap, cur, e, _⟩
  · omega
  · exact ⟨g, cap, e⟩
theorem bookStands (B base k : Nat) (An : Nat → Ans) (sg sw : Nat → Option Addr) (L : Nat → Prop) (hk : k ≤ 1000) (hk0 : 0 < k) (w : World) (h : Book w B base k An sg sw L) :
    Calls Try.prog 17 #[.pointer (some ⟨B, 0, none⟩)] w fun e w' => e = .returned (.bool true) ∧ Below base w w' := by
  obtain ⟨vg, vw, xg, xw, kL, k1, k2, k3, k4, k5, k6⟩ := h.mem
  obtain ⟨bg, cg, rfl⟩ := own_some k2 hk0
  obtain ⟨bw, cw, rfl⟩ := own_some k3 hk0
  exact standsT B bg bw k cg cw base (fun i => (An i).N) sg sw (fun i => (An i).c) (fun i => (An i).c) (fun i => (An i).f) hk h.len w k1 (listIs_of k2 k5) (listIs_of k3 k6) h.got (fun j hj => (h.want j hj).wd) h.apart h.low (by have := h.base; have := k1.lt; omega)
end Go.Proofs.Ytcdefpfnjjahgab
