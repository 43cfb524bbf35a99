/- Rows of words in memory: what may be read, what is a call's own, what a call leaves. Nothing of the program in it. -/
import Derived.WalkKit
import Derived.WalkLawsBesides
import Derived.WalkSpells
import Derived.Below
import Derived.Deep.OwnRows
import Derived.Laws.CopyOwn
import Derived.Laws.ResultCell
import Derived.Laws.Rows
import Derived.StillTailTactics
import Derived.Test.YtjacoifhjfipaaaPack
namespace Go.Proofs.Ytjacoifhjfipaaa
open Go.RowKit
set_option linter.unusedVariables false

/-- The words f can be read from the address on. -/
def Wd (w : World) (sp : Option Addr) (n : Nat) (f : Nat → Nat) : Prop := ∀ k, k < n → ∃ a, sp = some a ∧ w.cell? (a.add k) = some (.int .u64 (f k))
/-- The bits g can be read from the address on. -/
def Bd (w : World) (sp : Option Addr) (n : Nat) (g : Nat → Bool) : Prop := ∀ k, k < n → ∃ a, sp = some a ∧ w.cell? (a.add k) = some (.bool (g k))
/-- A row of words of one's own that holds the bits p. -/
def Row (w : World) (t : TypeId) (b n : Nat) (p : Nat → Bool) : Prop := w.rowIs b t n (fun k => .int .u64 (Pk.pack p k))

theorem add_mid (b o j : Nat) : (⟨b, o, none⟩ : Addr).add j = ⟨b, o + j, none⟩ := by unfold Addr.add; split <;> simp_all

theorem cell_lt {w : World} {a : Addr} {v : Value} (h : w.cell? a = some v) : a.block < w.heap.size := by
  by_cases hlt : a.block < w.heap.size
  · exact hlt
  · have : w.heap[a.block]? = none := by simp; omega
    simp [World.cell?, this] at h

theorem rowIs_kept {w w' : World} {b : Nat} {t : TypeId} {n : Nat} {f : Nat → Value} {r : Option Nat} (h : w.rowIs b t n f) (hg : w.grownBy w' r) (hne : some b ≠ r) : w'.rowIs b t n f :=
  h.of_block (hg.block b h.lt hne)
theorem Row.kept {w w' : World} {b : Nat} {t : TypeId} {n : Nat} {p : Nat → Bool} {r : Option Nat} (h : Row w t b n p) (hg : w.grownBy w' r) (hne : some b ≠ r) : Row w' t b n p := rowIs_kept h hg hne

theorem Wd.kept {w w' : World} {sp : Option Addr} {n : Nat} {f : Nat → Nat} {r : Option Nat} (h : Wd w sp n f) (hg : w.grownBy w' r) (hne : ∀ a, sp = some a → some a.block ≠ r) : Wd w' sp n f := fun k hk => by
  obtain ⟨a, ha, hc⟩ := h k hk
  have hb : (a.add k).block = a.block := by unfold Addr.add; split <;> simp_all
  exact ⟨a, ha, hg.cell hc (by rw [hb]; exact hne a ha)⟩
theorem Bd.kept {w w' : World} {sp : Option Addr} {n : Nat} {f : Nat → Bool} {r : Option Nat} (h : Bd w sp n f) (hg : w.grownBy w' r) (hne : ∀ a, sp = some a → some a.block ≠ r) : Bd w' sp n f := fun k hk => by
  obtain ⟨a, ha, hc⟩ := h k hk
  have hb : (a.add k).block = a.block := by unfold Addr.add; split <;> simp_all
  exact ⟨a, ha, hg.cell hc (by rw [hb]; exact hne a ha)⟩
theorem Wd.at {w : World} {a : Addr} {n : Nat} {f : Nat → Nat} (h : Wd w (some a) n f) {k : Nat} (hk : k < n) : w.cell? (a.add k) = some (.int .u64 (f k)) := by
  obtain ⟨a', ha, hc⟩ := h k hk
  cases ha
  exact hc
theorem Bd.at {w : World} {a : Addr} {n : Nat} {f : Nat → Bool} (h : Bd w (some a) n f) {k : Nat} (hk : k < n) : w.cell? (a.add k) = some (.bool (f k)) := by
  obtain ⟨a', ha, hc⟩ := h k hk
  cases ha
  exact hc
theorem Wd.some {w : World} {sp : Option Addr} {n : Nat} {f : Nat → Nat} (h : Wd w sp n f) (hn : 0 < n) : ∃ a, sp = Option.some a := by
  obtain ⟨a, ha, _⟩ := h 0 hn
  exact ⟨a, ha⟩
theorem Bd.some {w : World} {sp : Option Addr} {n : Nat} {f : Nat → Bool} (h : Bd w sp n f) (hn : 0 < n) : ∃ a, sp = Option.some a := by
  obtain ⟨a, ha, _⟩ := h 0 hn
  exact ⟨a, ha⟩
theorem Wd.congr {w : World} {sp : Option Addr} {n : Nat} {f g : Nat → Nat} (h : Wd w sp n f) (e : ∀ k, k < n → f k = g k) : Wd w sp n g := fun k hk => by
  obtain ⟨a, ha, hc⟩ := h k hk
  exact ⟨a, ha, by rw [← e k hk]; exact hc⟩

theorem Row.wd {w : World} {t : TypeId} {b n : Nat} {p : Nat → Bool} (h : Row w t b n p) : Wd w (Option.some ⟨b, 0, none⟩) n (Pk.pack p) := fun k hk => ⟨_, rfl, by
  have := h.cell hk
  rw [add_mid, Nat.zero_add]
  exact this⟩
theorem Row.congr {w : World} {t : TypeId} {b n : Nat} {p q : Nat → Bool} (h : Row w t b n p) (e : ∀ i, i < 64 * n → p i = q i) : Row w t b n q :=
  World.rowIs.congr h fun k hk => by rw [Pk.pack_congr (p := p) (q := q) fun j hj => e _ (by omega)]
/-- A word of the row is written. -/
theorem Row.set {w : World} {t : TypeId} {b n : Nat} {p q : Nat → Bool} {k : Nat} {x : Nat} (h : Row w t b n p) (hx : x = Pk.pack q k) (e : ∀ i, i < 64 * n → i / 64 ≠ k → p i = q i) : Row (w.setCell ⟨b, k, none⟩ (.int .u64 x)) t b n q :=
  (World.rowIs.set h k _).congr fun j hj => by
    by_cases hjk : j = k
    · subst hjk; simp [hx]
    · simp only [hjk, if_false]
      rw [Pk.pack_congr (p := p) (q := q) fun i hi => e _ (by omega) (by omega)]

theorem gb_alloc {w w' : World} {r : Option Nat} (h : w.grownBy w' r) (o : Obj) : w.grownBy (w'.alloc o) r :=
  ⟨h.os, h.tape, h.output, Nat.le_trans h.size (by simp), fun k hk hne => (Below.heap_alloc _ _ _ (Nat.lt_of_lt_of_le hk h.size)).trans (h.block k hk hne)⟩
theorem gb_drew {w w' : World} {r : Option Nat} (h : w.grownBy w' r) : w.grownBy w'.drew r := ⟨h.os, h.tape, h.output, h.size, h.block⟩
theorem gb_drewN {w w' : World} {r : Option Nat} (h : w.grownBy w' r) (n : Nat) : w.grownBy (w'.drewN n) r := ⟨h.os, h.tape, h.output, h.size, h.block⟩
theorem gb_set {w w' : World} {b : Nat} (h : w.grownBy w' (some b)) (i : Nat) (v : Value) : w.grownBy (w'.setCell ⟨b, i, none⟩ v) (some b) :=
  ⟨h.os, h.tape, h.output, by simpa [World.setCell] using h.size, fun k hk hne => (Below.heap_setCell _ _ _ _ (fun e => hne (by rw [e]))).trans (h.block k hk hne)⟩
/-- A store into a block that was not there at first. -/
theorem gb_new {w w' : World} {r : Option Nat} (h : w.grownBy w' r) {a : Addr} (hb : w.heap.size ≤ a.block) (v : Value) : w.grownBy (w'.setCell a v) r :=
  ⟨h.os, h.tape, h.output, by simpa [World.setCell] using h.size, fun k hk hne => (Below.heap_setCell _ _ _ _ (by omega)).trans (h.block k hk hne)⟩
theorem gb_trans {a b c : World} {r : Option Nat} (h : a.grownBy b r) (k : b.grownBy c r) : a.grownBy c r :=
  ⟨k.os.trans h.os, k.tape.trans h.tape, k.output.trans h.output, Nat.le_trans h.size k.size, fun i hi hne => (k.block i (Nat.lt_of_lt_of_le hi h.size) hne).trans (h.block i hi hne)⟩
theorem gb_none {a b c : World} {r : Option Nat} (h : a.grownBy b r) (k : b.grownBy c none) : a.grownBy c r := gb_trans h ⟨k.os, k.tape, k.output, k.size, fun i hi _ => k.block i hi (by simp)⟩
/-- What wrote only to a block that was not there at first has kept all that was. -/
theorem gb_past {a b c : World} {r : Option Nat} {g : Nat} (h : a.grownBy b r) (k : b.grownBy c (some g)) (hg : a.heap.size ≤ g) : a.grownBy c r :=
  ⟨k.os.trans h.os, k.tape.trans h.tape, k.output.trans h.output, Nat.le_trans h.size k.size, fun i hi hne => (k.block i (Nat.lt_of_lt_of_le hi h.size) (fun e => by cases e; omega)).trans (h.block i hi hne)⟩
theorem gb_below {w w' : World} (h : w.grownBy w' none) : Below w.heap.size w w' := ⟨h.os, h.tape, h.output, h.size, fun k hk => h.block k hk (by simp)⟩

/-- A row copied whole into a row of one's own. -/
theorem run_copy_words {P : Program} (w : World) (dT sT ty elem : TypeId) (hu : P.underlying dT = some (.slice elem)) (hsz : (P.info? elem).map (·.size) = some 1)
    (sp : Option Addr) (n dCap sCap : Nat) (t : TypeId) (g : Nat) (q p : Nat → Bool) (hg : Row w t g n q) (hsrc : Wd w sp n (Pk.pack p)) :
    ∃ w', (Builtin.copy_ #[dT, sT] ty #[.slice (some ⟨g, 0, none⟩) n dCap, .slice sp n sCap]).run P w = .ok (goInt n) w' ∧ Row w' t g n p ∧ w.grownBy w' (some g) := by
  obtain ⟨c, hc, hcn, hcv⟩ := hg
  obtain ⟨cs, hcs⟩ : ∃ cs : List Value, cs = (List.range n).map (fun k => Value.int .u64 (Pk.pack p k)) := ⟨_, rfl⟩
  have hl : cs.length = n := by rw [hcs]; simp
  have hm : Nat.min n n = n := Nat.min_self n
  by_cases h0 : n = 0
  · subst h0
    exact ⟨w, run_copy_none w dT sT ty elem _ _ 0 dCap 0 sCap hu hsz rfl, ⟨c, hc, hcn, fun i hi => absurd hi (Nat.not_lt_zero _)⟩, World.grownBy.refl _ _⟩
  · obtain ⟨ad, hsp⟩ := hsrc.some (by omega)
    subst hsp
    have hsrc' : ∀ j v, cs[j]? = some v → w.cell? (ad.add j) = some v := by
      intro j v hj
      have hjn : j < n := by
        obtain ⟨hlt, _⟩ := List.getElem?_eq_some_iff.1 hj
        omega
      rw [hcs, List.getElem?_map, List.getElem?_range hjn] at hj
      simp at hj
      subst hj
      exact hsrc.at hjn
    have hk := run_copy_row (P := P) w dT sT ty elem g 0 n dCap ad n sCap c t cs hu hsz hc (by rw [hl, hm]) hsrc' (by rw [hl, hcn]; omega) (by
      intro v hv
      rw [hcs, List.mem_map] at hv
      obtain ⟨k, _, rfl⟩ := hv
      rfl)
    rw [hl] at hk
    have e : (List.take 0 c.toList ++ cs ++ List.drop (0 + n) c.toList) = cs := by
      rw [List.take_zero, List.nil_append, List.drop_eq_nil_of_le (by simp [hcn]), List.append_nil]
    rw [e] at hk
    refine ⟨_, hk, ⟨_, setRow_heap w g _ _ t _ hc, by simp [hl], fun i hi => ?_⟩, ⟨rfl, rfl, rfl, by simp [World.setRow], fun k hk hne => setRow_other w g k _ (fun e => hne (by rw [e]))⟩⟩
    rw [hcs]
    simp [hi]

/-- A box of two cells. -/
def Bx (w : World) (g : Nat) (t : TypeId) (x y : Value) : Prop := w.heap[g]? = some (.cells #[x, y] t (0, 0))
theorem Bx.new (w : World) (t : TypeId) (x y : Value) : Bx (w.alloc (.cells #[x, y] t)) w.heap.size t x y := heap_alloc_new w _
theorem Bx.lt {w : World} {g : Nat} {t : TypeId} {x y : Value} (h : Bx w g t x y) : g < w.heap.size := (Array.getElem?_eq_some_iff.1 h).1
theorem Bx.kept {w w' : World} {g : Nat} {t : TypeId} {x y : Value} {r : Option Nat} (h : Bx w g t x y) (hg : w.grownBy w' r) (hne : some g ≠ r) : Bx w' g t x y := (hg.block g h.lt hne).trans h
theorem Bx.cell0 {w : World} {g : Nat} {t : TypeId} {x y : Value} (h : Bx w g t x y) : w.cell? ⟨g, 0, none⟩ = some x := by unfold Bx at h; simp [World.cell?, h]
theorem Bx.cell1 {w : World} {g : Nat} {t : TypeId} {x y : Value} (h : Bx w g t x y) : w.cell? ⟨g, 1, none⟩ = some y := by unfold Bx at h; simp [World.cell?, h]
theorem Bx.free0 {w : World} {g : Nat} {t : TypeId} {x y : Value} (h : Bx w g t x y) : w.frozen? ⟨g, 0, none⟩ = false := by unfold Bx at h; simp [World.frozen?, h]
theorem Bx.free1 {w : World} {g : Nat} {t : TypeId} {x y : Value} (h : Bx w g t x y) : w.frozen? ⟨g, 1, none⟩ = false := by unfold Bx at h; simp [World.frozen?, h]
theorem Bx.set {w : World} {g : Nat} {t : TypeId} {x y : Value} (h : Bx w g t x y) (x' y' : Value) : Bx ((w.setCell ⟨g, 0, none⟩ x').setCell ⟨g, 1, none⟩ y') g t x' y' := by
  unfold Bx at h ⊢
  simp [World.setCell, Array.getElem?_modify, h]

theorem box2 (w : World) (x y : Value) (t : TypeId) : ∃ W1, w.alloc (.cells #[x, y] t) = W1 ∧ W1.cell? ⟨w.heap.size, 0, none⟩ = some x ∧ W1.cell? ⟨w.heap.size, 1, none⟩ = some y ∧ Hid (W1.heap.size = w.heap.size + 1) ∧ w.grownBy W1 none ∧ Bx W1 w.heap.size t x y :=
  ⟨_, rfl, by simp [World.cell?_alloc_at], by simp [World.cell?_alloc_at], by unfold Hid; simp, World.grownBy_alloc _ _ _, Bx.new _ _ _ _⟩

theorem ret_box1 {P : Program} {fn : Func} {R : Ending → World → Prop} {a : Act} {w : World} {p : Tmp} {ty : TypeId} (h : fn.results = #[.cell p ty]) {g : Nat} {t : TypeId} {x y : Value} {fs : Array Field}
    (hu : P.underlying ty = some (.struct fs)) (hi : (P.info? ty).map (·.size) = some 2) (hp : a.tmps.getD p undef = .pointer (some ⟨g, 0, none⟩)) (hg : Bx w g t x y) (hdf : a.defers = []) (hR : R (.returned (.agg #[x, y])) w) :
    bodyPost P fn R .ret a w :=
  bodyPost_ret (results_cell_row h a.tmps w g t #[x, y] (0, 0) (.struct fs) hp hg hu rfl hi) hdf hR
theorem ret_box2 {P : Program} {fn : Func} {R : Ending → World → Prop} {a : Act} {w : World} {p u : Tmp} {ty : TypeId} (h : fn.results = #[.cell p ty, .tmp u]) {g : Nat} {t : TypeId} {x y : Value} {fs : Array Field}
    (hu : P.underlying ty = some (.struct fs)) (hi : (P.info? ty).map (·.size) = some 2) (hp : a.tmps.getD p undef = .pointer (some ⟨g, 0, none⟩)) (hg : Bx w g t x y) (hdf : a.defers = []) (hR : R (.returned (.tuple #[.agg #[x, y], a.tmps.getD u undef])) w) :
    bodyPost P fn R .ret a w := by
  refine bodyPost_ret ?_ hdf hR
  have hp' : a.tmps[p]?.getD undef = .pointer (some ⟨g, 0, none⟩) := by simpa using hp
  simp [results, h, hp', asAddr, run_loadVar_row w g t ty #[x, y] (0, 0) (.struct fs) hg hu rfl hi]
theorem ret_box3 {P : Program} {fn : Func} {R : Ending → World → Prop} {a : Act} {w : World} {p u v : Tmp} {ty : TypeId} (h : fn.results = #[.cell p ty, .tmp u, .tmp v]) {g : Nat} {t : TypeId} {x y : Value} {fs : Array Field}
    (hu : P.underlying ty = some (.struct fs)) (hi : (P.info? ty).map (·.size) = some 2) (hp : a.tmps.getD p undef = .pointer (some ⟨g, 0, none⟩)) (hg : Bx w g t x y) (hdf : a.defers = []) (hR : R (.returned (.tuple #[.agg #[x, y], a.tmps.getD u undef, a.tmps.getD v undef])) w) :
    bodyPost P fn R .ret a w := by
  refine bodyPost_ret ?_ hdf hR
  have hp' : a.tmps[p]?.getD undef = .pointer (some ⟨g, 0, none⟩) := by simpa using hp
  simp [results, h, hp', asAddr, run_loadVar_row w g t ty #[x, y] (0, 0) (.struct fs) hg hu rfl hi]

/-- A region that draws its order, whose first n operations only read, and whose others follow one by one. -/
theorem region_tail {P : Program} {id : Nat} {Q : Exit → Act → World → Prop} {a : Act} {w : World} {l : List Oper} (n : Nat) (hm : P.follows .mixedOrders = true) (hB : Region.lexTailB .any l.toArray n = true)
    (h : wpStill P l.toArray w.drew (fun a' => wpList P l.toArray Q (l.drop n) a' w.drew) (l.take n) a) : (Code.region id l.toArray true).wp P Q a w := wp_region_still_tail n hm hB h

/-- A row may be: m bits in n words, none behind the end. -/
structure MayBe (m n : Nat) (p : Nat → Bool) : Prop where
  le : m ≤ 65538
  words : n = (m + 63) / 64
  tail : ∀ i, m ≤ i → p i = false

end Go.Proofs.Ytjacoifhjfipaaa
