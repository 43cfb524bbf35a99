/- What the statement WordsEach needs besides the calls: numbers, lists of rows in memory. -/
import Derived.Test.YtcdefpfnjjahgacW7
import Derived.Test.YtcdefpfnjjahgacW18
import Derived.Deep.Slices
import Derived.RangeFuncBox
namespace Go.Proofs.Ytcdefpfnjjahgac
open Go.RowKit
set_option linter.unusedVariables false

/-- The shortest of the first rows, and 65538. -/
def mn (L : Nat → Nat) : Nat → Nat
  | 0 => 65538
  | j + 1 => min (mn L j) (L j)
theorem mn_le (L : Nat → Nat) : ∀ j, mn L j ≤ 65538
  | 0 => Nat.le_refl _
  | j + 1 => by have := mn_le L j; rw [mn]; omega
theorem mn_row (L : Nat → Nat) : ∀ j t, t < j → mn L j ≤ L t
  | j + 1, t, h => by
    rw [mn]
    by_cases e : t = j
    · subst e; omega
    · have := mn_row L j t (by omega); omega
theorem mn_if (L : Nat → Nat) (j : Nat) : (if L j < mn L j then (L j : Int) else (mn L j : Int)) = (mn L (j + 1) : Int) := by
  rw [mn]
  by_cases h : L j < mn L j
  · rw [if_pos h]; omega
  · rw [if_neg h]; omega

/-- What is told of a place where x rows have a 1, when the numbers below v were asked. -/
def tv (x v : Nat) : Nat := if x < v then 1 + 100 * x else 0
theorem tv_hit (v : Nat) : tv v v + 1 + 100 * v = tv v (v + 1) := by unfold tv; rw [if_neg (by omega), if_pos (by omega), Nat.zero_add]
theorem tv_same {x v : Nat} (h : x ≠ v) : tv x (v + 1) = tv x v := by
  unfold tv
  by_cases h1 : x < v
  · rw [if_pos h1, if_pos (by omega)]
  · rw [if_neg h1, if_neg (by omega)]
theorem tv_le (x v : Nat) (hx : x ≤ 15) : tv x v ≤ 1501 := by unfold tv; split <;> omega

theorem same16 : ∀ x v : Fin 16, ((((true && (if v.val.testBit 0 then x.val.testBit 0 else !x.val.testBit 0)) && (if v.val.testBit 1 then x.val.testBit 1 else !x.val.testBit 1)) && (if v.val.testBit 2 then x.val.testBit 2 else !x.val.testBit 2)) && (if v.val.testBit 3 then x.val.testBit 3 else !x.val.testBit 3)) = decide (x.val = v.val) := by decide
/-- The four digits are those of v just if the number is v. -/
theorem isN_cn (P : Nat → Nat → Bool) (k v t : Nat) (hk : k ≤ 15) (hv : v ≤ 15) : isN (dgF P k) v 4 t = decide (cn P k t = v) := by
  have h := cn_le P k t
  have := same16 ⟨cn P k t, by omega⟩ ⟨v, by omega⟩
  simp only [isN, dgF]
  exact this

/-- The list in hand: its j rows lie in xs, each with the bits P. -/
def RowsIn (w : World) (B : Nat) (m c : Nat) (P : Nat → Nat → Bool) (xs : List Value) (j : Nat) : Prop :=
  ∀ t, t < j → ∃ b, xs[t * 2]? = some (.int .i64 m) ∧ xs[t * 2 + 1]? = some (.slice (some ⟨b, 0, none⟩) c c) ∧ Row w 40 b c (P t) ∧ B ≤ b

theorem own_ne {w : World} {base : Nat} {v : Value} {n b c : Nat} {xs : List Value} {p : Nat → Bool} (h : w.ownsRow base 28 2 v n xs) (hr : Row w 40 b c p) : some b ≠ v.ownBlock := by
  rcases h.2 with ⟨rfl, _⟩ | ⟨g, cap, cur, rfl, _, hg, _⟩
  · simp [Value.ownBlock]
  · obtain ⟨d, hd, _⟩ := hr
    intro e
    simp only [Value.ownBlock, Option.some.injEq] at e
    subst e
    rw [hd] at hg
    simp at hg

theorem RowsIn.kept {w w' : World} {B m c j base n : Nat} {P : Nat → Nat → Bool} {xs : List Value} {v : Value} (h : RowsIn w B m c P xs j) (ho : w.ownsRow base 28 2 v n xs) (hg : w.grownBy w' v.ownBlock) : RowsIn w' B m c P xs j := fun t ht => by
  obtain ⟨b, h1, h2, h3, h4⟩ := h t ht
  exact ⟨b, h1, h2, h3.kept hg (own_ne ho h3), h4⟩
theorem RowsIn.keptN {w w' : World} {B m c j : Nat} {P : Nat → Nat → Bool} {xs : List Value} (h : RowsIn w B m c P xs j) (hg : w.grownBy w' none) : RowsIn w' B m c P xs j := fun t ht => by
  obtain ⟨b, h1, h2, h3, h4⟩ := h t ht
  exact ⟨b, h1, h2, h3.kept hg (by simp), h4⟩
theorem RowsIn.more {w : World} {B m c j b : Nat} {P : Nat → Nat → Bool} {xs : List Value} (h : RowsIn w B m c P xs j) (hl : xs.length = j * 2) (hr : Row w 40 b c (P j)) (hb : B ≤ b) :
    RowsIn w B m c P (xs ++ [.int .i64 m, .slice (some ⟨b, 0, none⟩) c c]) (j + 1) := fun t ht => by
  by_cases e : t = j
  · subst e
    refine ⟨b, ?_, ?_, hr, hb⟩
    · rw [List.getElem?_append_right (by omega), hl]; simp
    · rw [List.getElem?_append_right (by omega), hl, show t * 2 + 1 - t * 2 = 1 by omega]; rfl
  · obtain ⟨b', h1, h2, h3, h4⟩ := h t (by omega)
    exact ⟨b', by rw [List.getElem?_append_left (by omega)]; exact h1, by rw [List.getElem?_append_left (by omega)]; exact h2, h3, h4⟩

/-- From the list in hand to rows in memory. -/
theorem RowsIn.rws {w : World} {B m c k base g cap : Nat} {P : Nat → Nat → Bool} {xs : List Value} (h : RowsIn w B m c P xs k) (ho : w.ownsRow base 28 2 (.slice (some ⟨g, 0, none⟩) k cap) k xs) (hc : c ≤ 1025) :
    ∃ bs : Nat → Nat, Rws w g k (fun j => ⟨m, some ⟨bs j, 0, none⟩, c, c, Pk.pack (P j)⟩) := by
  obtain ⟨bs, hbs⟩ := Go.Deep.choose_lt (α := Nat) (p := fun t b => xs[t * 2]? = some (.int .i64 m) ∧ xs[t * 2 + 1]? = some (.slice (some ⟨b, 0, none⟩) c c) ∧ Row w 40 b c (P t) ∧ B ≤ b) h
  refine ⟨bs, fun j hj => ?_⟩
  obtain ⟨h1, h2, h3, _⟩ := hbs j hj
  refine ⟨by rw [ho.cellAt (j * 2) (by omega)]; exact h1, by rw [ho.cellAt (j * 2 + 1) (by omega)]; exact h2, h3.wd, fun k _ => Pk.pack_lt _ _, by show c ≤ _; omega⟩

/-- Lists of lists of bits that can be read. -/
def Gd (w : World) (sp : Option Addr) (K : Nat) (AA : Nat → Option Addr) (L C : Nat → Nat) (BB : Nat → Nat → Bool) : Prop :=
  ∀ r, r < K → ∃ a, sp = some a ∧ w.cell? (a.add r) = some (.slice (AA r) (L r) (C r)) ∧ L r ≤ C r ∧ C r ≤ 9223372036854775807 ∧ Bd w (AA r) (L r) (BB r)
theorem Gd.kept {w w' : World} {sp : Option Addr} {K : Nat} {AA : Nat → Option Addr} {L C : Nat → Nat} {BB : Nat → Nat → Bool} (h : Gd w sp K AA L C BB) (hg : w.grownBy w' none) : Gd w' sp K AA L C BB := fun r hr => by
  obtain ⟨a, h1, h2, h3, h4, h5⟩ := h r hr
  exact ⟨a, h1, hg.cell h2 (by simp), h3, h4, h5.kept hg (by simp)⟩

theorem gb_own {a b c : World} {r : Option Nat} (h : a.grownBy b none) (k : b.grownBy c r) (hr : ∀ i, r = some i → a.heap.size ≤ i) : a.grownBy c none :=
  ⟨k.os.trans h.os, k.tape.trans h.tape, k.output.trans h.output, Nat.le_trans h.size k.size, fun i hi hne => (k.block i (Nat.lt_of_lt_of_le hi h.size) (fun e => by have := hr i e.symm; omega)).trans (h.block i hi hne)⟩
theorem tOfF (P : Nat → Nat → Bool) (k m c : Nat) (ml : m ≤ 65538) (hc : c = (m + 63) / 64) (M : ∀ j, MayBe m c (P j)) (d : Nat) : MayBe m c (dgF P k d) :=
  ⟨ml, hc, fun i hi => by
    have : ∀ k, cn P k i = 0 := by
      intro k
      induction k with
      | zero => rfl
      | succ k ih => rw [cn, ih, (M k).tail i hi]; rfl
    unfold dgF
    rw [this]
    simp⟩

theorem infoR3 : (Try.prog.info? 28).map (fun i => (i.zero, i.size, i.bytes)) = some (some (.agg #[.int .i64 0, .slice none 0 0]), 2, 32) := by kernel_rfl
theorem infoI : (Try.prog.info? 3).map (fun i => (i.zero, i.size, i.bytes)) = some (some (.int .i64 0), 1, 8) := by kernel_rfl
theorem underRS : Try.prog.underlying 25 = some (.slice 28) := by kernel_rfl
theorem underIS : Try.prog.underlying 35 = some (.slice 3) := by kernel_rfl

theorem new2 (w : World) (x y : Value) (t : TypeId) : ∀ j u, [x, y][j]? = some u → (w.alloc (.cells #[x, y] t)).cell? ((⟨w.heap.size, 0, none⟩ : Addr).add j) = some u := by
  intro j u hj
  rw [add_mid, Nat.zero_add]
  match j, hj with
  | 0, hj => simp at hj; subst hj; simp [World.cell?_alloc_at]
  | 1, hj => simp at hj; subst hj; simp [World.cell?_alloc_at]

end Go.Proofs.Ytcdefpfnjjahgac
