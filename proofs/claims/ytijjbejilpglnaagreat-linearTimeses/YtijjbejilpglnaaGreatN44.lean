/- The book of answers: adds. -/
import Derived.Test.YtijjbejilpglnaaGreatN43
namespace Go.Proofs.YtijjbejilpglnaaGreat
open Go.RowKit
set_option linter.unusedVariables false
set_option linter.unusedSimpArgs false
set_option maxRecDepth 100000

namespace Ln
/-- Two values' blocks are not one. -/
def Nb (x y : Value) : Prop := ∀ g, x.ownBlock = some g → y.ownBlock ≠ some g
def nv : Value := .slice none 0 0
/-- The book: what was answered (V), what it must be (U), both readable as P. -/
structure Bk (w : World) (base b : Nat) (gv uv : Value) (V U : List Value) (P : Nat → List Pt) : Prop where
  box : Bo w b 35 #[gv, uv, .bool false]
  hb : b < base
  hbw : base ≤ w.heap.size
  got : w.ownsRow base 23 1 gv V.length V
  want : w.ownsRow base 23 1 uv V.length U
  lenU : U.length = V.length
  ev : ∀ i, i < V.length → w.ownsRow base 25 2 (V.getD i nv) (P i).length (fl (P i))
  eu : ∀ i, i < V.length → w.ownsRow base 25 2 (U.getD i nv) (P i).length (fl (P i))
  ap : ∀ i j, i < j → j < V.length → Nb (V.getD i nv) (V.getD j nv)
  ng : Nb gv uv
  gV : ∀ i, i < V.length → Nb gv (V.getD i nv)
  gU : ∀ i, i < V.length → Nb gv (U.getD i nv)
  uV : ∀ i, i < V.length → Nb uv (V.getD i nv)
  uU : ∀ i, i < V.length → Nb uv (U.getD i nv)
theorem Nb.ne {x y : Value} (h : Nb x y) : y.ownBlock = none ∨ y.ownBlock ≠ x.ownBlock := by
  cases hx : x.ownBlock with
  | none =>
    cases hy : y.ownBlock with
    | none => exact .inl rfl
    | some g => exact .inr (by simp)
  | some g => exact .inr (h g hx)
theorem Bk.made {w : World} {b : Nat} (B : Bo w b 35 #[.slice none 0 0, .slice none 0 0, .bool false]) : Bk w w.heap.size b (.slice none 0 0) (.slice none 0 0) [] [] (fun _ => []) :=
  ⟨B, B.lt, Nat.le_refl _, World.ownsRow_nil _ _ _ _, World.ownsRow_nil _ _ _ _, rfl, fun i hi => absurd hi (Nat.not_lt_zero _), fun i hi => absurd hi (Nat.not_lt_zero _), fun i j _ hj => absurd hj (Nat.not_lt_zero _), (fun g e => by cases e), fun i hi => absurd hi (Nat.not_lt_zero _), fun i hi => absurd hi (Nat.not_lt_zero _), fun i hi => absurd hi (Nat.not_lt_zero _), fun i hi => absurd hi (Nat.not_lt_zero _)⟩
theorem Bk.kept {w w' : World} {base b : Nat} {gv uv : Value} {V U : List Value} {P : Nat → List Pt} (h : Bk w base b gv uv V U P) (hg : w.grownBy w' none) : Bk w' base b gv uv V U P :=
  ⟨h.box.kept hg (by simp), h.hb, Nat.le_trans h.hbw hg.size, h.got.kept hg (Classical.em _), h.want.kept hg (Classical.em _), h.lenU, fun i hi => (h.ev i hi).kept hg (Classical.em _), fun i hi => (h.eu i hi).kept hg (Classical.em _), h.ap, h.ng, h.gV, h.gU, h.uV, h.uU⟩
theorem getD_snoc {α : Type} (L : List α) (x d : α) (i : Nat) : (L ++ [x]).getD i d = if i < L.length then L.getD i d else if i = L.length then x else d := by
  rw [List.getD_eq_getElem?_getD, List.getD_eq_getElem?_getD]
  by_cases h : i < L.length
  · rw [if_pos h, List.getElem?_append_left h]
  · rw [if_neg h, List.getElem?_append_right (by omega)]
    by_cases e : i = L.length
    · rw [if_pos e, e]; simp
    · rw [if_neg e]
      have : i - L.length ≠ 0 := by omega
      obtain ⟨k, hk⟩ : ∃ k, i - L.length = k + 1 := ⟨i - L.length - 1, by omega⟩
      rw [hk]; rfl
/-- Behind two appends and two stores. -/
theorem Bk.push {w w' : World} {base b : Nat} {gv uv gv' uv' : Value} {V U : List Value} {P : Nat → List Pt} (h : Bk w base b gv uv V U P) {v u : Value} {ps : List Pt}
    (hbx : Bo w' b 35 #[gv', uv', .bool false]) (hs : w.heap.size ≤ w'.heap.size)
    (hg : w'.ownsRow base 23 1 gv' (V.length + 1) (V ++ [v])) (hu : w'.ownsRow base 23 1 uv' (V.length + 1) (U ++ [u]))
    (hk : ∀ x n xs, w.ownsRow base 25 2 x n xs → Nb gv x → Nb uv x → w'.ownsRow base 25 2 x n xs)
    (hng : Nb gv' uv') (hgf : ∀ x, Nb gv x → (∀ g, x.ownBlock = some g → g < w.heap.size) → Nb gv' x) (huf : ∀ x, Nb uv x → (∀ g, x.ownBlock = some g → g < w.heap.size) → Nb uv' x)
    (ov : w.ownsRow base 25 2 v ps.length (fl ps)) (ou : w.ownsRow base 25 2 u ps.length (fl ps))
    (nV : ∀ i, i < V.length → Nb (V.getD i nv) v) (n1 : Nb gv v) (n2 : Nb uv v) (n3 : Nb gv u) (n4 : Nb uv u) :
    Bk w' base b gv' uv' (V ++ [v]) (U ++ [u]) (fun i => if i = V.length then ps else P i) := by
  have hl : (V ++ [v]).length = V.length + 1 := by simp
  have lv := fun g e => (ov.lt g e).2
  have lu := fun g e => (ou.lt g e).2
  have kv := fun i (hi : i < V.length) => (fun g e => ((h.ev i hi).lt g e).2 : ∀ g, (V.getD i nv).ownBlock = some g → g < w.heap.size)
  have ku := fun i (hi : i < V.length) => (fun g e => ((h.eu i hi).lt g e).2 : ∀ g, (U.getD i nv).ownBlock = some g → g < w.heap.size)
  have split : ∀ i, i < V.length + 1 → i < V.length ∨ i = V.length := fun i hi => by omega
  have gv1 : ∀ i, i < V.length → (V ++ [v]).getD i nv = V.getD i nv := fun i hi => by rw [getD_snoc, if_pos hi]
  have gv2 : (V ++ [v]).getD V.length nv = v := by rw [getD_snoc, if_neg (Nat.lt_irrefl _), if_pos rfl]
  have gu1 : ∀ i, i < V.length → (U ++ [u]).getD i nv = U.getD i nv := fun i hi => by rw [getD_snoc, if_pos (by rw [h.lenU]; exact hi)]
  have gu2 : (U ++ [u]).getD V.length nv = u := by rw [getD_snoc, if_neg (by rw [h.lenU]; exact Nat.lt_irrefl _), if_pos h.lenU.symm]
  refine ⟨hbx, h.hb, Nat.le_trans h.hbw hs, by rw [hl]; exact hg, by rw [hl]; exact hu, by rw [hl]; simp [h.lenU], fun i hi => ?_, fun i hi => ?_, fun i j hij hj => ?_, hng, fun i hi => ?_, fun i hi => ?_, fun i hi => ?_, fun i hi => ?_⟩
  · rw [hl] at hi
    rcases split i hi with h1 | h1
    · rw [gv1 i h1]
      try simp only
      rw [if_neg (by omega)]
      exact hk _ _ _ (h.ev i h1) (h.gV i h1) (h.uV i h1)
    · subst h1
      rw [gv2]
      try simp only
      first | rw [if_pos rfl] | rw [if_pos trivial]
      exact hk _ _ _ ov n1 n2
  · rw [hl] at hi
    rcases split i hi with h1 | h1
    · rw [gu1 i h1]
      try simp only
      rw [if_neg (by omega)]
      exact hk _ _ _ (h.eu i h1) (h.gU i h1) (h.uU i h1)
    · subst h1
      rw [gu2]
      try simp only
      first | rw [if_pos rfl] | rw [if_pos trivial]
      exact hk _ _ _ ou n3 n4
  · rw [hl] at hj
    rcases split j hj with h1 | h1
    · rw [gv1 i (by omega), gv1 j h1]
      exact h.ap i j hij h1
    · subst h1
      rw [gv1 i hij, gv2]
      exact nV i hij
  · rw [hl] at hi
    rcases split i hi with h1 | h1
    · rw [gv1 i h1]; exact hgf _ (h.gV i h1) (kv i h1)
    · subst h1; rw [gv2]; exact hgf _ n1 lv
  · rw [hl] at hi
    rcases split i hi with h1 | h1
    · rw [gu1 i h1]; exact hgf _ (h.gU i h1) (ku i h1)
    · subst h1; rw [gu2]; exact hgf _ n3 lu
  · rw [hl] at hi
    rcases split i hi with h1 | h1
    · rw [gv1 i h1]; exact huf _ (h.uV i h1) (kv i h1)
    · subst h1; rw [gv2]; exact huf _ n2 lv
  · rw [hl] at hi
    rcases split i hi with h1 | h1
    · rw [gu1 i h1]; exact huf _ (h.uU i h1) (ku i h1)
    · subst h1; rw [gu2]; exact huf _ n4 lu
end Ln
end Go.Proofs.YtijjbejilpglnaaGreat
