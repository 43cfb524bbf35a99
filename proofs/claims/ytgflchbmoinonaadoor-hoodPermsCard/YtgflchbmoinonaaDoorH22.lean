/- HoodPerms: the walk. -/
import Derived.Test.YtgflchbmoinonaaDoorH21
import Derived.Test.YtgflchbmoinonaaDoorH6
namespace Go.Proofs.YtgflchbmoinonaaDoor
open Go.RowKit
open Fl
set_option linter.unusedVariables false
set_option linter.unusedSimpArgs false
set_option maxRecDepth 100000

/-- The four lists of 'all': what they hold, each in a block of its own. -/
def Sv (w : World) (base gal : Nat) (V : Nat → Value) (Nn : Nat → Nat) (G : Nat → Nat → Int) : Prop := Bo w gal 25 #[V 0, V 1, V 2, V 3] ∧ ∀ m, m < 4 → Lst w base (V m) (Nn m) (G m) ∧ (V m).ownBlock ≠ some gal ∧ ∀ m', m' < 4 → m ≠ m' → ∀ b, (V m).ownBlock = some b → (V m').ownBlock ≠ some b
theorem Sv.kept {w w' : World} {base gal : Nat} {V : Nat → Value} {Nn : Nat → Nat} {G : Nat → Nat → Int} (h : Sv w base gal V Nn G) (hg : w.grownBy w' none) : Sv w' base gal V Nn G :=
  ⟨h.1.kept hg (by simp), fun m hm => ⟨(h.2 m hm).1.kept hg (by simp), (h.2 m hm).2⟩⟩
theorem Sv.all {w : World} {base gal : Nat} {V : Nat → Value} {Nn : Nat → Nat} {G : Nat → Nat → Int} (h : Sv w base gal V Nn G) {i : Nat} (hi : i < 4) : w.cell? ⟨gal, i, none⟩ = some (V i) := by
  refine h.1.cell i ?_
  match i, hi with
  | 0, _ => rfl
  | 1, _ => rfl
  | 2, _ => rfl
  | 3, _ => rfl
theorem Sv.put {w : World} {base gal : Nat} {V : Nat → Value} {Nn : Nat → Nat} {G : Nat → Nat → Int} (h : Sv w base gal V Nn G) {i k : Nat} (hi : i < 4) (hk : k < Nn i) : ∃ ga c, V i = .slice (some ⟨ga, 0, none⟩) (Nn i) c ∧ base ≤ ga ∧ w.cell? ⟨ga, k, none⟩ = some (.int .i64 (G i k)) ∧ w.frozen? ⟨ga, k, none⟩ = false ∧
    ∀ X : Int, Sv (w.setCell ⟨ga, k, none⟩ (.int .i64 X)) base gal V Nn (fun m j => if m = i ∧ j = k then X else G m j) := by
  obtain ⟨hL, hng, hd⟩ := h.2 i hi
  rcases hL with ⟨_, h0⟩ | ⟨ga, t, c0, cs, e, h1, B, h2, h3, h4, h5⟩
  · omega
  · refine ⟨ga, c0, e, h1, B.cell k (h5 k hk), B.frozen k, fun X => ?_⟩
    have eb : (V i).ownBlock = some ga := by rw [e]; rfl
    have hg := gb_set (World.grownBy.refl w (some ga)) k (.int .i64 X)
    refine ⟨h.1.kept hg (fun e' => hng (by rw [eb]; exact e'.symm)), fun m hm => ⟨?_, (h.2 m hm).2⟩⟩
    by_cases em : m = i
    · subst em
      refine .inr ⟨ga, t, c0, _, e, h1, B.set k (.int .i64 X), by simpa using h2, h3, h4, fun j hj => ?_⟩
      by_cases ej : j = k
      · subst ej
        dsimp only
        rw [if_pos ⟨rfl, rfl⟩, Array.getElem?_setIfInBounds_self_of_lt (by omega)]
      · dsimp only
        rw [if_neg (fun hh => ej hh.2), Array.getElem?_setIfInBounds_ne (by omega)]
        exact h5 j hj
    · have hF : (fun j => if m = i ∧ j = k then X else G m j) = G m := by funext j; rw [if_neg (fun hh => em hh.1)]
      show Lst _ _ _ _ (fun j => if m = i ∧ j = k then X else G m j)
      rw [hF]
      exact (h.2 m hm).1.kept hg (fun b eb' => by cases eb'; exact hd m hm (fun e' => em e'.symm) ga eb)

end Go.Proofs.YtgflchbmoinonaaDoor
