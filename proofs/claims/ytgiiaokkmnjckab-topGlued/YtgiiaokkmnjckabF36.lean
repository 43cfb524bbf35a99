/- SameIsos of two lists of the same maps. -/
import Derived.Test.YtgiiaokkmnjckabI7
import Derived.Deep.AppendLies
import Derived.LoopN
namespace Go.Proofs.Ytgiiaokkmnjckab
open Go.RowKit
open Fl
set_option linter.unusedVariables false
set_option linter.unusedSimpArgs false
set_option maxRecDepth 100000

/-- A list of maps, in whole numbers, in a row of its own. -/
def Gl (w : World) (base : Nat) (v : Value) (L : List (Nat × Int × Int)) : Prop := ∃ xs, w.ownsRow base 48 3 v L.length xs ∧ ∀ (i P : Nat) (X Y : Int), L[i]? = some (P, X, Y) → ∃ a b f c d, xs[i * 3]? = some (.complex .f64 a b) ∧ xs[i * 3 + 1]? = some (.bool f) ∧ xs[i * 3 + 2]? = some (.complex .f64 c d) ∧ May a b f c d P X Y
theorem Gl.kept {w w' : World} {base : Nat} {v : Value} {L : List (Nat × Int × Int)} {r : Option Nat} (h : Gl w base v L) (hg : w.grownBy w' r) (hr : ∀ b, r = some b → v.ownBlock ≠ some b) : Gl w' base v L := by
  obtain ⟨xs, ho, hx⟩ := h
  refine ⟨xs, ho.kept hg ?_, hx⟩
  cases r with
  | none => cases v.ownBlock <;> simp
  | some b => exact .inr (hr b rfl)
theorem gl0 (w : World) (base : Nat) : Gl w base (.slice none 0 0) [] := ⟨[], World.ownsRow_nil _ _ _ _, fun i P X Y h => by simp at h⟩
theorem gl1 {w : World} {base : Nat} {v : Value} {a b c d P : Nat} {f : Bool} {X Y : Int} (h : w.ownsRow base 48 3 v 1 ([.complex .f64 a b, .bool f, .complex .f64 c d])) (m : May a b f c d P X Y) : Gl w base v [(P, X, Y)] := by
  refine ⟨_, h, fun i P' X' Y' e => ?_⟩
  match i, e with
  | 0, e => cases e; exact ⟨a, b, f, c, d, rfl, rfl, rfl, m⟩
  | n + 1, e => simp at e
theorem gl2 {w : World} {base : Nat} {v : Value} {a b c d P a2 b2 c2 d2 P2 : Nat} {f f2 : Bool} {X Y X2 Y2 : Int} (h : w.ownsRow base 48 3 v 2 ([.complex .f64 a b, .bool f, .complex .f64 c d] ++ [.complex .f64 a2 b2, .bool f2, .complex .f64 c2 d2])) (m : May a b f c d P X Y) (m2 : May a2 b2 f2 c2 d2 P2 X2 Y2) : Gl w base v [(P, X, Y), (P2, X2, Y2)] := by
  refine ⟨_, h, fun i P' X' Y' e => ?_⟩
  match i, e with
  | 0, e => cases e; exact ⟨a, b, f, c, d, rfl, rfl, rfl, m⟩
  | 1, e => cases e; exact ⟨a2, b2, f2, c2, d2, rfl, rfl, rfl, m2⟩
  | n + 2, e => simp at e
theorem own_form {w : World} {base n : Nat} {v : Value} {xs : List Value} (h : w.ownsRow base 48 3 v n xs) : ∃ sp c, v = .slice sp n c ∧ (0 < n → ∃ g, sp = some ⟨g, 0, none⟩) := by
  rcases h.2 with ⟨rfl, rfl⟩ | ⟨g, cap, cur, rfl, _⟩
  · exact ⟨none, 0, rfl, fun h => by omega⟩
  · exact ⟨_, _, rfl, fun _ => ⟨g, rfl⟩⟩
theorem gl_cells {w : World} {base n : Nat} {g c : Nat} {L : List (Nat × Int × Int)} (h : Gl w base (.slice (some ⟨g, 0, none⟩) L.length c) L) {k : Nat} (hk : k < L.length) : ∃ a b f c d, w.cell? ⟨g, k * 3, none⟩ = some (.complex .f64 a b) ∧ w.cell? ⟨g, k * 3 + 1, none⟩ = some (.bool f) ∧ w.cell? ⟨g, k * 3 + 2, none⟩ = some (.complex .f64 c d) ∧ May a b f c d (L[k]).1 (L[k]).2.1 (L[k]).2.2 := by
  obtain ⟨xs, ho, hx⟩ := h
  obtain ⟨a, b, f, c, d, h1, h2, h3, m⟩ := hx k (L[k]).1 (L[k]).2.1 (L[k]).2.2 (List.getElem?_eq_getElem hk)
  exact ⟨a, b, f, c, d, (ho.cellAt (k * 3) (by omega)).trans h1, (ho.cellAt (k * 3 + 1) (by omega)).trans h2, (ho.cellAt (k * 3 + 2) (by omega)).trans h3, m⟩
end Go.Proofs.Ytgiiaokkmnjckab
