/- A slice of runs, as it may be read. -/
import Derived.Test.YtimknahfgpafaabDoorS7
namespace Go.Proofs.YtimknahfgpafaabDoor
open Go.RowKit
set_option linter.unusedVariables false
set_option linter.unusedSimpArgs false

/-- The runs l can be read from a slice. -/
def RunsIn (w : World) (sp : Option Addr) (l : List Rn) : Prop := ∀ k (hk : k < l.length), ∃ g, sp = some ⟨g, 0, none⟩ ∧ w.cell? ⟨g, k * 3, none⟩ = some (.int .i64 (l[k].1 : Nat)) ∧ w.cell? ⟨g, k * 3 + 1, none⟩ = some (.string l[k].2.1) ∧ w.cell? ⟨g, k * 3 + 2, none⟩ = some (.int .i64 (l[k].2.2 : Nat))
theorem rcs_at (l : List Rn) : ∀ k (hk : k < l.length), (rcs l)[k * 3]? = some (.int .i64 (l[k].1 : Nat)) ∧ (rcs l)[k * 3 + 1]? = some (.string l[k].2.1) ∧ (rcs l)[k * 3 + 2]? = some (.int .i64 (l[k].2.2 : Nat)) := by
  induction l with
  | nil => intro k hk; simp at hk
  | cons r l ih =>
    intro k hk
    have e : rcs (r :: l) = [.int .i64 (r.1 : Nat), .string r.2.1, .int .i64 (r.2.2 : Nat)] ++ rcs l := by unfold rcs; rw [List.flatMap_cons]
    rw [e]
    cases k with
    | zero => exact ⟨rfl, rfl, rfl⟩
    | succ k =>
      have := ih k (by simpa using hk)
      rw [List.getElem?_append_right (by simp; omega), List.getElem?_append_right (by simp; omega), List.getElem?_append_right (by simp; omega)]
      simp only [List.length_cons, List.length_nil, List.getElem_cons_succ]
      rw [show (k + 1) * 3 - (0 + 1 + 1 + 1) = k * 3 by omega, show (k + 1) * 3 + 1 - (0 + 1 + 1 + 1) = k * 3 + 1 by omega, show (k + 1) * 3 + 2 - (0 + 1 + 1 + 1) = k * 3 + 2 by omega]
      exact this
/-- A slice of one's own, as it may be read. -/
theorem runsIn_of {w : World} {base : Nat} {v : Value} {l : List Rn} (h : w.ownsRow base 30 3 v l.length (rcs l)) : ∃ sp cap, v = .slice sp l.length cap ∧ RunsIn w sp l ∧ (∀ a, sp = some a → v.ownBlock = some a.block ∧ a.block < w.heap.size ∧ base ≤ a.block) := by
  rcases h.2 with ⟨rfl, h0⟩ | ⟨g, cap, cur, rfl, hb, hg, _⟩
  · refine ⟨none, 0, by rw [h0], fun k hk => by omega, fun a e => by cases e⟩
  · refine ⟨_, cap, rfl, fun k hk => ?_, fun a e => by cases e; exact ⟨rfl, (h.lt g rfl).2, hb⟩⟩
    obtain ⟨h1, h2, h3⟩ := rcs_at l k hk
    have hc := h.cells (g := g) rfl
    have e : ∀ j, (⟨g, 0, none⟩ : Addr).add j = ⟨g, j, none⟩ := fun j => by rw [add_mid, Nat.zero_add]
    refine ⟨g, rfl, ?_, ?_, ?_⟩
    · rw [← e]; exact hc _ _ h1
    · rw [← e]; exact hc _ _ h2
    · rw [← e]; exact hc _ _ h3
theorem RunsIn.kept {w w' : World} {sp : Option Addr} {l : List Rn} {r : Option Nat} (h : RunsIn w sp l) (hg : w.grownBy w' r) (hne : ∀ a, sp = some a → some a.block ≠ r) : RunsIn w' sp l := fun k hk => by
  obtain ⟨g, rfl, h1, h2, h3⟩ := h k hk
  have hb : some g ≠ r := hne ⟨g, 0, none⟩ rfl
  exact ⟨g, rfl, hg.cell h1 hb, hg.cell h2 hb, hg.cell h3 hb⟩

end Go.Proofs.YtimknahfgpafaabDoor
