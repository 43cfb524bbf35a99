/- The document's Offsets, Size; samePoints. -/
import Derived.Test.YtkgipjabkalnaaaDoorH1
namespace Go.Proofs.YtkgipjabkalnaaaDoor
open Go.RowKit
set_option linter.unusedVariables false
set_option linter.unusedSimpArgs false
set_option maxRecDepth 100000

/-- Points that can be read. -/
def Pts (w : World) (g n h : Nat) : Prop := ∀ j, j < n → w.cell? ⟨g, j * 2, none⟩ = some (.int .i64 (px h j)) ∧ w.cell? ⟨g, j * 2 + 1, none⟩ = some (.int .i64 (py h j))
theorem Pts.kept {w w' : World} {g n h : Nat} {r : Option Nat} (H : Pts w g n h) (hg : w.grownBy w' r) (hne : some g ≠ r) : Pts w' g n h := fun j hj => ⟨hg.cell (H j hj).1 hne, hg.cell (H j hj).2 hne⟩
theorem pts_ho {w : World} {g h : Nat} (h1 : 1 ≤ h) (h3 : h ≤ 3) (B : Bo w g 73 (ho h)) : Pts w g (sn h) h := fun j hj => by
  have h8 := sn_le h h1 h3
  have hj8 : j < 8 := by omega
  constructor
  · refine B.cell (j * 2) ?_
    match j, hj8 with
    | 0, _ => rfl
    | 1, _ => rfl
    | 2, _ => rfl
    | 3, _ => rfl
    | 4, _ => rfl
    | 5, _ => rfl
    | 6, _ => rfl
    | 7, _ => rfl
  · refine B.cell (j * 2 + 1) ?_
    match j, hj8 with
    | 0, _ => rfl
    | 1, _ => rfl
    | 2, _ => rfl
    | 3, _ => rfl
    | 4, _ => rfl
    | 5, _ => rfl
    | 6, _ => rfl
    | 7, _ => rfl

set_option maxHeartbeats 2000000 in
theorem refOff1 (w : World) : Calls Tryd.prog 11 #[.int .u8 1] w fun e w' => ∃ g, e = .returned (.tuple #[.slice (some ⟨g, 0, none⟩) 8 8, .int .i64 0]) ∧ Bo w' g 44 #[.int .i64 0, .int .i64 (-1), .int .i64 1, .int .i64 (-1), .int .i64 1, .int .i64 0, .int .i64 1, .int .i64 1, .int .i64 0, .int .i64 1, .int .i64 (-1), .int .i64 1, .int .i64 (-1), .int .i64 0, .int .i64 (-1), .int .i64 (-1)] ∧ w.heap.size ≤ g ∧ w.grownBy w' none := by
  obtain ⟨W1, hW1, sz1, g1, B1⟩ := boxn w #[.int .i64 0, .int .i64 (-1), .int .i64 1, .int .i64 (-1), .int .i64 1, .int .i64 0, .int .i64 1, .int .i64 1, .int .i64 0, .int .i64 1, .int .i64 (-1), .int .i64 1, .int .i64 (-1), .int .i64 0, .int .i64 (-1), .int .i64 (-1)] 44
  go_enter Tryd.func11, Tryd.ntmps11
  go_wp2
  go_ret2
  exact ⟨_, rfl, B1, Nat.le_refl _, g1⟩

set_option maxHeartbeats 2000000 in
theorem refOff2 (w : World) : Calls Tryd.prog 11 #[.int .u8 2] w fun e w' => ∃ g, e = .returned (.tuple #[.slice (some ⟨g, 0, none⟩) 4 4, .int .i64 0]) ∧ Bo w' g 44 #[.int .i64 0, .int .i64 (-1), .int .i64 1, .int .i64 0, .int .i64 0, .int .i64 1, .int .i64 (-1), .int .i64 0] ∧ w.heap.size ≤ g ∧ w.grownBy w' none := by
  obtain ⟨W1, hW1, sz1, g1, B1⟩ := boxn w #[.int .i64 0, .int .i64 (-1), .int .i64 1, .int .i64 0, .int .i64 0, .int .i64 1, .int .i64 (-1), .int .i64 0] 44
  go_enter Tryd.func11, Tryd.ntmps11
  go_wp2
  go_ret2
  exact ⟨_, rfl, B1, Nat.le_refl _, g1⟩

set_option maxHeartbeats 2000000 in
theorem refOff3 (w : World) : Calls Tryd.prog 11 #[.int .u8 3] w fun e w' => ∃ g, e = .returned (.tuple #[.slice (some ⟨g, 0, none⟩) 6 6, .int .i64 0]) ∧ Bo w' g 44 #[.int .i64 0, .int .i64 (-1), .int .i64 1, .int .i64 0, .int .i64 1, .int .i64 1, .int .i64 0, .int .i64 1, .int .i64 (-1), .int .i64 0, .int .i64 (-1), .int .i64 (-1)] ∧ w.heap.size ≤ g ∧ w.grownBy w' none := by
  obtain ⟨W1, hW1, sz1, g1, B1⟩ := boxn w #[.int .i64 0, .int .i64 (-1), .int .i64 1, .int .i64 0, .int .i64 1, .int .i64 1, .int .i64 0, .int .i64 1, .int .i64 (-1), .int .i64 0, .int .i64 (-1), .int .i64 (-1)] 44
  go_enter Tryd.func11, Tryd.ntmps11
  go_wp2
  go_ret2
  exact ⟨_, rfl, B1, Nat.le_refl _, g1⟩

theorem refOffYes (h : Nat) (h1 : 1 ≤ h) (h3 : h ≤ 3) (w : World) : Calls Tryd.prog 11 #[.int .u8 h] w fun e w' => ∃ g, e = .returned (.tuple #[.slice (some ⟨g, 0, none⟩) (sn h) (sn h), .int .i64 0]) ∧ Pts w' g (sn h) h ∧ w.heap.size ≤ g ∧ g < w'.heap.size ∧ w.grownBy w' none := by
  match h, h1, h3 with
  | 1, _, _ =>
    refine (refOff1 w).mono ?_
    rintro e w' ⟨g, rfl, B, hg, G⟩
    refine ⟨g, rfl, fun j hj => ?_, hg, B.lt, G⟩
    have hj' : j < 8 := hj
    match j, hj' with
    | 0, _ => exact ⟨B.cell 0 rfl, B.cell 1 rfl⟩
    | 1, _ => exact ⟨B.cell 2 rfl, B.cell 3 rfl⟩
    | 2, _ => exact ⟨B.cell 4 rfl, B.cell 5 rfl⟩
    | 3, _ => exact ⟨B.cell 6 rfl, B.cell 7 rfl⟩
    | 4, _ => exact ⟨B.cell 8 rfl, B.cell 9 rfl⟩
    | 5, _ => exact ⟨B.cell 10 rfl, B.cell 11 rfl⟩
    | 6, _ => exact ⟨B.cell 12 rfl, B.cell 13 rfl⟩
    | 7, _ => exact ⟨B.cell 14 rfl, B.cell 15 rfl⟩
  | 2, _, _ =>
    refine (refOff2 w).mono ?_
    rintro e w' ⟨g, rfl, B, hg, G⟩
    refine ⟨g, rfl, fun j hj => ?_, hg, B.lt, G⟩
    have hj' : j < 4 := hj
    match j, hj' with
    | 0, _ => exact ⟨B.cell 0 rfl, B.cell 1 rfl⟩
    | 1, _ => exact ⟨B.cell 2 rfl, B.cell 3 rfl⟩
    | 2, _ => exact ⟨B.cell 4 rfl, B.cell 5 rfl⟩
    | 3, _ => exact ⟨B.cell 6 rfl, B.cell 7 rfl⟩
  | 3, _, _ =>
    refine (refOff3 w).mono ?_
    rintro e w' ⟨g, rfl, B, hg, G⟩
    refine ⟨g, rfl, fun j hj => ?_, hg, B.lt, G⟩
    have hj' : j < 6 := hj
    match j, hj' with
    | 0, _ => exact ⟨B.cell 0 rfl, B.cell 1 rfl⟩
    | 1, _ => exact ⟨B.cell 2 rfl, B.cell 3 rfl⟩
    | 2, _ => exact ⟨B.cell 4 rfl, B.cell 5 rfl⟩
    | 3, _ => exact ⟨B.cell 6 rfl, B.cell 7 rfl⟩
    | 4, _ => exact ⟨B.cell 8 rfl, B.cell 9 rfl⟩
    | 5, _ => exact ⟨B.cell 10 rfl, B.cell 11 rfl⟩
set_option maxHeartbeats 1000000 in
theorem refOffNo (h : Int) (h0 : 0 ≤ h) (h1 : h ≤ 255) (hn : h < 1 ∨ 3 < h) (w : World) : Calls Tryd.prog 11 #[.int .u8 h] w fun e w' => e = .returned (.tuple #[.slice none 0 0, .int .i64 70]) ∧ w.grownBy w' none := by
  have n1 : (h == 1) = false := by simp; omega
  have n2 : (h == 2) = false := by simp; omega
  have n3 : (h == 3) = false := by simp; omega
  clear hn
  go_enter Tryd.func11, Tryd.ntmps11
  go_wp2
  go_ret2
  exact ⟨rfl, World.grownBy.refl _ _⟩
end Go.Proofs.YtkgipjabkalnaaaDoor
