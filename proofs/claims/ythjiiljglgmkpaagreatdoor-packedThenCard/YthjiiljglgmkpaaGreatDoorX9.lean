/- Clone, Pack(true) of a field of bits. -/
import Derived.Test.YthjiiljglgmkpaaGreatDoorX8
namespace Go.Proofs.YthjiiljglgmkpaaGreatDoor.Tt
open Go.RowKit
set_option linter.unusedVariables false
set_option linter.unusedSimpArgs false
set_option maxRecDepth 100000

set_option maxHeartbeats 1000000 in
theorem fCloneB (b s : Nat) (q : Nat × (Nat → Nat)) (C R : Nat) (g : Nat → Nat) (hz : Sz C R 2) (w : World) (h : Fb w b s q C R 2 g) : Calls Tryz.prog 26 #[.pointer (some ⟨b, 0, none⟩)] w fun e w' => ∃ b2, e = .returned (.pointer (some ⟨b2, 0, none⟩)) ∧ ∃ s2 q2, Fb w' b2 s2 q2 C R 2 g ∧ w.heap.size ≤ b2 ∧ w.heap.size ≤ s2 ∧ w.heap.size ≤ q2.1 ∧ (∀ j, j < R → w.heap.size ≤ q2.2 j) ∧ w.grownBy w' none := by
  have h0 := h.cell
  have hcp := fun w => m_copied s w
  have kC := copiedB s q C R g hz w h.st
  go_enter Tryz.func26, Tryz.ntmps26
  go_wp2_with (first | (go_at_call 46; refine (lacksN b s q C R 2 g w h).mono ?_; rintro e V ⟨rfl, hV⟩; subst V) | (go_at_call 177; refine kC.mono ?_; rintro e V2 ⟨s2, q2, rfl, hS2, l1, l2, l3, gV2⟩))
  go_ret
  have g9 : V2.grownBy (V2.alloc (.cells #[.iface 163 (.pointer (some ⟨s2, 0, none⟩))] 57)) none := World.grownBy_alloc _ _ none
  have fin : Fb (V2.alloc (.cells #[.iface 163 (.pointer (some ⟨s2, 0, none⟩))] 57)) V2.heap.size s2 q2 C R 2 g ∧ w.heap.size ≤ V2.heap.size ∧ w.heap.size ≤ s2 ∧ w.heap.size ≤ q2.1 ∧ (∀ j, j < R → w.heap.size ≤ q2.2 j) ∧ w.grownBy (V2.alloc (.cells #[.iface 163 (.pointer (some ⟨s2, 0, none⟩))] 57)) none := ⟨⟨Bo.new V2 _ _, hS2.kept g9⟩, gV2.size, l1, l2, l3, gb_trans gV2 g9⟩
  first
    | exact ⟨V2.heap.size, rfl, s2, q2, fin⟩
    | exact ⟨V2.heap.size, rfl, s2, q2.1, q2.2, fin⟩
set_option maxHeartbeats 1000000 in
theorem fPackB (b s : Nat) (q : Nat × (Nat → Nat)) (C R : Nat) (g : Nat → Nat) (hz : Sz C R 2) (w : World) (h : Fb w b s q C R 2 g) : Calls Tryz.prog 27 #[.pointer (some ⟨b, 0, none⟩), .bool true] w fun e w' => e = .returned (.int .i64 0) ∧ w.grownBy w' none := by
  have h0 := h.cell
  have hm := m_fitsBits h.st
  have hp := fun w => m_packed s w
  go_enter Tryz.func27, Tryz.ntmps27
  go_wp2_with (first | (go_at_call 46; refine (lacksN b s q C R 2 g w h).mono ?_; rintro e V ⟨rfl, hV⟩; subst V) | (go_at_call 96; refine (fitsC C R w).mono ?_; rintro e V ⟨rfl, gV⟩; have hV := h.kept gV; have v0 := hV.cell) | (go_at_call 182; refine (packedC s V).mono ?_; rintro e V3 ⟨rfl, hV3⟩; subst V3))
  go_ret
  exact ⟨rfl, gV⟩
end Go.Proofs.YthjiiljglgmkpaaGreatDoor.Tt
