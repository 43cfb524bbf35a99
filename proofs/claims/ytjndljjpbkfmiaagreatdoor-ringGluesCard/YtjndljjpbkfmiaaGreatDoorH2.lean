/- What Offsets answers; the number of a place among offsets; what a map does to them. -/
import Derived.Test.YtjndljjpbkfmiaaGreatDoorH1
namespace Go.Proofs.YtjndljjpbkfmiaaGreatDoor
open Go.RowKit
set_option linter.unusedVariables false
set_option linter.unusedSimpArgs false
set_option maxRecDepth 100000

set_option maxHeartbeats 1000000 in
theorem offsetsYes (h : Nat) (h1 : 1 ≤ h) (h3 : h ≤ 3) (w : World) (hv : Hid (Hv w)) : Calls Tryz.prog 62 #[.int .u8 h] w fun e w' => ∃ g, e = .returned (.tuple #[.slice (some ⟨g, 0, none⟩) (sn h) 8, .int .i64 0]) ∧ Bo w' g 149 (ho h) ∧ w.heap.size ≤ g ∧ w.grownBy w' none := by
  have hf := fun w hv => findYes h h1 h3 w hv
  have h8 : ((sn h : Nat) : Int) ≤ 8 := by have := sn_le h h1 h3; omega
  go_enter Tryz.func62, Tryz.ntmps62
  go_wp2_with (first | (go_at_call 78; refine (hf _ hv).mono ?_; rintro e w2 ⟨rfl, g2⟩; obtain ⟨W3, hW3, sz3, g3, B3⟩ := boxn w2 #[.int .i64 0, .int .i64 0, .int .i64 0, .int .i64 0, .int .i64 0, .int .i64 0, .int .i64 0, .int .i64 0, .int .i64 0, .int .i64 0, .int .i64 0, .int .i64 0, .int .i64 0, .int .i64 0, .int .i64 0, .int .i64 0, .int .i64 0] 149) | (refine wpList_st (op := ⟨_, .store 149 _ _, _, _, _, _⟩) rfl 149 _ _ rfl w2.heap.size (ho h) rfl rfl B3 (infoH h) rfl (all1 h) ?_; intro W4 hW4 B4; have c16 := B4.cell 16 (v := .int .i64 ((sn h : Nat) : Int)) rfl; have G4 : w.grownBy W4 none := hW4 ▸ gb_rowset (gb_trans g2 g3) g2.size))
  go_ret2
  exact ⟨_, rfl, B4, g2.size, G4⟩
set_option maxHeartbeats 1000000 in
theorem offsetsNo (h : Int) (h0 : 0 ≤ h) (h1 : h ≤ 255) (hn : h < 1 ∨ 3 < h) (w : World) : Calls Tryz.prog 62 #[.int .u8 h] w fun e w' => e = .returned (.tuple #[.slice none 0 0, .int .i64 70]) ∧ w.grownBy w' none := by
  have hf := findNo h h0 h1 hn
  clear hn
  go_enter Tryz.func62, Tryz.ntmps62
  go_wp2_with (first | (go_at_call 78; refine (hf _).mono ?_; rintro e w2 ⟨rfl, g2⟩; obtain ⟨W3, hW3, sz3, g3, B3⟩ := boxn w2 #[.int .i64 0, .int .i64 0, .int .i64 0, .int .i64 0, .int .i64 0, .int .i64 0, .int .i64 0, .int .i64 0, .int .i64 0, .int .i64 0, .int .i64 0, .int .i64 0, .int .i64 0, .int .i64 0, .int .i64 0, .int .i64 0, .int .i64 0] 149) | (refine wpList_st (op := ⟨_, .store 149 _ _, _, _, _, _⟩) rfl 149 _ _ rfl w2.heap.size #[.int .i64 0, .int .i64 0, .int .i64 0, .int .i64 0, .int .i64 0, .int .i64 0, .int .i64 0, .int .i64 0, .int .i64 0, .int .i64 0, .int .i64 0, .int .i64 0, .int .i64 0, .int .i64 0, .int .i64 0, .int .i64 0, .int .i64 0] rfl rfl B3 infoO rfl (by simp [Value.oneCell']) ?_; intro W4 hW4 B4; have c16 := B4.cell 16 (v := .int .i64 0) rfl; have G4 : w.grownBy W4 none := hW4 ▸ gb_rowset (gb_trans g2 g3) g2.size))
  go_ret2
  exact ⟨rfl, G4⟩
end Go.Proofs.YtjndljjpbkfmiaaGreatDoor
