/- The statement of the names. -/
import Derived.Test.YteaionmjbkildaaDoorQ30
import Derived.Test.YteaionmjbkildaaDoorQ27
namespace Go.Proofs.YteaionmjbkildaaDoor
open Go.RowKit
set_option linter.unusedVariables false
set_option linter.unusedSimpArgs false
set_option maxRecDepth 100000

/-- A leaf. -/
def tL (st : Nat) (_ : Nat) : TN := ⟨st, none, 0, 0, fun _ => 0⟩
theorem tnL (g st : Nat) (w : World) (c0 : w.cell? ⟨g, 0, none⟩ = some (.int .u8 (st : Nat))) (c1 : w.cell? ⟨g, 1, none⟩ = some (.slice none 0 0)) : Tn w g 0 1 (tL st) := fun j hj => by
  obtain rfl : j = 0 := by omega
  exact ⟨c0, c1, fun k hk => absurd hk (Nat.not_lt_zero _)⟩
theorem nm1 (g : Nat) (w : World) (c0 : w.cell? ⟨g, 0, none⟩ = some (.int .u8 1)) (c1 : w.cell? ⟨g, 1, none⟩ = some (.slice none 0 0)) : Calls Tryd.prog 10 #[.agg #[.int .i64 2, .int .i64 0, .slice (some ⟨g, 0, none⟩) 1 1, .int .i64 0]] w fun e w' => e = .returned (.int .i64 0) ∧ w.grownBy w' none := by
  have h := checkC 2 0 0 (some ⟨g, 0, none⟩) g 0 1 1 (tL 1) (fun _ => rfl) (fun j => by simp [tL]) w (tnL g 1 w c0 c1)
  rw [if_pos ⟨rfl, by decide, by decide, by decide, fun j hj => .inl ⟨rfl, by simp [tL]⟩, rfl⟩] at h
  exact h

theorem nm2 (g : Nat) (w : World) (c0 : w.cell? ⟨g, 0, none⟩ = some (.int .u8 2)) (c1 : w.cell? ⟨g, 1, none⟩ = some (.slice none 0 0)) : Calls Tryd.prog 10 #[.agg #[.int .i64 2, .int .i64 0, .slice (some ⟨g, 0, none⟩) 1 1, .int .i64 0]] w fun e w' => e = .returned (.int .i64 110) ∧ w.grownBy w' none := by
  have h := checkC 2 0 0 (some ⟨g, 0, none⟩) g 0 1 1 (tL 2) (fun _ => rfl) (fun j => by simp [tL]) w (tnL g 2 w c0 c1)
  rw [if_neg (fun hh => by rcases hh.2.2.2.2.1 0 (by decide) with ⟨_, h2⟩ | ⟨h0, _⟩; (· simp [tL] at h2); exact h0 rfl)] at h
  exact h

theorem nm3 (g : Nat) (w : World) (c0 : w.cell? ⟨g, 0, none⟩ = some (.int .u8 2)) (c1 : w.cell? ⟨g, 1, none⟩ = some (.slice none 0 0)) : Calls Tryd.prog 10 #[.agg #[.int .i64 257, .int .i64 0, .slice (some ⟨g, 0, none⟩) 1 1, .int .i64 0]] w fun e w' => e = .returned (.int .i64 110) ∧ w.grownBy w' none := by
  have h := checkC 257 0 0 (some ⟨g, 0, none⟩) g 0 1 1 (tL 2) (fun _ => rfl) (fun j => by simp [tL]) w (tnL g 2 w c0 c1)
  rw [if_neg (fun hh => by have := hh.1; simp [maB] at this)] at h
  exact h

set_option maxHeartbeats 1000000 in
theorem namesC (w : World) (htab : Tab w) : Calls Tryd.prog 3 #[] w fun e w' => e = .returned (.bool true) ∧ w.grownBy w' none := by
  have ha := aliveC w htab
  go_enter Tryd.func3, Tryd.ntmps3
  go_wp2_with (first | (go_at_call 9; refine ha.mono ?_; rintro e w1 ⟨rfl, g1⟩; refine Hid.out ?_))
  refine Lib.hid ?_
  clear ha
  obtain ⟨V0, hV0, sv0, v0, C0⟩ := boxn w1 #[.int .u8 1, .slice none 0 0] 27
  have h0 := nm1 w1.heap.size V0 (C0.cell 0 rfl) (C0.cell 1 rfl)
  go_wp2_with (first | (go_at_call 10; refine h0.mono ?_; rintro e x0 ⟨rfl, q0⟩; refine Hid.out ?_))
  refine Lib.hid ?_
  clear h0
  obtain ⟨V1, hV1, sv1, v1, C1⟩ := boxn x0 #[.int .u8 2, .slice none 0 0] 27
  have h1 := nm2 x0.heap.size V1 (C1.cell 0 rfl) (C1.cell 1 rfl)
  go_wp2_with (first | (go_at_call 10; refine h1.mono ?_; rintro e x1 ⟨rfl, q1⟩; refine Hid.out ?_))
  refine Lib.hid ?_
  clear h1
  obtain ⟨V2, hV2, sv2, v2, C2⟩ := boxn x1 #[.int .u8 2, .slice none 0 0] 27
  have h2 := nm3 x1.heap.size V2 (C2.cell 0 rfl) (C2.cell 1 rfl)
  go_wp2_with (first | (go_at_call 10; refine h2.mono ?_; rintro e x2 ⟨rfl, q2⟩; refine Hid.out ?_))
  refine Lib.hid ?_
  clear h2
  have G := gb_trans g1 (gb_trans (gb_trans v0 q0) (gb_trans (gb_trans v1 q1) (gb_trans v2 q2)))
  go_wp2
  go_ret
  exact ⟨rfl, G⟩
end Go.Proofs.YteaionmjbkildaaDoor
