/- The first lines of the statements: alive. -/
import Derived.Test.YtgflchbmoinonaaDoorH7
namespace Go.Proofs.YtgflchbmoinonaaDoor
open Go.RowKit
open Fl
set_option linter.unusedVariables false
set_option linter.unusedSimpArgs false
set_option maxRecDepth 100000

theorem rd_to {w : World} {g h k n : Nat} (B : Bo w g 58 (toA h k n)) (m : Nat) (hm : m ≤ 8) : Rd w (some ⟨g, 0, none⟩) m (fun j => if j < n then (((mp h k j).getD 0 : Nat) : Int) else 0) := fun j hj => by
  refine ⟨_, rfl, ?_⟩
  rw [add_mid, Nat.zero_add]
  rw [B.cell j (toA_at h k n j (by omega))]
  unfold toV
  by_cases hj2 : j < n
  · simp only [if_pos hj2]
  · simp only [if_neg hj2]
def l4 (j : Nat) : Int := if j = 0 then 1 else if j = 1 then 2 else if j = 2 then 3 else 0
theorem rd4 {w : World} {g : Nat} {t : TypeId} (B : Bo w g t #[.int .i64 1, .int .i64 2, .int .i64 3, .int .i64 0]) : Rd w (some ⟨g, 0, none⟩) 4 l4 := fun j hj => by
  refine ⟨_, rfl, ?_⟩
  rw [add_mid, Nat.zero_add]
  match j, hj with
  | 0, _ => exact B.cell 0 rfl
  | 1, _ => exact B.cell 1 rfl
  | 2, _ => exact B.cell 2 rfl
  | 3, _ => exact B.cell 3 rfl
theorem same4 : ∀ i, i < 4 → (fun j => if j < sn 2 then (((mp 2 1 j).getD 0 : Nat) : Int) else 0) i = l4 i := by decide
set_option maxHeartbeats 2000000 in
theorem aliveC (w : World) (hv : Hid (Hv w)) : Calls Tryd.prog 12 #[] w fun e w' => e = .returned (.bool true) ∧ w.grownBy w' none := by
  have hp := permY 2 (by decide) (by decide) 1 (by decide) (by decide)
  have hs := sizeYes 1 (by decide) (by decide)
  have hO := offsetsYes 3 (by decide) (by decide)
  have hsame := same4
  have e4 : sn 2 = 4 := rfl
  have e6 : sn 3 = 6 := rfl
  have e8 : sn 1 = 8 := rfl
  have ex : px 3 2 = 1 := rfl
  have ey : py 3 2 = 1 := rfl
  go_enter Tryd.func12, Tryd.ntmps12
  go_wp2_with (first | (go_at_call 10; refine (hp _ hv).mono ?_; rintro e w1 ⟨b1, rfl, B1, l1, g1⟩; have hv1 := hvK hv g1) | (go_at_call 9; refine (hs _ hv1).mono ?_; rintro e w2 ⟨rfl, g2⟩; have B2 := B1.kept g2 (by simp); have hv2 := hvK hv1 g2; have G2 := gb_trans g1 g2) | (go_at_call 16; refine (hO _ hv2).mono ?_; rintro e w3 ⟨b3, rfl, B3, l3, g3⟩; have P3 := B2.kept g3 (by simp); have G3 := gb_trans G2 g3; obtain ⟨W4, hW4, sz4, g4, B4⟩ := boxn w3 #[.int .i64 1, .int .i64 2, .int .i64 3, .int .i64 0] 3; have P4 := P3.kept g4 (by simp); have Q4 := B3.kept g4 (by simp); have G4 := gb_trans G3 g4; have R1 := rd_to P4 4 (by decide); have R2 := rd4 B4) | (go_at_call 13; refine (sameI 4 _ _ _ _ _ _ (by decide) hsame _ R1 R2).mono ?_; rintro e w5 ⟨rfl, g5⟩; have Q5 := Q4.kept g5 (by simp); have G5 := gb_trans G4 g5; have y4 := Q5.cell 4 (v := .int .i64 (px 3 2)) rfl; have y5 := Q5.cell 5 (v := .int .i64 (py 3 2)) rfl))
  go_ret
  exact ⟨rfl, G5⟩
end Go.Proofs.YtgflchbmoinonaaDoor
