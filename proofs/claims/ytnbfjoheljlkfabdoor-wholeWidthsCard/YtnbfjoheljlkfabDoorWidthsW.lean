import Derived.Test.YtnbfjoheljlkfabDoorAlive
namespace Go.Proofs.YtnbfjoheljlkfabDoor
open Go.RowKit
set_option linter.unusedVariables false

theorem gcdZ_nn (a b : Int) : 0 ≤ Nm.gcdZ a b := by unfold Nm.gcdZ; omega
theorem gcdZ_le {a b h : Int} (h0 : 0 ≤ h) (ha : (a.natAbs : Int) ≤ h) (hb : (b.natAbs : Int) ≤ h) : Nm.gcdZ a b ≤ h := by
  unfold Nm.gcdZ Int.gcd
  by_cases h1 : a.natAbs = 0
  · rw [h1, Nat.gcd_zero_left]; exact hb
  · have := Nat.gcd_le_left b.natAbs (show 0 < a.natAbs by omega)
    omega
theorem mul16_bd {a b : Int} (h1 : -32768 ≤ a) (h2 : a ≤ 32767) (h3 : -32768 ≤ b) (h4 : b ≤ 32767) : -1073741824 ≤ a * b ∧ a * b ≤ 1073741824 := by
  have h : (a * b).natAbs ≤ 32768 * 32768 := by
    rw [Int.natAbs_mul]
    exact Nat.mul_le_mul (by omega) (by omega)
  omega

set_option maxHeartbeats 4000000 in
set_option maxRecDepth 100000 in
theorem widths_walk (a b : Int) (w : World) (h1 : -32768 ≤ a) (h2 : a ≤ 32767) (h3 : -32768 ≤ b) (h4 : b ≤ 32767) (ht : Hid (Tab w)) :
    Calls Tryd.prog 5 #[.int .i16 a, .int .i16 b] w fun e w' => e = .returned (.bool true) ∧ Below w.heap.size w w' := by
  obtain ⟨m1, m2⟩ := mul16_bd h1 h2 h3 h4
  have g1 := gcdZ_nn a b
  have g2 := gcdZ_le (a := a) (b := b) (h := 32768) (by omega) (by omega) (by omega)
  have f1 := Nm.fitZ_yes (l := -9223372036854775808) (h := 9223372036854775807) (x := a + b) (by omega) (by omega)
  have f2 := Nm.fitB_yes (l := -9223372036854775808) (h := 9223372036854775807) (x := a + b) (by omega) (by omega)
  have f3 := Nm.fitZ_yes (l := -9223372036854775808) (h := 9223372036854775807) (x := a * b) (by omega) (by omega)
  have f4 := Nm.fitB_yes (l := -9223372036854775808) (h := 9223372036854775807) (x := a * b) (by omega) (by omega)
  have f5 := Nm.fitZ_yes (l := -9223372036854775808) (h := 9223372036854775807) (x := Nm.gcdZ a b) (by omega) (by omega)
  have f6 := Nm.fitB_yes (l := -9223372036854775808) (h := 9223372036854775807) (x := Nm.gcdZ a b) (by omega) (by omega)
  go_enter Tryd.func5, Tryd.ntmps5
  go_wp2_with (first | (go_at_call 8; refine (aliveC _ ht).mono ?_; rintro e w1 ⟨rfl, hb1⟩) | (go_at_call 16; refine (add16 _ _ _ (by omega) (by omega) (by omega) (by omega)).mono ?_; rintro e w' ⟨rfl, rfl⟩) | (go_at_call 17; refine (mul16 _ _ _ (by omega) (by omega) (by omega) (by omega)).mono ?_; rintro e w' ⟨rfl, rfl⟩) | (go_at_call 18; refine (gcd16 _ _ _ (by omega) (by omega) (by omega) (by omega)).mono ?_; rintro e w' ⟨rfl, nq, rfl⟩) | (go_at_call 19; refine (addI _ _ _ (by omega) (by omega) (by omega) (by omega)).mono ?_; rintro e w' ⟨rfl, rfl⟩) | (go_at_call 20; refine (mulI _ _ _ (by omega) (by omega) (by omega) (by omega)).mono ?_; rintro e w' ⟨rfl, rfl⟩) | (go_at_call 21; refine (gcdI _ _ _ (by omega) (by omega) (by omega) (by omega)).mono ?_; rintro e w' ⟨rfl, nq, rfl⟩) | (go_at_call 22; refine (fits16 _ _ (by omega) (by omega)).mono ?_; rintro e w' ⟨rfl, rfl⟩))
  go_ret
  exact ⟨rfl, below_drewN hb1 _⟩

end Go.Proofs.YtnbfjoheljlkfabDoor
