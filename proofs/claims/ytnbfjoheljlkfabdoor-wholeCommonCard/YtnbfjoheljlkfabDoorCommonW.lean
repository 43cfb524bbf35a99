import Derived.Test.YtnbfjoheljlkfabDoorAlive
namespace Go.Proofs.YtnbfjoheljlkfabDoor
open Go.RowKit
set_option linter.unusedVariables false

theorem gcdZ_nn (a b : Int) : 0 ≤ Nm.gcdZ a b := by unfold Nm.gcdZ; omega
theorem gcdZ_le {a b h : Int} (h0 : 0 ≤ h) (ha : (a.natAbs : Int) ≤ h) (hb : (b.natAbs : Int) ≤ h) : Nm.gcdZ a b ≤ h := by
  unfold Nm.gcdZ Int.gcd
  by_cases h1 : a.natAbs = 0
  · rw [h1, Nat.gcd_zero_left]; exact hb
  · have := Nat.gcd_le_left b.natAbs (show 0 < a.natAbs by omega)
    omega
theorem gcdZ_sym (a b : Int) : Nm.gcdZ b a = Nm.gcdZ a b := by unfold Nm.gcdZ Int.gcd; rw [Nat.gcd_comm]
theorem gcdZ_left (a b : Int) : a.tmod (Nm.gcdZ a b) = 0 := Int.tmod_eq_zero_of_dvd (Int.gcd_dvd_left a b)
theorem gcdZ_right (a b : Int) : b.tmod (Nm.gcdZ a b) = 0 := Int.tmod_eq_zero_of_dvd (Int.gcd_dvd_right a b)
theorem gcdZ_all {a b d : Int} (ha : a.tmod d = 0) (hb : b.tmod d = 0) : (Nm.gcdZ a b).tmod d = 0 :=
  Int.tmod_eq_zero_of_dvd (Int.dvd_coe_gcd (Int.dvd_of_tmod_eq_zero ha) (Int.dvd_of_tmod_eq_zero hb))
theorem gcdZ_least {a b : Int} (h1 : -9223372036854775808 ≤ a) (h2 : a ≤ 9223372036854775807) (h : Nm.gcdZ a b = 9223372036854775808) : a = -9223372036854775808 ∨ a = 0 := by
  have hd := Int.gcd_dvd_left a b
  change Nm.gcdZ a b ∣ a at hd
  rw [h] at hd
  obtain ⟨k, hk⟩ := hd
  omega
theorem gcdZ_none {a b : Int} (h : Nm.gcdZ a b = 0) : a = 0 ∧ b = 0 := by
  unfold Nm.gcdZ at h
  have h0 : Int.gcd a b = 0 := by omega
  exact Int.gcd_eq_zero_iff.1 h0

set_option maxHeartbeats 4000000 in
set_option maxRecDepth 100000 in
theorem common_walk (a b d : Int) (w : World) (h1 : -9223372036854775808 ≤ a) (h2 : a ≤ 9223372036854775807) (h3 : -9223372036854775808 ≤ b) (h4 : b ≤ 9223372036854775807) (h5 : -9223372036854775808 ≤ d) (h6 : d ≤ 9223372036854775807) (ht : Hid (Tab w)) :
    Calls Tryd.prog 6 #[.int .i64 a, .int .i64 b, .int .i64 d] w fun e w' => e = .returned (.bool true) ∧ Below w.heap.size w w' := by
  have g1 := gcdZ_nn a b
  have g2 := gcdZ_le (a := a) (b := b) (h := 9223372036854775808) (by omega) (by omega) (by omega)
  have g3 := gcdZ_sym a b
  by_cases hg : Nm.gcdZ a b ≤ 9223372036854775807
  · have f1 := Nm.fitZ_yes (l := -9223372036854775808) (h := 9223372036854775807) (x := Nm.gcdZ a b) (by omega) hg
    have f2 := Nm.fitB_yes (l := -9223372036854775808) (h := 9223372036854775807) (x := Nm.gcdZ a b) (by omega) hg
    by_cases hz : Nm.gcdZ a b ≤ 0
    · have hz0 : Nm.gcdZ a b = 0 := by omega
      obtain ⟨ha, hb⟩ := gcdZ_none hz0
      subst ha hb
      clear g3 g1 g2 hg hz
      rw [hz0] at f1 f2
      go_enter Tryd.func6, Tryd.ntmps6
      go_wp2_with (first | (go_at_call 8; refine (aliveC _ ht).mono ?_; rintro e w1 ⟨rfl, hb1⟩) | (go_at_call 21; refine (gcdI _ _ _ (by omega) (by omega) (by omega) (by omega)).mono ?_; rintro e w' ⟨rfl, nq, rfl⟩))
      go_ret
      exact ⟨rfl, below_drewN hb1 _⟩
    · have hp : 0 < Nm.gcdZ a b := by omega
      have hq : (Nm.gcdZ a b == 0) = false := by simpa using (show Nm.gcdZ a b ≠ 0 by omega)
      have hq2 : ¬ Nm.gcdZ a b = 0 := by omega
      have t1 := gcdZ_left a b
      have t2 := gcdZ_right a b
      have t3 : (Nm.gcdZ a b != Nm.gcdZ a b) = false := by simp
      by_cases d0 : d = 0
      · subst d0
        go_enter Tryd.func6, Tryd.ntmps6
        go_wp2_with (first | (go_at_call 8; refine (aliveC _ ht).mono ?_; rintro e w1 ⟨rfl, hb1⟩) | (go_at_call 21; refine (gcdI _ _ _ (by omega) (by omega) (by omega) (by omega)).mono ?_; rintro e w' ⟨rfl, nq, rfl⟩))
        go_ret
        exact ⟨rfl, below_drewN hb1 _⟩
      · have d1 : (d == 0) = false := by simpa using d0
        by_cases da : a.tmod d = 0
        · by_cases db : b.tmod d = 0
          · have dg := gcdZ_all da db
            go_enter Tryd.func6, Tryd.ntmps6
            go_wp2_with (first | (go_at_call 8; refine (aliveC _ ht).mono ?_; rintro e w1 ⟨rfl, hb1⟩) | (go_at_call 21; refine (gcdI _ _ _ (by omega) (by omega) (by omega) (by omega)).mono ?_; rintro e w' ⟨rfl, nq, rfl⟩))
            go_ret
            exact ⟨rfl, below_drewN hb1 _⟩
          · have db1 : (b.tmod d != 0) = true := by simpa using db
            go_enter Tryd.func6, Tryd.ntmps6
            go_wp2_with (first | (go_at_call 8; refine (aliveC _ ht).mono ?_; rintro e w1 ⟨rfl, hb1⟩) | (go_at_call 21; refine (gcdI _ _ _ (by omega) (by omega) (by omega) (by omega)).mono ?_; rintro e w' ⟨rfl, nq, rfl⟩))
            go_ret
            exact ⟨rfl, below_drewN hb1 _⟩
        · have da1 : (a.tmod d != 0) = true := by simpa using da
          go_enter Tryd.func6, Tryd.ntmps6
          go_wp2_with (first | (go_at_call 8; refine (aliveC _ ht).mono ?_; rintro e w1 ⟨rfl, hb1⟩) | (go_at_call 21; refine (gcdI _ _ _ (by omega) (by omega) (by omega) (by omega)).mono ?_; rintro e w' ⟨rfl, nq, rfl⟩))
          go_ret
          exact ⟨rfl, below_drewN hb1 _⟩
  · have hG : Nm.gcdZ a b = 9223372036854775808 := by omega
    have f1 := Nm.fitZ_no (l := -9223372036854775808) (h := 9223372036854775807) (x := Nm.gcdZ a b) (by omega)
    have f2 := Nm.fitB_no (l := -9223372036854775808) (h := 9223372036854775807) (x := Nm.gcdZ a b) (by omega)
    have ca := gcdZ_least h1 h2 hG
    have cb := gcdZ_least (b := a) h3 h4 (g3.trans hG)
    have cn : ¬ (a = 0 ∧ b = 0) := by
      rintro ⟨ha, hb⟩
      rw [ha, hb] at hG
      exact absurd hG (by decide)
    clear hG hg g1 g2
    rcases ca with ca | ca
    · have x1 : (a == -9223372036854775808) = true := by simp [ca]
      have x2 : (a != 0) = true := by simp [ca]
      clear ca cn
      rcases cb with cb | cb
      · have y1 : (b == -9223372036854775808) = true := by simp [cb]
        clear cb
        go_enter Tryd.func6, Tryd.ntmps6
        go_wp2_with (first | (go_at_call 8; refine (aliveC _ ht).mono ?_; rintro e w1 ⟨rfl, hb1⟩) | (go_at_call 21; refine (gcdI _ _ _ (by omega) (by omega) (by omega) (by omega)).mono ?_; rintro e w' ⟨rfl, nq, rfl⟩))
        go_ret
        exact ⟨rfl, below_drewN hb1 _⟩
      · have y1 : (b == -9223372036854775808) = false := by simp [cb]
        have y2 : (b == 0) = true := by simp [cb]
        clear cb
        go_enter Tryd.func6, Tryd.ntmps6
        go_wp2_with (first | (go_at_call 8; refine (aliveC _ ht).mono ?_; rintro e w1 ⟨rfl, hb1⟩) | (go_at_call 21; refine (gcdI _ _ _ (by omega) (by omega) (by omega) (by omega)).mono ?_; rintro e w' ⟨rfl, nq, rfl⟩))
        go_ret
        exact ⟨rfl, below_drewN hb1 _⟩
    · have x1 : (a == -9223372036854775808) = false := by simp [ca]
      have x2 : (a == 0) = true := by simp [ca]
      have x3 : (a != 0) = false := by simp [ca]
      rcases cb with cb | cb
      · have y1 : (b == -9223372036854775808) = true := by simp [cb]
        have y2 : (b != 0) = true := by simp [cb]
        clear ca cb cn
        go_enter Tryd.func6, Tryd.ntmps6
        go_wp2_with (first | (go_at_call 8; refine (aliveC _ ht).mono ?_; rintro e w1 ⟨rfl, hb1⟩) | (go_at_call 21; refine (gcdI _ _ _ (by omega) (by omega) (by omega) (by omega)).mono ?_; rintro e w' ⟨rfl, nq, rfl⟩))
        go_ret
        exact ⟨rfl, below_drewN hb1 _⟩
      · exact absurd ⟨ca, cb⟩ cn

end Go.Proofs.YtnbfjoheljlkfabDoor
