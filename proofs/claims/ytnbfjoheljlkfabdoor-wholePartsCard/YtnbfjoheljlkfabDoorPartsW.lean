import Derived.Test.YtnbfjoheljlkfabDoorAlive
namespace Go.Proofs.YtnbfjoheljlkfabDoor
open Go.RowKit
set_option linter.unusedVariables false

theorem modZ_pos {a n : Int} (hn : 1 ≤ n) : 0 ≤ Nm.modZ a n ∧ Nm.modZ a n < n := by
  rw [Nm.modZ_yes hn]
  exact ⟨Int.emod_nonneg a (by omega), Int.emod_lt_of_pos a (by omega)⟩
theorem parts_sum {a n : Int} (hn : 1 ≤ n) : Nm.divZ a n * n + Nm.modZ a n = a := by
  rw [Nm.modZ_yes hn, Nm.divZ_yes hn, Int.mul_comm]
  exact Int.mul_ediv_add_emod a n
theorem parts_back64 (a n : Int) (hn : 1 ≤ n) (h1 : -9223372036854775808 ≤ a) (h2 : a ≤ 9223372036854775807) : (wrap64 (wrap64 (Nm.divZ a n * n) + Nm.modZ a n) != a) = false := by
  have h := parts_sum (a := a) hn
  have : wrap64 (wrap64 (Nm.divZ a n * n) + Nm.modZ a n) = a := by
    unfold wrap64
    generalize Nm.divZ a n * n = x at h
    omega
  simp [this]
theorem parts_back8 (b m : Int) (hm : 1 ≤ m) (h1 : -128 ≤ b) (h2 : b ≤ 127) (h3 : m ≤ 127) : -255 ≤ Nm.divZ b m * m ∧ Nm.divZ b m * m ≤ 127 ∧ (Nm.divZ b m * m + Nm.modZ b m != b) = false := by
  have h := parts_sum (a := b) hm
  have hp := modZ_pos (a := b) hm
  refine ⟨by omega, by omega, by simp [h]⟩

set_option maxHeartbeats 4000000 in
set_option maxRecDepth 100000 in
theorem parts_walk (a n b m : Int) (w : World) (h1 : -9223372036854775808 ≤ a) (h2 : a ≤ 9223372036854775807) (h3 : -9223372036854775808 ≤ n) (h4 : n ≤ 9223372036854775807) (h5 : -128 ≤ b) (h6 : b ≤ 127) (h7 : -128 ≤ m) (h8 : m ≤ 127) (ht : Hid (Tab w)) :
    Calls Tryd.prog 3 #[.int .i64 a, .int .i64 n, .int .i8 b, .int .i8 m] w fun e w' => e = .returned (.bool true) ∧ Below w.heap.size w w' := by
  obtain ⟨d1, d2⟩ := Nm.divZ_bd (n := m) h5 h6 (by omega) (by omega)
  obtain ⟨d3, d4⟩ := Nm.modZ_bd (a := b) h8 (by omega)
  by_cases hn : n < 1
  · have n1 := Nm.modZ_no (a := a) hn
    have n2 := Nm.divZ_no (a := a) hn
    have n3 := Nm.posB_no hn
    have n4 : ¬ 1 ≤ n := by omega
    by_cases hm : m < 1
    · have m1 := Nm.modZ_no (a := b) hm
      have m2 := Nm.divZ_no (a := b) hm
      have m3 := Nm.posB_no hm
      have m4 : ¬ 1 ≤ m := by omega
      clear d1 d2 d3 d4
      go_enter Tryd.func3, Tryd.ntmps3
      go_wp2_with (first | (go_at_call 8; refine (aliveC _ ht).mono ?_; rintro e w1 ⟨rfl, hb1⟩) | (go_at_call 9; refine (divI _ _ _ (by omega) (by omega) (by omega) (by omega)).mono ?_; rintro e w' ⟨rfl, rfl⟩) | (go_at_call 10; refine (modI _ _ _ (by omega) (by omega) (by omega) (by omega)).mono ?_; rintro e w' ⟨rfl, rfl⟩) | (go_at_call 11; refine (div8 _ _ _ (by omega) (by omega) (by omega) (by omega)).mono ?_; rintro e w' ⟨rfl, rfl⟩) | (go_at_call 12; refine (mod8 _ _ _ (by omega) (by omega) (by omega) (by omega)).mono ?_; rintro e w' ⟨rfl, rfl⟩))
      go_ret
      exact ⟨rfl, hb1⟩
    · have hm1 : 1 ≤ m := by omega
      have m3 := Nm.posB_yes hm1
      obtain ⟨m4, m5⟩ := modZ_pos (a := b) hm1
      obtain ⟨m6, m7, m8⟩ := parts_back8 b m hm1 h5 h6 h8
      go_enter Tryd.func3, Tryd.ntmps3
      go_wp2_with (first | (go_at_call 8; refine (aliveC _ ht).mono ?_; rintro e w1 ⟨rfl, hb1⟩) | (go_at_call 9; refine (divI _ _ _ (by omega) (by omega) (by omega) (by omega)).mono ?_; rintro e w' ⟨rfl, rfl⟩) | (go_at_call 10; refine (modI _ _ _ (by omega) (by omega) (by omega) (by omega)).mono ?_; rintro e w' ⟨rfl, rfl⟩) | (go_at_call 11; refine (div8 _ _ _ (by omega) (by omega) (by omega) (by omega)).mono ?_; rintro e w' ⟨rfl, rfl⟩) | (go_at_call 12; refine (mod8 _ _ _ (by omega) (by omega) (by omega) (by omega)).mono ?_; rintro e w' ⟨rfl, rfl⟩))
      go_ret
      exact ⟨rfl, hb1⟩
  · have hn1 : 1 ≤ n := by omega
    have n3 := Nm.posB_yes hn1
    obtain ⟨n4, n5⟩ := modZ_pos (a := a) hn1
    have n6 := parts_back64 a n hn1 h1 h2
    by_cases hm : m < 1
    · have m1 := Nm.modZ_no (a := b) hm
      have m2 := Nm.divZ_no (a := b) hm
      have m3 := Nm.posB_no hm
      have m4 : ¬ 1 ≤ m := by omega
      clear d1 d2 d3 d4
      go_enter Tryd.func3, Tryd.ntmps3
      go_wp2_with (first | (go_at_call 8; refine (aliveC _ ht).mono ?_; rintro e w1 ⟨rfl, hb1⟩) | (go_at_call 9; refine (divI _ _ _ (by omega) (by omega) (by omega) (by omega)).mono ?_; rintro e w' ⟨rfl, rfl⟩) | (go_at_call 10; refine (modI _ _ _ (by omega) (by omega) (by omega) (by omega)).mono ?_; rintro e w' ⟨rfl, rfl⟩) | (go_at_call 11; refine (div8 _ _ _ (by omega) (by omega) (by omega) (by omega)).mono ?_; rintro e w' ⟨rfl, rfl⟩) | (go_at_call 12; refine (mod8 _ _ _ (by omega) (by omega) (by omega) (by omega)).mono ?_; rintro e w' ⟨rfl, rfl⟩))
      go_ret
      exact ⟨rfl, hb1⟩
    · have hm1 : 1 ≤ m := by omega
      have m3 := Nm.posB_yes hm1
      obtain ⟨m4, m5⟩ := modZ_pos (a := b) hm1
      obtain ⟨m6, m7, m8⟩ := parts_back8 b m hm1 h5 h6 h8
      go_enter Tryd.func3, Tryd.ntmps3
      go_wp2_with (first | (go_at_call 8; refine (aliveC _ ht).mono ?_; rintro e w1 ⟨rfl, hb1⟩) | (go_at_call 9; refine (divI _ _ _ (by omega) (by omega) (by omega) (by omega)).mono ?_; rintro e w' ⟨rfl, rfl⟩) | (go_at_call 10; refine (modI _ _ _ (by omega) (by omega) (by omega) (by omega)).mono ?_; rintro e w' ⟨rfl, rfl⟩) | (go_at_call 11; refine (div8 _ _ _ (by omega) (by omega) (by omega) (by omega)).mono ?_; rintro e w' ⟨rfl, rfl⟩) | (go_at_call 12; refine (mod8 _ _ _ (by omega) (by omega) (by omega) (by omega)).mono ?_; rintro e w' ⟨rfl, rfl⟩))
      go_ret
      exact ⟨rfl, hb1⟩

end Go.Proofs.YtnbfjoheljlkfabDoor
