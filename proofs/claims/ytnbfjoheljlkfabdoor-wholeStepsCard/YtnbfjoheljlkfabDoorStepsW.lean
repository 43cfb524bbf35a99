import Derived.Test.YtnbfjoheljlkfabDoorAlive
namespace Go.Proofs.YtnbfjoheljlkfabDoor
open Go.RowKit
set_option linter.unusedVariables false

theorem step_mod {a n : Int} (hn : 1 ≤ n) : Nm.modZ (a + n) n = Nm.modZ a n := by
  rw [Nm.modZ_yes hn, Nm.modZ_yes hn]
  exact Int.add_emod_right a n
theorem step_div {a n : Int} (hn : 1 ≤ n) : Nm.divZ (a + n) n = Nm.divZ a n + 1 := by
  rw [Nm.divZ_yes hn, Nm.divZ_yes hn, Int.add_ediv_of_dvd_right (Int.dvd_refl n), Int.ediv_self (by omega)]

set_option maxHeartbeats 4000000 in
set_option maxRecDepth 100000 in
theorem steps_walk (a n : Int) (w : World) (h1 : -2147483648 ≤ a) (h2 : a ≤ 2147483647) (h3 : -2147483648 ≤ n) (h4 : n ≤ 2147483647) (ht : Hid (Tab w)) :
    Calls Tryd.prog 4 #[.int .i32 a, .int .i32 n] w fun e w' => e = .returned (.bool true) ∧ Below w.heap.size w w' := by
  by_cases hn : n < 1
  · go_enter Tryd.func4, Tryd.ntmps4
    go_wp2_with (first | (go_at_call 8; refine (aliveC _ ht).mono ?_; rintro e w1 ⟨rfl, hb1⟩) | (go_at_call 15; refine (div32 _ _ _ (by omega) (by omega) (by omega) (by omega)).mono ?_; rintro e w' ⟨rfl, rfl⟩) | (go_at_call 14; refine (mod32 _ _ _ (by omega) (by omega) (by omega) (by omega)).mono ?_; rintro e w' ⟨rfl, rfl⟩) | (go_at_call 13; refine (add32 _ _ _ (by omega) (by omega) (by omega) (by omega)).mono ?_; rintro e w' ⟨rfl, rfl⟩))
    go_ret
    exact ⟨rfl, hb1⟩
  · have hn1 : 1 ≤ n := by omega
    by_cases hr : a + n ≤ 2147483647
    · have hl : -2147483648 ≤ a + n := by omega
      have f1 := Nm.fitZ_yes hl hr
      have f2 := Nm.fitB_yes hl hr
      have s1 := step_mod (a := a) hn1
      have s2 := step_div (a := a) hn1
      have s3 := Nm.posB_yes hn1
      obtain ⟨d1, d2⟩ := Nm.divZ_bd (a := a + n) (n := n) hl hr (by omega) (by omega)
      rw [s2] at d1 d2
      have x1 : (Nm.modZ a n == Nm.modZ a n) = true := by simp
      have x2 : (Nm.divZ a n + 1 == Nm.divZ a n + 1) = true := by simp
      go_enter Tryd.func4, Tryd.ntmps4
      go_wp2_with (first | (go_at_call 8; refine (aliveC _ ht).mono ?_; rintro e w1 ⟨rfl, hb1⟩) | (go_at_call 15; refine (div32 _ _ _ (by omega) (by omega) (by omega) (by omega)).mono ?_; rintro e w' ⟨rfl, rfl⟩) | (go_at_call 14; refine (mod32 _ _ _ (by omega) (by omega) (by omega) (by omega)).mono ?_; rintro e w' ⟨rfl, rfl⟩) | (go_at_call 13; refine (add32 _ _ _ (by omega) (by omega) (by omega) (by omega)).mono ?_; rintro e w' ⟨rfl, rfl⟩))
      go_ret
      exact ⟨rfl, hb1⟩
    · have f2 := Nm.fitB_no (l := -2147483648) (h := 2147483647) (x := a + n) (by omega)
      go_enter Tryd.func4, Tryd.ntmps4
      go_wp2_with (first | (go_at_call 8; refine (aliveC _ ht).mono ?_; rintro e w1 ⟨rfl, hb1⟩) | (go_at_call 15; refine (div32 _ _ _ (by omega) (by omega) (by omega) (by omega)).mono ?_; rintro e w' ⟨rfl, rfl⟩) | (go_at_call 14; refine (mod32 _ _ _ (by omega) (by omega) (by omega) (by omega)).mono ?_; rintro e w' ⟨rfl, rfl⟩) | (go_at_call 13; refine (add32 _ _ _ (by omega) (by omega) (by omega) (by omega)).mono ?_; rintro e w' ⟨rfl, rfl⟩))
      go_ret
      exact ⟨rfl, hb1⟩

end Go.Proofs.YtnbfjoheljlkfabDoor
