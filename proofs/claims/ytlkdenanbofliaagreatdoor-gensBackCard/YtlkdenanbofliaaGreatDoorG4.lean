/- What mayBe, takeLetter and readStates of package gens answer. -/
import Derived.Test.YtlkdenanbofliaaGreatDoorG3
import Derived.Shelf.Strings.SlTrimAscii
namespace Go.Proofs.YtlkdenanbofliaaGreatDoor
open Go.RowKit
set_option linter.unusedVariables false
set_option linter.unusedSimpArgs false
set_option maxRecDepth 100000

/-- May a rule have so many states? -/
def Gn.may (n : Int) : Bool := decide (2 ≤ n ∧ n ≤ 256)
theorem mayBeC (n : Int) (w : World) : Calls Tryz.prog 32 #[.int .i64 n] w fun e w' => e = .returned (.bool (Gn.may n)) ∧ w' = w := by
  by_cases h1 : 2 ≤ n
  · by_cases h2 : n ≤ 256
    · rw [show Gn.may n = true by unfold Gn.may; simp [h1, h2]]
      go_enter Tryz.func32, Tryz.ntmps32
      go_wp2
      go_ret
      exact ⟨rfl, rfl⟩
    · rw [show Gn.may n = false by unfold Gn.may; simp [h1, h2]]
      go_enter Tryz.func32, Tryz.ntmps32
      go_wp2
      go_ret
      exact ⟨rfl, rfl⟩
  · rw [show Gn.may n = false by unfold Gn.may; simp [h1]]
    go_enter Tryz.func32, Tryz.ntmps32
    go_wp2
    go_ret
    exact ⟨rfl, rfl⟩

set_option maxHeartbeats 1000000 in
theorem gletter0 (b : Nat) (s : ByteArray) (i : Nat) (w : World) (h0 : Cu w b s i) (hi : i ≤ s.size) (hs : s.size ≤ maxLen)  (E0 : Hid (Sc.bt s i = 67)) : Calls Tryz.prog 50 #[.pointer (some ⟨b, 0, none⟩)] w fun e w' => e = .returned (.tuple #[]) ∧ Cu w' b s (i + 1) ∧ w.grownBy w' (some b) := by
  go_enter Tryz.func50, Tryz.ntmps50
  go_wp2
  refine wp_loop_rounds 5 ?_
  rw [rounds_succ]
  go_wp2_with (first | (go_at_call 49; (fail_if_success (guard_hyp g1)); refine (takeIs b 67 s i _ h0 hi hs (by omega) E0).mono ?_; rintro e w1 ⟨rfl, h1, g1⟩))
  (try simp only [Exit.inBlock, Exit.then])
  refine bodyPost_ret (results_none rfl _ _ _) rfl ?_
  exact ⟨rfl, h1, g1⟩

set_option maxHeartbeats 1000000 in
theorem gletter1 (b : Nat) (s : ByteArray) (i : Nat) (w : World) (h0 : Cu w b s i) (hi : i ≤ s.size) (hs : s.size ≤ maxLen) (E0 : Hid (¬ Sc.bt s i = 67)) (E1 : Hid (Sc.bt s i = 99)) : Calls Tryz.prog 50 #[.pointer (some ⟨b, 0, none⟩)] w fun e w' => e = .returned (.tuple #[]) ∧ Cu w' b s (i + 1) ∧ w.grownBy w' (some b) := by
  go_enter Tryz.func50, Tryz.ntmps50
  go_wp2
  refine wp_loop_rounds 5 ?_
  rw [rounds_succ]
  go_wp2_with (first | (go_at_call 49; (fail_if_success (guard_hyp g1)); refine (takeIsnt b 67 s i _ h0 hi hs (by omega) E0).mono ?_; rintro e w1 ⟨rfl, h1, g1⟩))
  rw [rounds_succ]
  go_wp2_with (first | (go_at_call 49; (fail_if_success (guard_hyp g2)); refine (takeIs b 99 s i _ h1 hi hs (by omega) E1).mono ?_; rintro e w2 ⟨rfl, h2, g2⟩))
  (try simp only [Exit.inBlock, Exit.then])
  refine bodyPost_ret (results_none rfl _ _ _) rfl ?_
  exact ⟨rfl, h2, (gb_trans g1 g2)⟩

set_option maxHeartbeats 1000000 in
theorem gletter2 (b : Nat) (s : ByteArray) (i : Nat) (w : World) (h0 : Cu w b s i) (hi : i ≤ s.size) (hs : s.size ≤ maxLen) (E0 : Hid (¬ Sc.bt s i = 67)) (E1 : Hid (¬ Sc.bt s i = 99)) (E2 : Hid (Sc.bt s i = 71)) : Calls Tryz.prog 50 #[.pointer (some ⟨b, 0, none⟩)] w fun e w' => e = .returned (.tuple #[]) ∧ Cu w' b s (i + 1) ∧ w.grownBy w' (some b) := by
  go_enter Tryz.func50, Tryz.ntmps50
  go_wp2
  refine wp_loop_rounds 5 ?_
  rw [rounds_succ]
  go_wp2_with (first | (go_at_call 49; (fail_if_success (guard_hyp g1)); refine (takeIsnt b 67 s i _ h0 hi hs (by omega) E0).mono ?_; rintro e w1 ⟨rfl, h1, g1⟩))
  rw [rounds_succ]
  go_wp2_with (first | (go_at_call 49; (fail_if_success (guard_hyp g2)); refine (takeIsnt b 99 s i _ h1 hi hs (by omega) E1).mono ?_; rintro e w2 ⟨rfl, h2, g2⟩))
  rw [rounds_succ]
  go_wp2_with (first | (go_at_call 49; (fail_if_success (guard_hyp g3)); refine (takeIs b 71 s i _ h2 hi hs (by omega) E2).mono ?_; rintro e w3 ⟨rfl, h3, g3⟩))
  (try simp only [Exit.inBlock, Exit.then])
  refine bodyPost_ret (results_none rfl _ _ _) rfl ?_
  exact ⟨rfl, h3, (gb_trans (gb_trans g1 g2) g3)⟩

set_option maxHeartbeats 1000000 in
theorem gletter3 (b : Nat) (s : ByteArray) (i : Nat) (w : World) (h0 : Cu w b s i) (hi : i ≤ s.size) (hs : s.size ≤ maxLen) (E0 : Hid (¬ Sc.bt s i = 67)) (E1 : Hid (¬ Sc.bt s i = 99)) (E2 : Hid (¬ Sc.bt s i = 71)) (E3 : Hid (Sc.bt s i = 103)) : Calls Tryz.prog 50 #[.pointer (some ⟨b, 0, none⟩)] w fun e w' => e = .returned (.tuple #[]) ∧ Cu w' b s (i + 1) ∧ w.grownBy w' (some b) := by
  go_enter Tryz.func50, Tryz.ntmps50
  go_wp2
  refine wp_loop_rounds 5 ?_
  rw [rounds_succ]
  go_wp2_with (first | (go_at_call 49; (fail_if_success (guard_hyp g1)); refine (takeIsnt b 67 s i _ h0 hi hs (by omega) E0).mono ?_; rintro e w1 ⟨rfl, h1, g1⟩))
  rw [rounds_succ]
  go_wp2_with (first | (go_at_call 49; (fail_if_success (guard_hyp g2)); refine (takeIsnt b 99 s i _ h1 hi hs (by omega) E1).mono ?_; rintro e w2 ⟨rfl, h2, g2⟩))
  rw [rounds_succ]
  go_wp2_with (first | (go_at_call 49; (fail_if_success (guard_hyp g3)); refine (takeIsnt b 71 s i _ h2 hi hs (by omega) E2).mono ?_; rintro e w3 ⟨rfl, h3, g3⟩))
  rw [rounds_succ]
  go_wp2_with (first | (go_at_call 49; (fail_if_success (guard_hyp g4)); refine (takeIs b 103 s i _ h3 hi hs (by omega) E3).mono ?_; rintro e w4 ⟨rfl, h4, g4⟩))
  (try simp only [Exit.inBlock, Exit.then])
  refine bodyPost_ret (results_none rfl _ _ _) rfl ?_
  exact ⟨rfl, h4, (gb_trans (gb_trans (gb_trans g1 g2) g3) g4)⟩

set_option maxHeartbeats 1000000 in
theorem gletter4 (b : Nat) (s : ByteArray) (i : Nat) (w : World) (h0 : Cu w b s i) (hi : i ≤ s.size) (hs : s.size ≤ maxLen) (E0 : Hid (¬ Sc.bt s i = 67)) (E1 : Hid (¬ Sc.bt s i = 99)) (E2 : Hid (¬ Sc.bt s i = 71)) (E3 : Hid (¬ Sc.bt s i = 103)) : Calls Tryz.prog 50 #[.pointer (some ⟨b, 0, none⟩)] w fun e w' => e = .returned (.tuple #[]) ∧ Cu w' b s i ∧ w.grownBy w' (some b) := by
  go_enter Tryz.func50, Tryz.ntmps50
  go_wp2
  refine wp_loop_rounds 5 ?_
  rw [rounds_succ]
  go_wp2_with (first | (go_at_call 49; (fail_if_success (guard_hyp g1)); refine (takeIsnt b 67 s i _ h0 hi hs (by omega) E0).mono ?_; rintro e w1 ⟨rfl, h1, g1⟩))
  rw [rounds_succ]
  go_wp2_with (first | (go_at_call 49; (fail_if_success (guard_hyp g2)); refine (takeIsnt b 99 s i _ h1 hi hs (by omega) E1).mono ?_; rintro e w2 ⟨rfl, h2, g2⟩))
  rw [rounds_succ]
  go_wp2_with (first | (go_at_call 49; (fail_if_success (guard_hyp g3)); refine (takeIsnt b 71 s i _ h2 hi hs (by omega) E2).mono ?_; rintro e w3 ⟨rfl, h3, g3⟩))
  rw [rounds_succ]
  go_wp2_with (first | (go_at_call 49; (fail_if_success (guard_hyp g4)); refine (takeIsnt b 103 s i _ h3 hi hs (by omega) E3).mono ?_; rintro e w4 ⟨rfl, h4, g4⟩))
  rw [rounds_succ]
  go_wp2
  go_end0
  exact ⟨rfl, h4, (gb_trans (gb_trans (gb_trans g1 g2) g3) g4)⟩
theorem takeLetterC (b : Nat) (s : ByteArray) (i : Nat) (w : World) (h : Cu w b s i) (hi : i ≤ s.size) (hs : s.size ≤ maxLen) : Calls Tryz.prog 50 #[.pointer (some ⟨b, 0, none⟩)] w fun e w' => e = .returned (.tuple #[]) ∧ Cu w' b s (Gn.le1 s i) ∧ w.grownBy w' (some b) := by
  unfold Gn.le1
  by_cases e0 : Sc.bt s i = 67
  · rw [if_pos (by rw [e0]; rfl)]; exact gletter0 b s i w h hi hs e0
  by_cases e1 : Sc.bt s i = 99
  · rw [if_pos (by rw [e1]; rfl)]; exact gletter1 b s i w h hi hs e0 e1
  by_cases e2 : Sc.bt s i = 71
  · rw [if_pos (by rw [e2]; rfl)]; exact gletter2 b s i w h hi hs e0 e1 e2
  by_cases e3 : Sc.bt s i = 103
  · rw [if_pos (by rw [e3]; rfl)]; exact gletter3 b s i w h hi hs e0 e1 e2 e3
  rw [if_neg (by unfold Gn.isG; simp [e0, e1, e2, e3])]
  exact gletter4 b s i w h hi hs e0 e1 e2 e3
end Go.Proofs.YtlkdenanbofliaaGreatDoor
