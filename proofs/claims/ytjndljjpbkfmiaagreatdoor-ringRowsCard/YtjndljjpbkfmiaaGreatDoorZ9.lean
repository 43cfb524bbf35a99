/- New. -/
import Derived.Test.YtjndljjpbkfmiaaGreatDoorZ4
namespace Go.Proofs.YtjndljjpbkfmiaaGreatDoor
open Go.RowKit
set_option linter.unusedVariables false
set_option linter.unusedSimpArgs false
set_option maxRecDepth 100000

theorem isSideC (n : Int) (w : World) : Calls Tryz.prog 79 #[.int .i64 n] w fun e w' => e = .returned (.bool (decide (1 ≤ n ∧ n ≤ 65536))) ∧ w' = w := by
  by_cases h1 : 1 ≤ n
  · by_cases h2 : n ≤ 65536
    · go_enter Tryz.func79, Tryz.ntmps79
      go_wp2
      go_ret
      exact ⟨by simp [h1, h2], rfl⟩
    · go_enter Tryz.func79, Tryz.ntmps79
      go_wp2
      go_ret
      exact ⟨by simp [h1]; omega, rfl⟩
  · go_enter Tryz.func79, Tryz.ntmps79
    go_wp2
    go_ret
    exact ⟨by simp; intros; omega, rfl⟩
theorem fitsC (C R S : Int) (w : World) : Calls Tryz.prog 80 #[.agg #[.int .i64 C, .int .i64 R, .int .i64 S]] w fun e w' => e = .returned (.bool (S == 2)) ∧ w.grownBy w' none := by
  obtain ⟨W1, hW1, sz1, g1, B1⟩ := boxn w #[.int .i64 C, .int .i64 R, .int .i64 S] 120
  have c2 := B1.cell 2 (v := .int .i64 S) rfl
  go_enter Tryz.func80, Tryz.ntmps80
  go_wp2
  go_ret
  exact ⟨rfl, g1⟩
/-- Why there can't be a field. -/
def ckE (C R S : Int) (p : Bool) : Int :=
  if 1 ≤ C ∧ C ≤ 65536 ∧ 1 ≤ R ∧ R ≤ 65536 ∧ 2 ≤ S ∧ S ≤ 256 then (if p = true ∧ S ≠ 2 then 132 else if 1048576 < C * R then 4 else 0) else 2
theorem checkC (C R S : Int) (p : Bool) (w : World) : Calls Tryz.prog 63 #[.agg #[.int .i64 C, .int .i64 R, .int .i64 S], .bool p] w fun e w' => e = .returned (.int .i64 (ckE C R S p)) ∧ w.grownBy w' none := by
  obtain ⟨W1, hW1, sz1, g1, B1⟩ := boxn w #[.int .i64 C, .int .i64 R, .int .i64 S] 120
  have c0 := B1.cell 0 (v := .int .i64 C) rfl
  have c1 := B1.cell 1 (v := .int .i64 R) rfl
  have c2 := B1.cell 2 (v := .int .i64 S) rfl
  by_cases h1 : 1 ≤ C ∧ C ≤ 65536
  · have s1 := fun w => isSideC C w
    rw [decide_eq_true h1] at s1
    by_cases h2 : 1 ≤ R ∧ R ≤ 65536
    · have s2 := fun w => isSideC R w
      rw [decide_eq_true h2] at s2
      by_cases h3 : S < 2
      · have h3' : ¬ (2 ≤ S) := by omega
        go_enter Tryz.func63, Tryz.ntmps63
        go_wp2_with (first | ((fail_if_success (guard_hyp mk1)); go_at_call 79; refine (s1 W1).mono ?_; rintro e V ⟨rfl, hV⟩; subst V; have mk1 : True := trivial) | (guard_hyp mk1; (fail_if_success (guard_hyp mk2)); go_at_call 79; refine (s2 W1).mono ?_; rintro e V ⟨rfl, hV⟩; subst V; have mk2 : True := trivial))
        go_ret
        exact ⟨by rw [ckE, if_neg (by omega)]; try rfl, g1⟩
      · by_cases h4 : 256 < S
        · have h4' : ¬ (S ≤ 256) := by omega
          go_enter Tryz.func63, Tryz.ntmps63
          go_wp2_with (first | ((fail_if_success (guard_hyp mk1)); go_at_call 79; refine (s1 W1).mono ?_; rintro e V ⟨rfl, hV⟩; subst V; have mk1 : True := trivial) | (guard_hyp mk1; (fail_if_success (guard_hyp mk2)); go_at_call 79; refine (s2 W1).mono ?_; rintro e V ⟨rfl, hV⟩; subst V; have mk2 : True := trivial))
          go_ret
          exact ⟨by rw [ckE, if_neg (by omega)]; try rfl, g1⟩
        · have hin : 1 ≤ C ∧ C ≤ 65536 ∧ 1 ≤ R ∧ R ≤ 65536 ∧ 2 ≤ S ∧ S ≤ 256 := by omega
          have hmul0 : 0 ≤ C * R := Int.mul_nonneg (by omega) (by omega)
          have hmul1 : C * R ≤ 65536 * 65536 := Int.mul_le_mul h1.2 h2.2 (by omega) (by omega)
          have hwr : IntKind.i64.wrap (C * R) = C * R := by rw [IntKind.wrap_i64]; omega
          have hwr2 : wrap64 (C * R) = C * R := by unfold wrap64; omega
          have HE : Hid (ckE C R S p = if p = true ∧ S ≠ 2 then 132 else if 1048576 < C * R then 4 else 0) := by unfold Hid; rw [ckE, if_pos hin]
          clear hin h1 h2 hmul0 hmul1
          cases p with
          | true =>
            have ft := fun w => fitsC C R S w
            by_cases h5 : S = 2
            · subst h5
              rw [show ((2 : Int) == 2) = true from rfl] at ft
              by_cases h6 : 1048576 < C * R
              · go_enter Tryz.func63, Tryz.ntmps63
                go_wp2_with (first | ((fail_if_success (guard_hyp mk1)); go_at_call 79; refine (s1 W1).mono ?_; rintro e V ⟨rfl, hV⟩; subst V; have mk1 : True := trivial) | (guard_hyp mk1; (fail_if_success (guard_hyp mk2)); go_at_call 79; refine (s2 W1).mono ?_; rintro e V ⟨rfl, hV⟩; subst V; have mk2 : True := trivial) | (go_at_call 80; refine (ft W1).mono ?_; rintro e V ⟨rfl, gV⟩; have B1 := B1.kept gV (by simp); have c0 := B1.cell 0 (v := .int .i64 C) rfl; have c1 := B1.cell 1 (v := .int .i64 R) rfl))
                go_ret
                exact ⟨by rw [HE.out, if_neg (by simp), if_pos h6]; try rfl, gb_trans g1 gV⟩
              · have h6' : ¬ (1048576 < C * R) := h6
                go_enter Tryz.func63, Tryz.ntmps63
                go_wp2_with (first | ((fail_if_success (guard_hyp mk1)); go_at_call 79; refine (s1 W1).mono ?_; rintro e V ⟨rfl, hV⟩; subst V; have mk1 : True := trivial) | (guard_hyp mk1; (fail_if_success (guard_hyp mk2)); go_at_call 79; refine (s2 W1).mono ?_; rintro e V ⟨rfl, hV⟩; subst V; have mk2 : True := trivial) | (go_at_call 80; refine (ft W1).mono ?_; rintro e V ⟨rfl, gV⟩; have B1 := B1.kept gV (by simp); have c0 := B1.cell 0 (v := .int .i64 C) rfl; have c1 := B1.cell 1 (v := .int .i64 R) rfl))
                go_ret
                exact ⟨by rw [HE.out, if_neg (by simp), if_neg (by omega)]; try rfl, gb_trans g1 gV⟩
            · have h5' : (S == 2) = false := by simp [h5]
              rw [h5'] at ft
              clear h5'
              go_enter Tryz.func63, Tryz.ntmps63
              go_wp2_with (first | ((fail_if_success (guard_hyp mk1)); go_at_call 79; refine (s1 W1).mono ?_; rintro e V ⟨rfl, hV⟩; subst V; have mk1 : True := trivial) | (guard_hyp mk1; (fail_if_success (guard_hyp mk2)); go_at_call 79; refine (s2 W1).mono ?_; rintro e V ⟨rfl, hV⟩; subst V; have mk2 : True := trivial) | (go_at_call 80; refine (ft W1).mono ?_; rintro e V ⟨rfl, gV⟩; have B1 := B1.kept gV (by simp); have c0 := B1.cell 0 (v := .int .i64 C) rfl; have c1 := B1.cell 1 (v := .int .i64 R) rfl))
              go_ret
              exact ⟨by rw [HE.out, if_pos (by simp [h5])]; try rfl, gb_trans g1 gV⟩
          | false =>
            by_cases h6 : 1048576 < C * R
            · go_enter Tryz.func63, Tryz.ntmps63
              go_wp2_with (first | ((fail_if_success (guard_hyp mk1)); go_at_call 79; refine (s1 W1).mono ?_; rintro e V ⟨rfl, hV⟩; subst V; have mk1 : True := trivial) | (guard_hyp mk1; (fail_if_success (guard_hyp mk2)); go_at_call 79; refine (s2 W1).mono ?_; rintro e V ⟨rfl, hV⟩; subst V; have mk2 : True := trivial))
              go_ret
              exact ⟨by rw [HE.out, if_neg (by simp), if_pos h6]; try rfl, g1⟩
            · go_enter Tryz.func63, Tryz.ntmps63
              go_wp2_with (first | ((fail_if_success (guard_hyp mk1)); go_at_call 79; refine (s1 W1).mono ?_; rintro e V ⟨rfl, hV⟩; subst V; have mk1 : True := trivial) | (guard_hyp mk1; (fail_if_success (guard_hyp mk2)); go_at_call 79; refine (s2 W1).mono ?_; rintro e V ⟨rfl, hV⟩; subst V; have mk2 : True := trivial))
              go_ret
              exact ⟨by rw [HE.out, if_neg (by simp), if_neg (by omega)]; try rfl, g1⟩
    · have s2 := fun w => isSideC R w
      rw [decide_eq_false h2] at s2
      go_enter Tryz.func63, Tryz.ntmps63
      go_wp2_with (first | ((fail_if_success (guard_hyp mk1)); go_at_call 79; refine (s1 W1).mono ?_; rintro e V ⟨rfl, hV⟩; subst V; have mk1 : True := trivial) | (guard_hyp mk1; (fail_if_success (guard_hyp mk2)); go_at_call 79; refine (s2 W1).mono ?_; rintro e V ⟨rfl, hV⟩; subst V; have mk2 : True := trivial))
      go_ret
      exact ⟨by rw [ckE, if_neg (by omega)]; try rfl, g1⟩
  · have s1 := fun w => isSideC C w
    rw [decide_eq_false h1] at s1
    go_enter Tryz.func63, Tryz.ntmps63
    go_wp2_with (first | ((fail_if_success (guard_hyp mk1)); go_at_call 79; refine (s1 W1).mono ?_; rintro e V ⟨rfl, hV⟩; subst V; have mk1 : True := trivial))
    go_ret
    exact ⟨by rw [ckE, if_neg (by omega)]; try rfl, g1⟩
end Go.Proofs.YtjndljjpbkfmiaaGreatDoor
