/- Check of package ring. -/
import Derived.Test.YtjndljjpbkfmiabGreatDoorK3
import Derived.BigQuiet
namespace Go.Proofs.YtjndljjpbkfmiabGreatDoor
open Go.RowKit
set_option linter.unusedVariables false
set_option linter.unusedSimpArgs false
set_option maxRecDepth 100000

theorem sideC (n : Int) (w : World) : Calls Tryz.prog 49 #[.int .i64 n] w fun e w' => e = .returned (.bool (decide (1 ≤ n ∧ n ≤ 65536))) ∧ w' = w := by
  by_cases h1 : 1 ≤ n
  · by_cases h2 : n ≤ 65536
    · rw [decide_eq_true ⟨h1, h2⟩]
      go_enter Tryz.func49, Tryz.ntmps49
      go_wp2
      go_ret
      exact ⟨by simp [h1, h2], rfl⟩
    · rw [decide_eq_false (fun h => h2 h.2)]
      go_enter Tryz.func49, Tryz.ntmps49
      go_wp2
      go_ret
      exact ⟨by simp [h1, h2], rfl⟩
  · rw [decide_eq_false (fun h => h1 h.1)]
    go_enter Tryz.func49, Tryz.ntmps49
    go_wp2
    go_ret
    exact ⟨by simp [h1], rfl⟩
/-- What Check answers. -/
def fmE (x y : Int) (n : Nat) : Int := if (1 ≤ x ∧ x ≤ 65536) ∧ (1 ≤ y ∧ y ≤ 65536) ∧ x * y ≤ 1048576 ∧ (n : Int) = (x + 2) * (y + 2) then 0 else 140
set_option maxHeartbeats 1000000 in
theorem checkF (x y : Int) (sp : Option Addr) (n c : Nat) (w : World) : Calls Tryz.prog 32 #[.agg #[.int .i64 x, .int .i64 y, .slice sp n c]] w fun e w' => e = .returned (.int .i64 (fmE x y n)) ∧ w.grownBy w' none := by
  obtain ⟨W1, hW1, sz1, g1, B1⟩ := boxn w #[.int .i64 x, .int .i64 y, .slice sp n c] 33
  have b1_0 := B1.cell 0 (v := .int .i64 x) rfl
  have b1_1 := B1.cell 1 (v := .int .i64 y) rfl
  have b1_2 := B1.cell 2 (v := .slice sp n c) rfl
  have hx := fun w => sideC x w
  have hy := fun w => sideC y w
  by_cases h1 : 1 ≤ x ∧ x ≤ 65536
  · rw [decide_eq_true h1] at hx
    by_cases h2 : 1 ≤ y ∧ y ≤ 65536
    · rw [decide_eq_true h2] at hy
      obtain ⟨a, rfl⟩ := Int.eq_ofNat_of_zero_le (show 0 ≤ x by omega)
      obtain ⟨b, rfl⟩ := Int.eq_ofNat_of_zero_le (show 0 ≤ y by omega)
      have m1 : a * b ≤ 65536 * 65536 := Nat.mul_le_mul (by omega) (by omega)
      have m2 : (a + 2) * (b + 2) ≤ 65538 * 65538 := Nat.mul_le_mul (by omega) (by omega)
      have e1 : (a : Int) * (b : Int) = ((a * b : Nat) : Int) := by simp
      have e2 : ((a : Int) + 2) * ((b : Int) + 2) = (((a + 2) * (b + 2) : Nat) : Int) := by simp
      obtain ⟨p, hp⟩ : ∃ p, a * b = p := ⟨_, rfl⟩
      obtain ⟨q, hq⟩ : ∃ q, (a + 2) * (b + 2) = q := ⟨_, rfl⟩
      rw [hp] at m1 e1
      rw [hq] at m2 e2
      have w1 : IntKind.i64.wrap ((a : Int) * (b : Int)) = (p : Int) := by rw [e1, IntKind.wrap_i64]; omega
      have w2 : IntKind.i64.wrap (((a : Int) + 2) * ((b : Int) + 2)) = (q : Int) := by rw [e2, IntKind.wrap_i64]; omega
      have HE : Hid (fmE a b n = if (p : Int) ≤ 1048576 ∧ (n : Int) = q then 0 else 140) := by
        unfold Hid fmE
        rw [e1, e2]
        by_cases hh : (p : Int) ≤ 1048576 ∧ (n : Int) = q
        · rw [if_pos ⟨h1, h2, hh.1, hh.2⟩, if_pos hh]
        · rw [if_neg (fun t => hh ⟨t.2.2.1, t.2.2.2⟩), if_neg hh]
      clear hp hq e1 e2
      by_cases h3 : 1048576 < (p : Int)
      · rw [show fmE a b n = 140 by rw [HE.out, if_neg (by omega)]]
        go_enter Tryz.func32, Tryz.ntmps32
        go_wp2_with (first | (go_at_call 49; (fail_if_success (guard_hyp mk1)); refine (hx _).mono ?_; rintro e w' ⟨rfl, hw'⟩; subst w'; have mk1 : True := trivial) | (go_at_call 49; refine (hy _).mono ?_; rintro e w' ⟨rfl, hw'⟩; subst w'))
        go_ret
        exact ⟨rfl, g1⟩
      · have h3' : decide (1048576 < (p : Int)) = false := decide_eq_false h3
        by_cases h4 : n = q
        · rw [show fmE a b n = 0 by rw [HE.out, if_pos (by omega)]]
          subst h4
          clear h3
          go_enter Tryz.func32, Tryz.ntmps32
          go_wp2_with (first | (go_at_call 49; (fail_if_success (guard_hyp mk1)); refine (hx _).mono ?_; rintro e w' ⟨rfl, hw'⟩; subst w'; have mk1 : True := trivial) | (go_at_call 49; refine (hy _).mono ?_; rintro e w' ⟨rfl, hw'⟩; subst w'))
          go_ret
          exact ⟨rfl, g1⟩
        · rw [show fmE a b n = 140 by rw [HE.out, if_neg (by omega)]]
          have h4' : ((n : Int) != (q : Int)) = true := by simp; omega
          clear h3
          go_enter Tryz.func32, Tryz.ntmps32
          go_wp2_with (first | (go_at_call 49; (fail_if_success (guard_hyp mk1)); refine (hx _).mono ?_; rintro e w' ⟨rfl, hw'⟩; subst w'; have mk1 : True := trivial) | (go_at_call 49; refine (hy _).mono ?_; rintro e w' ⟨rfl, hw'⟩; subst w'))
          go_ret
          exact ⟨rfl, g1⟩
    · rw [decide_eq_false h2] at hy
      rw [show fmE x y n = 140 from if_neg (fun t => h2 t.2.1)]
      clear h1 h2
      go_enter Tryz.func32, Tryz.ntmps32
      go_wp2_with (first | (go_at_call 49; (fail_if_success (guard_hyp mk1)); refine (hx _).mono ?_; rintro e w' ⟨rfl, hw'⟩; subst w'; have mk1 : True := trivial) | (go_at_call 49; refine (hy _).mono ?_; rintro e w' ⟨rfl, hw'⟩; subst w'))
      go_ret
      exact ⟨rfl, g1⟩
  · rw [decide_eq_false h1] at hx
    rw [show fmE x y n = 140 from if_neg (fun t => h1 t.1)]
    clear h1
    go_enter Tryz.func32, Tryz.ntmps32
    go_wp2_with (first | (go_at_call 49; (fail_if_success (guard_hyp mk1)); refine (hx _).mono ?_; rintro e w' ⟨rfl, hw'⟩; subst w'; have mk1 : True := trivial) | (go_at_call 49; refine (hy _).mono ?_; rintro e w' ⟨rfl, hw'⟩; subst w'))
    go_ret
    exact ⟨rfl, g1⟩
end Go.Proofs.YtjndljjpbkfmiabGreatDoor
