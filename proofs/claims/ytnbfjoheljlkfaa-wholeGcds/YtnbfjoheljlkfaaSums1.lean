/- What the document's own Fits and Add answer at every numbers, of 8, 16, 32 and 64 bits. -/
import Derived.Test.YtnbfjoheljlkfaaSums0
namespace Go.Proofs.Ytnbfjoheljlkfaa
open Go.RowKit
set_option linter.unusedVariables false

set_option maxHeartbeats 400000 in
theorem fitsRefB (n b : Int) (m : Nat) (w : World) (h1 : -9223372036854775808 ≤ n) (h2 : n ≤ 9223372036854775807) (b1 : 1 ≤ b) (b2 : b ≤ 64) (hb : Hid (b + m = 64)) :
    Calls Try.prog 47 #[.int .i64 n, .int .i64 b] w fun e w' => e = .returned (.tuple #[.int .i64 (Nm.fitZ (-Nm.hiZ m - 1) (Nm.hiZ m) n), .bool (Nm.fitB (-Nm.hiZ m - 1) (Nm.hiZ m) n)]) ∧ w' = w := by
  go_enter Try.func47, Try.ntmps47
  go_wp2
  go_loop [6, 7] (fun hh i => ∃ j : Nat, j ≤ m ∧ i = .int .i64 (64 - (j : Int)) ∧ hh = .int .i64 (Nm.hiZ j)) (fun _ i => (intOf i).toNat)
  case atStart => exact ⟨0, Nat.zero_le _, rfl, rfl⟩
  case round =>
    obtain ⟨j, hj, rfl, rfl⟩ := hrel
    have hq := Nm.hiZ_bd j
    obtain ⟨q1, q2⟩ := hq
    have hbo := hb.out
    by_cases hlt : j < m
    · have t1 : b < 64 - (j : Int) := by omega
      have t2 : (j : Int) ≤ 64 := by omega
      clear hbo
      go_wp2
      go_round
      case rel => exact ⟨j + 1, by omega, by go_num, rfl⟩
      case measure => simp [intOf]; omega
    · have hjm : j = m := by omega
      subst hjm
      have t1 : ¬ b < 64 - (j : Int) := by omega
      have t2 : (j : Int) ≤ 64 := by omega
      clear hbo hlt hj
      by_cases c1 : Nm.hiZ j < n
      · have H1 : Hid (¬ (-Nm.hiZ j - 1 ≤ n ∧ n ≤ Nm.hiZ j)) := by unfold Hid; omega
        go_wp2
        go_ret2
        exact ⟨ret2 (Nm.fitZ_no H1.out).symm (Nm.fitB_no H1.out).symm, rfl⟩
      · by_cases c2 : n < -Nm.hiZ j - 1
        · have H1 : Hid (¬ (-Nm.hiZ j - 1 ≤ n ∧ n ≤ Nm.hiZ j)) := by unfold Hid; omega
          go_wp2
          go_ret2
          exact ⟨ret2 (Nm.fitZ_no H1.out).symm (Nm.fitB_no H1.out).symm, rfl⟩
        · have H1 : Hid (-Nm.hiZ j - 1 ≤ n ∧ n ≤ Nm.hiZ j) := by unfold Hid; omega
          go_wp2
          go_ret2
          exact ⟨ret2 (Nm.fitZ_yes H1.out.1 H1.out.2).symm (Nm.fitB_yes H1.out.1 H1.out.2).symm, rfl⟩

theorem fitsRef8 (n : Int) (w : World) (h1 : -9223372036854775808 ≤ n) (h2 : n ≤ 9223372036854775807) :
    Calls Try.prog 47 #[.int .i64 n, .int .i64 8] w fun e w' => e = .returned (.tuple #[.int .i64 (Nm.fitZ (-128) 127 n), .bool (Nm.fitB (-128) 127 n)]) ∧ w' = w := by
  have h := fitsRefB n 8 56 w h1 h2 (by omega) (by omega) (by unfold Hid; omega)
  rw [Nm.hi8] at h
  exact h

theorem fitsRef16 (n : Int) (w : World) (h1 : -9223372036854775808 ≤ n) (h2 : n ≤ 9223372036854775807) :
    Calls Try.prog 47 #[.int .i64 n, .int .i64 16] w fun e w' => e = .returned (.tuple #[.int .i64 (Nm.fitZ (-32768) 32767 n), .bool (Nm.fitB (-32768) 32767 n)]) ∧ w' = w := by
  have h := fitsRefB n 16 48 w h1 h2 (by omega) (by omega) (by unfold Hid; omega)
  rw [Nm.hi16] at h
  exact h

theorem fitsRef32 (n : Int) (w : World) (h1 : -9223372036854775808 ≤ n) (h2 : n ≤ 9223372036854775807) :
    Calls Try.prog 47 #[.int .i64 n, .int .i64 32] w fun e w' => e = .returned (.tuple #[.int .i64 (Nm.fitZ (-2147483648) 2147483647 n), .bool (Nm.fitB (-2147483648) 2147483647 n)]) ∧ w' = w := by
  have h := fitsRefB n 32 32 w h1 h2 (by omega) (by omega) (by unfold Hid; omega)
  rw [Nm.hi32] at h
  exact h

theorem fitsRef64 (n : Int) (w : World) (h1 : -9223372036854775808 ≤ n) (h2 : n ≤ 9223372036854775807) :
    Calls Try.prog 47 #[.int .i64 n, .int .i64 64] w fun e w' => e = .returned (.tuple #[.int .i64 (Nm.fitZ (-9223372036854775808) 9223372036854775807 n), .bool (Nm.fitB (-9223372036854775808) 9223372036854775807 n)]) ∧ w' = w := by
  have h := fitsRefB n 64 0 w h1 h2 (by omega) (by omega) (by unfold Hid; omega)
  rw [Nm.hi64] at h
  exact h

set_option maxHeartbeats 400000 in
theorem addRef8 (a c : Int) (w : World) (h1 : -9223372036854775808 ≤ a) (h2 : a ≤ 9223372036854775807) (h3 : -9223372036854775808 ≤ c) (h4 : c ≤ 9223372036854775807) :
    Calls Try.prog 24 #[.int .i64 a, .int .i64 c, .int .i64 8] w fun e w' => e = .returned (.tuple #[.int .i64 (Nm.fitZ (-128) 127 (a + c)), .bool (Nm.fitB (-128) 127 (a + c))]) ∧ w' = w := by
  by_cases p1 : 0 < c
  · have p2 : ¬ c < 0 := by omega
    by_cases p3 : 9223372036854775807 - c < a
    · have H1 : Hid (¬ (-128 ≤ a + c ∧ a + c ≤ 127)) := by unfold Hid; omega
      go_enter Try.func24, Try.ntmps24
      go_wp2
      go_ret2
      exact ⟨ret2 (Nm.fitZ_no H1.out).symm (Nm.fitB_no H1.out).symm, rfl⟩
    · have p4 : a + c ≤ 9223372036854775807 := by omega
      go_enter Try.func24, Try.ntmps24
      go_wp2_with (go_at_call 47; refine (fitsRef8 _ _ (by omega) (by omega)).mono ?_; rintro e w' ⟨rfl, rfl⟩)
      go_ret2
      exact ⟨rfl, rfl⟩
  · by_cases p2 : c < 0
    · by_cases p3 : a < -9223372036854775808 - c
      · have H1 : Hid (¬ (-128 ≤ a + c ∧ a + c ≤ 127)) := by unfold Hid; omega
        go_enter Try.func24, Try.ntmps24
        go_wp2
        go_ret2
        exact ⟨ret2 (Nm.fitZ_no H1.out).symm (Nm.fitB_no H1.out).symm, rfl⟩
      · have p4 : -9223372036854775808 ≤ a + c := by omega
        go_enter Try.func24, Try.ntmps24
        go_wp2_with (go_at_call 47; refine (fitsRef8 _ _ (by omega) (by omega)).mono ?_; rintro e w' ⟨rfl, rfl⟩)
        go_ret2
        exact ⟨rfl, rfl⟩
    · go_enter Try.func24, Try.ntmps24
      go_wp2_with (go_at_call 47; refine (fitsRef8 _ _ (by omega) (by omega)).mono ?_; rintro e w' ⟨rfl, rfl⟩)
      go_ret2
      exact ⟨rfl, rfl⟩

set_option maxHeartbeats 400000 in
theorem addRef16 (a c : Int) (w : World) (h1 : -9223372036854775808 ≤ a) (h2 : a ≤ 9223372036854775807) (h3 : -9223372036854775808 ≤ c) (h4 : c ≤ 9223372036854775807) :
    Calls Try.prog 24 #[.int .i64 a, .int .i64 c, .int .i64 16] w fun e w' => e = .returned (.tuple #[.int .i64 (Nm.fitZ (-32768) 32767 (a + c)), .bool (Nm.fitB (-32768) 32767 (a + c))]) ∧ w' = w := by
  by_cases p1 : 0 < c
  · have p2 : ¬ c < 0 := by omega
    by_cases p3 : 9223372036854775807 - c < a
    · have H1 : Hid (¬ (-32768 ≤ a + c ∧ a + c ≤ 32767)) := by unfold Hid; omega
      go_enter Try.func24, Try.ntmps24
      go_wp2
      go_ret2
      exact ⟨ret2 (Nm.fitZ_no H1.out).symm (Nm.fitB_no H1.out).symm, rfl⟩
    · have p4 : a + c ≤ 9223372036854775807 := by omega
      go_enter Try.func24, Try.ntmps24
      go_wp2_with (go_at_call 47; refine (fitsRef16 _ _ (by omega) (by omega)).mono ?_; rintro e w' ⟨rfl, rfl⟩)
      go_ret2
      exact ⟨rfl, rfl⟩
  · by_cases p2 : c < 0
    · by_cases p3 : a < -9223372036854775808 - c
      · have H1 : Hid (¬ (-32768 ≤ a + c ∧ a + c ≤ 32767)) := by unfold Hid; omega
        go_enter Try.func24, Try.ntmps24
        go_wp2
        go_ret2
        exact ⟨ret2 (Nm.fitZ_no H1.out).symm (Nm.fitB_no H1.out).symm, rfl⟩
      · have p4 : -9223372036854775808 ≤ a + c := by omega
        go_enter Try.func24, Try.ntmps24
        go_wp2_with (go_at_call 47; refine (fitsRef16 _ _ (by omega) (by omega)).mono ?_; rintro e w' ⟨rfl, rfl⟩)
        go_ret2
        exact ⟨rfl, rfl⟩
    · go_enter Try.func24, Try.ntmps24
      go_wp2_with (go_at_call 47; refine (fitsRef16 _ _ (by omega) (by omega)).mono ?_; rintro e w' ⟨rfl, rfl⟩)
      go_ret2
      exact ⟨rfl, rfl⟩

set_option maxHeartbeats 400000 in
theorem addRef32 (a c : Int) (w : World) (h1 : -9223372036854775808 ≤ a) (h2 : a ≤ 9223372036854775807) (h3 : -9223372036854775808 ≤ c) (h4 : c ≤ 9223372036854775807) :
    Calls Try.prog 24 #[.int .i64 a, .int .i64 c, .int .i64 32] w fun e w' => e = .returned (.tuple #[.int .i64 (Nm.fitZ (-2147483648) 2147483647 (a + c)), .bool (Nm.fitB (-2147483648) 2147483647 (a + c))]) ∧ w' = w := by
  by_cases p1 : 0 < c
  · have p2 : ¬ c < 0 := by omega
    by_cases p3 : 9223372036854775807 - c < a
    · have H1 : Hid (¬ (-2147483648 ≤ a + c ∧ a + c ≤ 2147483647)) := by unfold Hid; omega
      go_enter Try.func24, Try.ntmps24
      go_wp2
      go_ret2
      exact ⟨ret2 (Nm.fitZ_no H1.out).symm (Nm.fitB_no H1.out).symm, rfl⟩
    · have p4 : a + c ≤ 9223372036854775807 := by omega
      go_enter Try.func24, Try.ntmps24
      go_wp2_with (go_at_call 47; refine (fitsRef32 _ _ (by omega) (by omega)).mono ?_; rintro e w' ⟨rfl, rfl⟩)
      go_ret2
      exact ⟨rfl, rfl⟩
  · by_cases p2 : c < 0
    · by_cases p3 : a < -9223372036854775808 - c
      · have H1 : Hid (¬ (-2147483648 ≤ a + c ∧ a + c ≤ 2147483647)) := by unfold Hid; omega
        go_enter Try.func24, Try.ntmps24
        go_wp2
        go_ret2
        exact ⟨ret2 (Nm.fitZ_no H1.out).symm (Nm.fitB_no H1.out).symm, rfl⟩
      · have p4 : -9223372036854775808 ≤ a + c := by omega
        go_enter Try.func24, Try.ntmps24
        go_wp2_with (go_at_call 47; refine (fitsRef32 _ _ (by omega) (by omega)).mono ?_; rintro e w' ⟨rfl, rfl⟩)
        go_ret2
        exact ⟨rfl, rfl⟩
    · go_enter Try.func24, Try.ntmps24
      go_wp2_with (go_at_call 47; refine (fitsRef32 _ _ (by omega) (by omega)).mono ?_; rintro e w' ⟨rfl, rfl⟩)
      go_ret2
      exact ⟨rfl, rfl⟩

set_option maxHeartbeats 400000 in
theorem addRef64 (a c : Int) (w : World) (h1 : -9223372036854775808 ≤ a) (h2 : a ≤ 9223372036854775807) (h3 : -9223372036854775808 ≤ c) (h4 : c ≤ 9223372036854775807) :
    Calls Try.prog 24 #[.int .i64 a, .int .i64 c, .int .i64 64] w fun e w' => e = .returned (.tuple #[.int .i64 (Nm.fitZ (-9223372036854775808) 9223372036854775807 (a + c)), .bool (Nm.fitB (-9223372036854775808) 9223372036854775807 (a + c))]) ∧ w' = w := by
  by_cases p1 : 0 < c
  · have p2 : ¬ c < 0 := by omega
    by_cases p3 : 9223372036854775807 - c < a
    · have H1 : Hid (¬ (-9223372036854775808 ≤ a + c ∧ a + c ≤ 9223372036854775807)) := by unfold Hid; omega
      go_enter Try.func24, Try.ntmps24
      go_wp2
      go_ret2
      exact ⟨ret2 (Nm.fitZ_no H1.out).symm (Nm.fitB_no H1.out).symm, rfl⟩
    · have p4 : a + c ≤ 9223372036854775807 := by omega
      go_enter Try.func24, Try.ntmps24
      go_wp2_with (go_at_call 47; refine (fitsRef64 _ _ (by omega) (by omega)).mono ?_; rintro e w' ⟨rfl, rfl⟩)
      go_ret2
      exact ⟨rfl, rfl⟩
  · by_cases p2 : c < 0
    · by_cases p3 : a < -9223372036854775808 - c
      · have H1 : Hid (¬ (-9223372036854775808 ≤ a + c ∧ a + c ≤ 9223372036854775807)) := by unfold Hid; omega
        go_enter Try.func24, Try.ntmps24
        go_wp2
        go_ret2
        exact ⟨ret2 (Nm.fitZ_no H1.out).symm (Nm.fitB_no H1.out).symm, rfl⟩
      · have p4 : -9223372036854775808 ≤ a + c := by omega
        go_enter Try.func24, Try.ntmps24
        go_wp2_with (go_at_call 47; refine (fitsRef64 _ _ (by omega) (by omega)).mono ?_; rintro e w' ⟨rfl, rfl⟩)
        go_ret2
        exact ⟨rfl, rfl⟩
    · go_enter Try.func24, Try.ntmps24
      go_wp2_with (go_at_call 47; refine (fitsRef64 _ _ (by omega) (by omega)).mono ?_; rintro e w' ⟨rfl, rfl⟩)
      go_ret2
      exact ⟨rfl, rfl⟩

end Go.Proofs.Ytnbfjoheljlkfaa