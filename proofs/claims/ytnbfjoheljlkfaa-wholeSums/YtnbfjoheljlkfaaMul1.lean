/- What the document's own Mul answers at every two numbers, of 8, 16, 32 and 64 bits. -/
import Derived.Test.YtnbfjoheljlkfaaSums1
import Derived.Test.YtnbfjoheljlkfaaNums2
namespace Go.Proofs.Ytnbfjoheljlkfaa
open Go.RowKit
set_option linter.unusedVariables false

theorem signedMul (a b : Int) (s : Bool) (hs : Hid (Nm.sv (Nm.absZ a * Nm.absZ b) s = a * b)) (w : World) (h2 : Nm.absZ a * Nm.absZ b ≤ 9223372036854775808) :
    Calls Try.prog 72 #[.int .u64 (Nm.absZ a * Nm.absZ b), .bool s] w fun e w' => e = .returned (.tuple #[.int .i64 (Nm.fitZ (-9223372036854775808) 9223372036854775807 (a * b)), .bool (Nm.fitB (-9223372036854775808) 9223372036854775807 (a * b))]) ∧ w' = w := by
  have h := signedRef (Nm.absZ a * Nm.absZ b) s w (Nm.absZ_mul_nn a b) (by omega)
  rw [hs.out] at h
  exact h

set_option maxHeartbeats 1000000 in
theorem mulRef8 (a b : Int) (w : World) (h1 : -9223372036854775808 ≤ a) (h2 : a ≤ 9223372036854775807) (h3 : -9223372036854775808 ≤ b) (h4 : b ≤ 9223372036854775807) :
    Calls Try.prog 63 #[.int .i64 a, .int .i64 b, .int .i64 8] w fun e w' => e = .returned (.tuple #[.int .i64 (Nm.fitZ (-128) 127 (a * b)), .bool (Nm.fitB (-128) 127 (a * b))]) ∧ w' = w := by
  have x1 := Nm.absZ_nn a
  have x2 := Nm.absZ_le a h1 h2
  have y1 := Nm.absZ_nn b
  have y2 := Nm.absZ_le b h3 h4
  have m1 := Nm.absZ_mul_nn a b
  by_cases x0 : 0 < Nm.absZ a
  · by_cases c : 9223372036854775808 / Nm.absZ a < Nm.absZ b
    · have HN : Hid (¬ (-128 ≤ a * b ∧ a * b ≤ 127)) := by
        have := Nm.mul_big x0 c
        unfold Hid; omega
      go_enter Try.func63, Try.ntmps63
      go_wp2_with (go_at_call 71; refine (sizeRef _ _ (by omega) (by omega)).mono ?_; rintro e w' ⟨rfl, rfl⟩)
      go_ret2
      exact ⟨ret2 (Nm.fitZ_no HN.out).symm (Nm.fitB_no HN.out).symm, rfl⟩
    · have m2 := Nm.mul_small x0 c
      by_cases r : -9223372036854775808 ≤ a * b ∧ a * b ≤ 9223372036854775807
      · obtain ⟨r1, r2⟩ := r
        have f1 := Nm.fitZ_yes r1 r2
        have f2 := Nm.fitB_yes r1 r2
        have HS1 : Hid (Nm.sv (Nm.absZ a * Nm.absZ b) (!(decide (a < 0) == decide (b < 0))) = a * b) := Nm.sv_mul a b _ rfl
        · skip
          go_enter Try.func63, Try.ntmps63
          go_wp2_with (first | (go_at_call 71; refine (sizeRef _ _ (by omega) (by omega)).mono ?_; rintro e w' ⟨rfl, rfl⟩) | (go_at_call 72; refine (signedMul a b _ HS1 _ m2).mono ?_; rintro e w' ⟨rfl, rfl⟩) | (go_at_call 47; refine (fitsRef8 _ _ (by omega) (by omega)).mono ?_; rintro e w' ⟨rfl, rfl⟩))
          go_ret2
          exact ⟨rfl, rfl⟩
      · have f2 := Nm.fitB_no r
        have HN : Hid (¬ (-128 ≤ a * b ∧ a * b ≤ 127)) := by unfold Hid; omega
        clear r
        have HS1 : Hid (Nm.sv (Nm.absZ a * Nm.absZ b) (!(decide (a < 0) == decide (b < 0))) = a * b) := Nm.sv_mul a b _ rfl
        · skip
          go_enter Try.func63, Try.ntmps63
          go_wp2_with (first | (go_at_call 71; refine (sizeRef _ _ (by omega) (by omega)).mono ?_; rintro e w' ⟨rfl, rfl⟩) | (go_at_call 72; refine (signedMul a b _ HS1 _ m2).mono ?_; rintro e w' ⟨rfl, rfl⟩))
          go_ret2
          exact ⟨ret2 (Nm.fitZ_no HN.out).symm (Nm.fitB_no HN.out).symm, rfl⟩
  · have m2 : Nm.absZ a * Nm.absZ b ≤ 9223372036854775808 := by rw [Nm.absZ_zero x0]; simp [Nm.absZ]
    have r0 : a * b = 0 := by rw [Nm.absZ_zero x0, Int.zero_mul]
    have r1 : -9223372036854775808 ≤ a * b := by omega
    have r2 : a * b ≤ 9223372036854775807 := by omega
    clear r0
    have f1 := Nm.fitZ_yes r1 r2
    have f2 := Nm.fitB_yes r1 r2
    have HS1 : Hid (Nm.sv (Nm.absZ a * Nm.absZ b) (!(decide (a < 0) == decide (b < 0))) = a * b) := Nm.sv_mul a b _ rfl
    go_enter Try.func63, Try.ntmps63
    go_wp2_with (first | (go_at_call 71; refine (sizeRef _ _ (by omega) (by omega)).mono ?_; rintro e w' ⟨rfl, rfl⟩) | (go_at_call 72; refine (signedMul a b _ HS1 _ m2).mono ?_; rintro e w' ⟨rfl, rfl⟩) | (go_at_call 47; refine (fitsRef8 _ _ (by omega) (by omega)).mono ?_; rintro e w' ⟨rfl, rfl⟩))
    go_ret2
    exact ⟨rfl, rfl⟩

set_option maxHeartbeats 1000000 in
theorem mulRef16 (a b : Int) (w : World) (h1 : -9223372036854775808 ≤ a) (h2 : a ≤ 9223372036854775807) (h3 : -9223372036854775808 ≤ b) (h4 : b ≤ 9223372036854775807) :
    Calls Try.prog 63 #[.int .i64 a, .int .i64 b, .int .i64 16] w fun e w' => e = .returned (.tuple #[.int .i64 (Nm.fitZ (-32768) 32767 (a * b)), .bool (Nm.fitB (-32768) 32767 (a * b))]) ∧ w' = w := by
  have x1 := Nm.absZ_nn a
  have x2 := Nm.absZ_le a h1 h2
  have y1 := Nm.absZ_nn b
  have y2 := Nm.absZ_le b h3 h4
  have m1 := Nm.absZ_mul_nn a b
  by_cases x0 : 0 < Nm.absZ a
  · by_cases c : 9223372036854775808 / Nm.absZ a < Nm.absZ b
    · have HN : Hid (¬ (-32768 ≤ a * b ∧ a * b ≤ 32767)) := by
        have := Nm.mul_big x0 c
        unfold Hid; omega
      go_enter Try.func63, Try.ntmps63
      go_wp2_with (go_at_call 71; refine (sizeRef _ _ (by omega) (by omega)).mono ?_; rintro e w' ⟨rfl, rfl⟩)
      go_ret2
      exact ⟨ret2 (Nm.fitZ_no HN.out).symm (Nm.fitB_no HN.out).symm, rfl⟩
    · have m2 := Nm.mul_small x0 c
      by_cases r : -9223372036854775808 ≤ a * b ∧ a * b ≤ 9223372036854775807
      · obtain ⟨r1, r2⟩ := r
        have f1 := Nm.fitZ_yes r1 r2
        have f2 := Nm.fitB_yes r1 r2
        have HS1 : Hid (Nm.sv (Nm.absZ a * Nm.absZ b) (!(decide (a < 0) == decide (b < 0))) = a * b) := Nm.sv_mul a b _ rfl
        · skip
          go_enter Try.func63, Try.ntmps63
          go_wp2_with (first | (go_at_call 71; refine (sizeRef _ _ (by omega) (by omega)).mono ?_; rintro e w' ⟨rfl, rfl⟩) | (go_at_call 72; refine (signedMul a b _ HS1 _ m2).mono ?_; rintro e w' ⟨rfl, rfl⟩) | (go_at_call 47; refine (fitsRef16 _ _ (by omega) (by omega)).mono ?_; rintro e w' ⟨rfl, rfl⟩))
          go_ret2
          exact ⟨rfl, rfl⟩
      · have f2 := Nm.fitB_no r
        have HN : Hid (¬ (-32768 ≤ a * b ∧ a * b ≤ 32767)) := by unfold Hid; omega
        clear r
        have HS1 : Hid (Nm.sv (Nm.absZ a * Nm.absZ b) (!(decide (a < 0) == decide (b < 0))) = a * b) := Nm.sv_mul a b _ rfl
        · skip
          go_enter Try.func63, Try.ntmps63
          go_wp2_with (first | (go_at_call 71; refine (sizeRef _ _ (by omega) (by omega)).mono ?_; rintro e w' ⟨rfl, rfl⟩) | (go_at_call 72; refine (signedMul a b _ HS1 _ m2).mono ?_; rintro e w' ⟨rfl, rfl⟩))
          go_ret2
          exact ⟨ret2 (Nm.fitZ_no HN.out).symm (Nm.fitB_no HN.out).symm, rfl⟩
  · have m2 : Nm.absZ a * Nm.absZ b ≤ 9223372036854775808 := by rw [Nm.absZ_zero x0]; simp [Nm.absZ]
    have r0 : a * b = 0 := by rw [Nm.absZ_zero x0, Int.zero_mul]
    have r1 : -9223372036854775808 ≤ a * b := by omega
    have r2 : a * b ≤ 9223372036854775807 := by omega
    clear r0
    have f1 := Nm.fitZ_yes r1 r2
    have f2 := Nm.fitB_yes r1 r2
    have HS1 : Hid (Nm.sv (Nm.absZ a * Nm.absZ b) (!(decide (a < 0) == decide (b < 0))) = a * b) := Nm.sv_mul a b _ rfl
    go_enter Try.func63, Try.ntmps63
    go_wp2_with (first | (go_at_call 71; refine (sizeRef _ _ (by omega) (by omega)).mono ?_; rintro e w' ⟨rfl, rfl⟩) | (go_at_call 72; refine (signedMul a b _ HS1 _ m2).mono ?_; rintro e w' ⟨rfl, rfl⟩) | (go_at_call 47; refine (fitsRef16 _ _ (by omega) (by omega)).mono ?_; rintro e w' ⟨rfl, rfl⟩))
    go_ret2
    exact ⟨rfl, rfl⟩

set_option maxHeartbeats 1000000 in
theorem mulRef32 (a b : Int) (w : World) (h1 : -9223372036854775808 ≤ a) (h2 : a ≤ 9223372036854775807) (h3 : -9223372036854775808 ≤ b) (h4 : b ≤ 9223372036854775807) :
    Calls Try.prog 63 #[.int .i64 a, .int .i64 b, .int .i64 32] w fun e w' => e = .returned (.tuple #[.int .i64 (Nm.fitZ (-2147483648) 2147483647 (a * b)), .bool (Nm.fitB (-2147483648) 2147483647 (a * b))]) ∧ w' = w := by
  have x1 := Nm.absZ_nn a
  have x2 := Nm.absZ_le a h1 h2
  have y1 := Nm.absZ_nn b
  have y2 := Nm.absZ_le b h3 h4
  have m1 := Nm.absZ_mul_nn a b
  by_cases x0 : 0 < Nm.absZ a
  · by_cases c : 9223372036854775808 / Nm.absZ a < Nm.absZ b
    · have HN : Hid (¬ (-2147483648 ≤ a * b ∧ a * b ≤ 2147483647)) := by
        have := Nm.mul_big x0 c
        unfold Hid; omega
      go_enter Try.func63, Try.ntmps63
      go_wp2_with (go_at_call 71; refine (sizeRef _ _ (by omega) (by omega)).mono ?_; rintro e w' ⟨rfl, rfl⟩)
      go_ret2
      exact ⟨ret2 (Nm.fitZ_no HN.out).symm (Nm.fitB_no HN.out).symm, rfl⟩
    · have m2 := Nm.mul_small x0 c
      by_cases r : -9223372036854775808 ≤ a * b ∧ a * b ≤ 9223372036854775807
      · obtain ⟨r1, r2⟩ := r
        have f1 := Nm.fitZ_yes r1 r2
        have f2 := Nm.fitB_yes r1 r2
        have HS1 : Hid (Nm.sv (Nm.absZ a * Nm.absZ b) (!(decide (a < 0) == decide (b < 0))) = a * b) := Nm.sv_mul a b _ rfl
        · skip
          go_enter Try.func63, Try.ntmps63
          go_wp2_with (first | (go_at_call 71; refine (sizeRef _ _ (by omega) (by omega)).mono ?_; rintro e w' ⟨rfl, rfl⟩) | (go_at_call 72; refine (signedMul a b _ HS1 _ m2).mono ?_; rintro e w' ⟨rfl, rfl⟩) | (go_at_call 47; refine (fitsRef32 _ _ (by omega) (by omega)).mono ?_; rintro e w' ⟨rfl, rfl⟩))
          go_ret2
          exact ⟨rfl, rfl⟩
      · have f2 := Nm.fitB_no r
        have HN : Hid (¬ (-2147483648 ≤ a * b ∧ a * b ≤ 2147483647)) := by unfold Hid; omega
        clear r
        have HS1 : Hid (Nm.sv (Nm.absZ a * Nm.absZ b) (!(decide (a < 0) == decide (b < 0))) = a * b) := Nm.sv_mul a b _ rfl
        · skip
          go_enter Try.func63, Try.ntmps63
          go_wp2_with (first | (go_at_call 71; refine (sizeRef _ _ (by omega) (by omega)).mono ?_; rintro e w' ⟨rfl, rfl⟩) | (go_at_call 72; refine (signedMul a b _ HS1 _ m2).mono ?_; rintro e w' ⟨rfl, rfl⟩))
          go_ret2
          exact ⟨ret2 (Nm.fitZ_no HN.out).symm (Nm.fitB_no HN.out).symm, rfl⟩
  · have m2 : Nm.absZ a * Nm.absZ b ≤ 9223372036854775808 := by rw [Nm.absZ_zero x0]; simp [Nm.absZ]
    have r0 : a * b = 0 := by rw [Nm.absZ_zero x0, Int.zero_mul]
    have r1 : -9223372036854775808 ≤ a * b := by omega
    have r2 : a * b ≤ 9223372036854775807 := by omega
    clear r0
    have f1 := Nm.fitZ_yes r1 r2
    have f2 := Nm.fitB_yes r1 r2
    have HS1 : Hid (Nm.sv (Nm.absZ a * Nm.absZ b) (!(decide (a < 0) == decide (b < 0))) = a * b) := Nm.sv_mul a b _ rfl
    go_enter Try.func63, Try.ntmps63
    go_wp2_with (first | (go_at_call 71; refine (sizeRef _ _ (by omega) (by omega)).mono ?_; rintro e w' ⟨rfl, rfl⟩) | (go_at_call 72; refine (signedMul a b _ HS1 _ m2).mono ?_; rintro e w' ⟨rfl, rfl⟩) | (go_at_call 47; refine (fitsRef32 _ _ (by omega) (by omega)).mono ?_; rintro e w' ⟨rfl, rfl⟩))
    go_ret2
    exact ⟨rfl, rfl⟩

set_option maxHeartbeats 1000000 in
theorem mulRef64 (a b : Int) (w : World) (h1 : -9223372036854775808 ≤ a) (h2 : a ≤ 9223372036854775807) (h3 : -9223372036854775808 ≤ b) (h4 : b ≤ 9223372036854775807) :
    Calls Try.prog 63 #[.int .i64 a, .int .i64 b, .int .i64 64] w fun e w' => e = .returned (.tuple #[.int .i64 (Nm.fitZ (-9223372036854775808) 9223372036854775807 (a * b)), .bool (Nm.fitB (-9223372036854775808) 9223372036854775807 (a * b))]) ∧ w' = w := by
  have x1 := Nm.absZ_nn a
  have x2 := Nm.absZ_le a h1 h2
  have y1 := Nm.absZ_nn b
  have y2 := Nm.absZ_le b h3 h4
  have m1 := Nm.absZ_mul_nn a b
  by_cases x0 : 0 < Nm.absZ a
  · by_cases c : 9223372036854775808 / Nm.absZ a < Nm.absZ b
    · have HN : Hid (¬ (-9223372036854775808 ≤ a * b ∧ a * b ≤ 9223372036854775807)) := by
        have := Nm.mul_big x0 c
        unfold Hid; omega
      go_enter Try.func63, Try.ntmps63
      go_wp2_with (go_at_call 71; refine (sizeRef _ _ (by omega) (by omega)).mono ?_; rintro e w' ⟨rfl, rfl⟩)
      go_ret2
      exact ⟨ret2 (Nm.fitZ_no HN.out).symm (Nm.fitB_no HN.out).symm, rfl⟩
    · have m2 := Nm.mul_small x0 c
      by_cases r : -9223372036854775808 ≤ a * b ∧ a * b ≤ 9223372036854775807
      · obtain ⟨r1, r2⟩ := r
        have f1 := Nm.fitZ_yes r1 r2
        have f2 := Nm.fitB_yes r1 r2
        have HS1 : Hid (Nm.sv (Nm.absZ a * Nm.absZ b) (!(decide (a < 0) == decide (b < 0))) = a * b) := Nm.sv_mul a b _ rfl
        · skip
          go_enter Try.func63, Try.ntmps63
          go_wp2_with (first | (go_at_call 71; refine (sizeRef _ _ (by omega) (by omega)).mono ?_; rintro e w' ⟨rfl, rfl⟩) | (go_at_call 72; refine (signedMul a b _ HS1 _ m2).mono ?_; rintro e w' ⟨rfl, rfl⟩) | (go_at_call 47; refine (fitsRef64 _ _ (by omega) (by omega)).mono ?_; rintro e w' ⟨rfl, rfl⟩))
          go_ret2
          exact ⟨ret2 (Nm.fitZ_yes r1 r2).symm (Nm.fitB_yes r1 r2).symm, rfl⟩
      · have f2 := Nm.fitB_no r
        have HN : Hid (¬ (-9223372036854775808 ≤ a * b ∧ a * b ≤ 9223372036854775807)) := by unfold Hid; omega
        clear r
        have HS1 : Hid (Nm.sv (Nm.absZ a * Nm.absZ b) (!(decide (a < 0) == decide (b < 0))) = a * b) := Nm.sv_mul a b _ rfl
        · skip
          go_enter Try.func63, Try.ntmps63
          go_wp2_with (first | (go_at_call 71; refine (sizeRef _ _ (by omega) (by omega)).mono ?_; rintro e w' ⟨rfl, rfl⟩) | (go_at_call 72; refine (signedMul a b _ HS1 _ m2).mono ?_; rintro e w' ⟨rfl, rfl⟩))
          go_ret2
          exact ⟨ret2 (Nm.fitZ_no HN.out).symm (Nm.fitB_no HN.out).symm, rfl⟩
  · have m2 : Nm.absZ a * Nm.absZ b ≤ 9223372036854775808 := by rw [Nm.absZ_zero x0]; simp [Nm.absZ]
    have r0 : a * b = 0 := by rw [Nm.absZ_zero x0, Int.zero_mul]
    have r1 : -9223372036854775808 ≤ a * b := by omega
    have r2 : a * b ≤ 9223372036854775807 := by omega
    clear r0
    have f1 := Nm.fitZ_yes r1 r2
    have f2 := Nm.fitB_yes r1 r2
    have HS1 : Hid (Nm.sv (Nm.absZ a * Nm.absZ b) (!(decide (a < 0) == decide (b < 0))) = a * b) := Nm.sv_mul a b _ rfl
    go_enter Try.func63, Try.ntmps63
    go_wp2_with (first | (go_at_call 71; refine (sizeRef _ _ (by omega) (by omega)).mono ?_; rintro e w' ⟨rfl, rfl⟩) | (go_at_call 72; refine (signedMul a b _ HS1 _ m2).mono ?_; rintro e w' ⟨rfl, rfl⟩) | (go_at_call 47; refine (fitsRef64 _ _ (by omega) (by omega)).mono ?_; rintro e w' ⟨rfl, rfl⟩))
    go_ret2
    exact ⟨ret2 (Nm.fitZ_yes r1 r2).symm (Nm.fitB_yes r1 r2).symm, rfl⟩

end Go.Proofs.Ytnbfjoheljlkfaa