/- What Add, Near, Fits of package whole, and the document's own Fits, Add, size and signed, answer at every numbers of their width. -/
import Derived.Test.YtnbfjoheljlkfabDoorParts
namespace Go.Proofs.YtnbfjoheljlkfabDoor
open Go.RowKit
set_option linter.unusedVariables false

theorem ret1 {k : IntKind} {a b : Int} (h : a = b) : Ending.returned (.int k a) = .returned (.int k b) := by rw [h]

set_option maxHeartbeats 400000 in
theorem add8 (a b : Int) (w : World) (h1 : -128 ≤ a) (h2 : a ≤ 127) (h3 : -128 ≤ b) (h4 : b ≤ 127) :
    Calls Tryd.prog 26 #[.int .i8 a, .int .i8 b] w fun e w' => e = .returned (.tuple #[.int .i8 (Nm.fitZ (-128) 127 (a + b)), .bool (Nm.fitB (-128) 127 (a + b))]) ∧ w' = w := by
  by_cases c1 : -128 ≤ a + b
  · by_cases c2 : a + b ≤ 127
    · by_cases c3 : b < 0
      · have c4 : a + b < a := by omega
        go_enter Tryd.func26, Tryd.ntmps26
        go_wp2
        go_ret2
        exact ⟨ret2 (Nm.fitZ_yes c1 c2).symm (Nm.fitB_yes c1 c2).symm, rfl⟩
      · go_enter Tryd.func26, Tryd.ntmps26
        go_wp2
        go_ret2
        exact ⟨ret2 (Nm.fitZ_yes c1 c2).symm (Nm.fitB_yes c1 c2).symm, rfl⟩
    · have hw : IntKind.i8.wrap (a + b) = a + b - 256 := by rw [Nm.e8]; omega
      have c3 : ¬ b < 0 := by omega
      have c4 : a + b - 256 < a := by omega
      have hno : ¬ (-128 ≤ a + b ∧ a + b ≤ 127) := by omega
      have H1 : Hid (¬ (-128 ≤ a + b ∧ a + b ≤ 127)) := hno
      clear hno c1 c2
      go_enter Tryd.func26, Tryd.ntmps26
      go_wp2
      go_ret2
      exact ⟨ret2 (Nm.fitZ_no H1.out).symm (Nm.fitB_no H1.out).symm, rfl⟩
  · have hw : IntKind.i8.wrap (a + b) = a + b + 256 := by rw [Nm.e8]; omega
    have c3 : b < 0 := by omega
    have c4 : ¬ a + b + 256 < a := by omega
    have hno : ¬ (-128 ≤ a + b ∧ a + b ≤ 127) := by omega
    have H1 : Hid (¬ (-128 ≤ a + b ∧ a + b ≤ 127)) := hno
    clear hno c1
    go_enter Tryd.func26, Tryd.ntmps26
    go_wp2
    go_ret2
    exact ⟨ret2 (Nm.fitZ_no H1.out).symm (Nm.fitB_no H1.out).symm, rfl⟩

set_option maxHeartbeats 400000 in
theorem add16 (a b : Int) (w : World) (h1 : -32768 ≤ a) (h2 : a ≤ 32767) (h3 : -32768 ≤ b) (h4 : b ≤ 32767) :
    Calls Tryd.prog 16 #[.int .i16 a, .int .i16 b] w fun e w' => e = .returned (.tuple #[.int .i16 (Nm.fitZ (-32768) 32767 (a + b)), .bool (Nm.fitB (-32768) 32767 (a + b))]) ∧ w' = w := by
  by_cases c1 : -32768 ≤ a + b
  · by_cases c2 : a + b ≤ 32767
    · by_cases c3 : b < 0
      · have c4 : a + b < a := by omega
        go_enter Tryd.func16, Tryd.ntmps16
        go_wp2
        go_ret2
        exact ⟨ret2 (Nm.fitZ_yes c1 c2).symm (Nm.fitB_yes c1 c2).symm, rfl⟩
      · go_enter Tryd.func16, Tryd.ntmps16
        go_wp2
        go_ret2
        exact ⟨ret2 (Nm.fitZ_yes c1 c2).symm (Nm.fitB_yes c1 c2).symm, rfl⟩
    · have hw : IntKind.i16.wrap (a + b) = a + b - 65536 := by rw [Nm.e16]; omega
      have c3 : ¬ b < 0 := by omega
      have c4 : a + b - 65536 < a := by omega
      have hno : ¬ (-32768 ≤ a + b ∧ a + b ≤ 32767) := by omega
      have H1 : Hid (¬ (-32768 ≤ a + b ∧ a + b ≤ 32767)) := hno
      clear hno c1 c2
      go_enter Tryd.func16, Tryd.ntmps16
      go_wp2
      go_ret2
      exact ⟨ret2 (Nm.fitZ_no H1.out).symm (Nm.fitB_no H1.out).symm, rfl⟩
  · have hw : IntKind.i16.wrap (a + b) = a + b + 65536 := by rw [Nm.e16]; omega
    have c3 : b < 0 := by omega
    have c4 : ¬ a + b + 65536 < a := by omega
    have hno : ¬ (-32768 ≤ a + b ∧ a + b ≤ 32767) := by omega
    have H1 : Hid (¬ (-32768 ≤ a + b ∧ a + b ≤ 32767)) := hno
    clear hno c1
    go_enter Tryd.func16, Tryd.ntmps16
    go_wp2
    go_ret2
    exact ⟨ret2 (Nm.fitZ_no H1.out).symm (Nm.fitB_no H1.out).symm, rfl⟩

set_option maxHeartbeats 400000 in
theorem add32 (a b : Int) (w : World) (h1 : -2147483648 ≤ a) (h2 : a ≤ 2147483647) (h3 : -2147483648 ≤ b) (h4 : b ≤ 2147483647) :
    Calls Tryd.prog 13 #[.int .i32 a, .int .i32 b] w fun e w' => e = .returned (.tuple #[.int .i32 (Nm.fitZ (-2147483648) 2147483647 (a + b)), .bool (Nm.fitB (-2147483648) 2147483647 (a + b))]) ∧ w' = w := by
  by_cases c1 : -2147483648 ≤ a + b
  · by_cases c2 : a + b ≤ 2147483647
    · by_cases c3 : b < 0
      · have c4 : a + b < a := by omega
        go_enter Tryd.func13, Tryd.ntmps13
        go_wp2
        go_ret2
        exact ⟨ret2 (Nm.fitZ_yes c1 c2).symm (Nm.fitB_yes c1 c2).symm, rfl⟩
      · go_enter Tryd.func13, Tryd.ntmps13
        go_wp2
        go_ret2
        exact ⟨ret2 (Nm.fitZ_yes c1 c2).symm (Nm.fitB_yes c1 c2).symm, rfl⟩
    · have hw : wrap32 (a + b) = a + b - 4294967296 := by rw [Nm.e32]; omega
      have c3 : ¬ b < 0 := by omega
      have c4 : a + b - 4294967296 < a := by omega
      have hno : ¬ (-2147483648 ≤ a + b ∧ a + b ≤ 2147483647) := by omega
      have H1 : Hid (¬ (-2147483648 ≤ a + b ∧ a + b ≤ 2147483647)) := hno
      clear hno c1 c2
      go_enter Tryd.func13, Tryd.ntmps13
      go_wp2
      go_ret2
      exact ⟨ret2 (Nm.fitZ_no H1.out).symm (Nm.fitB_no H1.out).symm, rfl⟩
  · have hw : wrap32 (a + b) = a + b + 4294967296 := by rw [Nm.e32]; omega
    have c3 : b < 0 := by omega
    have c4 : ¬ a + b + 4294967296 < a := by omega
    have hno : ¬ (-2147483648 ≤ a + b ∧ a + b ≤ 2147483647) := by omega
    have H1 : Hid (¬ (-2147483648 ≤ a + b ∧ a + b ≤ 2147483647)) := hno
    clear hno c1
    go_enter Tryd.func13, Tryd.ntmps13
    go_wp2
    go_ret2
    exact ⟨ret2 (Nm.fitZ_no H1.out).symm (Nm.fitB_no H1.out).symm, rfl⟩

set_option maxHeartbeats 400000 in
theorem addI (a b : Int) (w : World) (h1 : -9223372036854775808 ≤ a) (h2 : a ≤ 9223372036854775807) (h3 : -9223372036854775808 ≤ b) (h4 : b ≤ 9223372036854775807) :
    Calls Tryd.prog 19 #[.int .i64 a, .int .i64 b] w fun e w' => e = .returned (.tuple #[.int .i64 (Nm.fitZ (-9223372036854775808) 9223372036854775807 (a + b)), .bool (Nm.fitB (-9223372036854775808) 9223372036854775807 (a + b))]) ∧ w' = w := by
  by_cases c1 : -9223372036854775808 ≤ a + b
  · by_cases c2 : a + b ≤ 9223372036854775807
    · by_cases c3 : b < 0
      · have c4 : a + b < a := by omega
        go_enter Tryd.func19, Tryd.ntmps19
        go_wp2
        go_ret2
        exact ⟨ret2 (Nm.fitZ_yes c1 c2).symm (Nm.fitB_yes c1 c2).symm, rfl⟩
      · go_enter Tryd.func19, Tryd.ntmps19
        go_wp2
        go_ret2
        exact ⟨ret2 (Nm.fitZ_yes c1 c2).symm (Nm.fitB_yes c1 c2).symm, rfl⟩
    · have hw : wrap64 (a + b) = a + b - 18446744073709551616 := by rw [Nm.e64]; omega
      have c3 : ¬ b < 0 := by omega
      have c4 : a + b - 18446744073709551616 < a := by omega
      have hno : ¬ (-9223372036854775808 ≤ a + b ∧ a + b ≤ 9223372036854775807) := by omega
      have H1 : Hid (¬ (-9223372036854775808 ≤ a + b ∧ a + b ≤ 9223372036854775807)) := hno
      clear hno c1 c2
      go_enter Tryd.func19, Tryd.ntmps19
      go_wp2
      go_ret2
      exact ⟨ret2 (Nm.fitZ_no H1.out).symm (Nm.fitB_no H1.out).symm, rfl⟩
  · have hw : wrap64 (a + b) = a + b + 18446744073709551616 := by rw [Nm.e64]; omega
    have c3 : b < 0 := by omega
    have c4 : ¬ a + b + 18446744073709551616 < a := by omega
    have hno : ¬ (-9223372036854775808 ≤ a + b ∧ a + b ≤ 9223372036854775807) := by omega
    have H1 : Hid (¬ (-9223372036854775808 ≤ a + b ∧ a + b ≤ 9223372036854775807)) := hno
    clear hno c1
    go_enter Tryd.func19, Tryd.ntmps19
    go_wp2
    go_ret2
    exact ⟨ret2 (Nm.fitZ_no H1.out).symm (Nm.fitB_no H1.out).symm, rfl⟩

set_option maxHeartbeats 400000 in
theorem nearI (v l h : Int) (w : World) :
    Calls Tryd.prog 28 #[.int .i64 v, .int .i64 l, .int .i64 h] w fun e w' => e = .returned (.int .i64 (Nm.nearZ v l h)) ∧ w' = w := by
  by_cases c1 : v < l
  · go_enter Tryd.func28, Tryd.ntmps28
    go_wp2
    go_ret
    exact ⟨ret1 (by simp [Nm.nearZ, c1]), rfl⟩
  · by_cases c2 : h < l
    · go_enter Tryd.func28, Tryd.ntmps28
      go_wp2
      go_ret
      exact ⟨ret1 (by simp [Nm.nearZ, c2]), rfl⟩
    · by_cases c3 : h < v
      · have e1 : Hid (Nm.nearZ v l h = h) := by unfold Hid Nm.nearZ; rw [if_neg (by omega), if_pos c3]
        go_enter Tryd.func28, Tryd.ntmps28
        go_wp2
        go_ret
        exact ⟨ret1 e1.out.symm, rfl⟩
      · have e1 : Hid (Nm.nearZ v l h = v) := by unfold Hid Nm.nearZ; rw [if_neg (by omega), if_neg c3]
        go_enter Tryd.func28, Tryd.ntmps28
        go_wp2
        go_ret
        exact ⟨ret1 e1.out.symm, rfl⟩

set_option maxHeartbeats 400000 in
theorem fits16 (n : Int) (w : World) (h1 : -9223372036854775808 ≤ n) (h2 : n ≤ 9223372036854775807) :
    Calls Tryd.prog 22 #[.int .i64 n] w fun e w' => e = .returned (.tuple #[.int .i16 (Nm.fitZ (-32768) 32767 n), .bool (Nm.fitB (-32768) 32767 n)]) ∧ w' = w := by
  by_cases c : -32768 ≤ n ∧ n ≤ 32767
  · obtain ⟨c1, c2⟩ := c
    have hx : (n != n) = false := by simp
    go_enter Tryd.func22, Tryd.ntmps22
    go_wp2
    go_ret2
    exact ⟨ret2 (Nm.fitZ_yes c1 c2).symm (Nm.fitB_yes c1 c2).symm, rfl⟩
  · have hw := Nm.e16 n
    have hr1 : -32768 ≤ IntKind.i16.wrap (n) := by rw [hw]; omega
    have hr2 : IntKind.i16.wrap (n) ≤ 32767 := by rw [hw]; omega
    have hne : (IntKind.i16.wrap (n) != n) = true := by rw [bne_iff_ne]; intro he; rw [he] at hr1 hr2; exact c ⟨hr1, hr2⟩
    have H1 : Hid (¬ (-32768 ≤ n ∧ n ≤ 32767)) := c
    clear hw c
    go_enter Tryd.func22, Tryd.ntmps22
    go_wp2
    go_ret2
    exact ⟨ret2 (Nm.fitZ_no H1.out).symm (Nm.fitB_no H1.out).symm, rfl⟩

end Go.Proofs.YtnbfjoheljlkfabDoor