/- What Add, Near, Fits of package whole, and the document's own Fits, Add, size and signed, answer at every numbers of their width. -/
import Derived.Test.YtnbfjoheljlkfaaParts
namespace Go.Proofs.Ytnbfjoheljlkfaa
open Go.RowKit
set_option linter.unusedVariables false

theorem ret1 {k : IntKind} {a b : Int} (h : a = b) : Ending.returned (.int k a) = .returned (.int k b) := by rw [h]

set_option maxHeartbeats 400000 in
theorem add8 (a b : Int) (w : World) (h1 : -128 ≤ a) (h2 : a ≤ 127) (h3 : -128 ≤ b) (h4 : b ≤ 127) :
    Calls Try.prog 17 #[.int .i8 a, .int .i8 b] w fun e w' => e = .returned (.tuple #[.int .i8 (Nm.fitZ (-128) 127 (a + b)), .bool (Nm.fitB (-128) 127 (a + b))]) ∧ w' = w := by
  by_cases c1 : -128 ≤ a + b
  · by_cases c2 : a + b ≤ 127
    · by_cases c3 : b < 0
      · have c4 : a + b < a := by omega
        go_enter Try.func17, Try.ntmps17
        go_wp2
        go_ret2
        exact ⟨ret2 (Nm.fitZ_yes c1 c2).symm (Nm.fitB_yes c1 c2).symm, rfl⟩
      · go_enter Try.func17, Try.ntmps17
        go_wp2
        go_ret2
        exact ⟨ret2 (Nm.fitZ_yes c1 c2).symm (Nm.fitB_yes c1 c2).symm, rfl⟩
    · have hw : IntKind.i8.wrap (a + b) = a + b - 256 := by rw [Nm.e8]; omega
      have c3 : ¬ b < 0 := by omega
      have c4 : a + b - 256 < a := by omega
      have hno : ¬ (-128 ≤ a + b ∧ a + b ≤ 127) := by omega
      have H1 : Hid (¬ (-128 ≤ a + b ∧ a + b ≤ 127)) := hno
      clear hno c1 c2
      go_enter Try.func17, Try.ntmps17
      go_wp2
      go_ret2
      exact ⟨ret2 (Nm.fitZ_no H1.out).symm (Nm.fitB_no H1.out).symm, rfl⟩
  · have hw : IntKind.i8.wrap (a + b) = a + b + 256 := by rw [Nm.e8]; omega
    have c3 : b < 0 := by omega
    have c4 : ¬ a + b + 256 < a := by omega
    have hno : ¬ (-128 ≤ a + b ∧ a + b ≤ 127) := by omega
    have H1 : Hid (¬ (-128 ≤ a + b ∧ a + b ≤ 127)) := hno
    clear hno c1
    go_enter Try.func17, Try.ntmps17
    go_wp2
    go_ret2
    exact ⟨ret2 (Nm.fitZ_no H1.out).symm (Nm.fitB_no H1.out).symm, rfl⟩

set_option maxHeartbeats 400000 in
theorem add16 (a b : Int) (w : World) (h1 : -32768 ≤ a) (h2 : a ≤ 32767) (h3 : -32768 ≤ b) (h4 : b ≤ 32767) :
    Calls Try.prog 18 #[.int .i16 a, .int .i16 b] w fun e w' => e = .returned (.tuple #[.int .i16 (Nm.fitZ (-32768) 32767 (a + b)), .bool (Nm.fitB (-32768) 32767 (a + b))]) ∧ w' = w := by
  by_cases c1 : -32768 ≤ a + b
  · by_cases c2 : a + b ≤ 32767
    · by_cases c3 : b < 0
      · have c4 : a + b < a := by omega
        go_enter Try.func18, Try.ntmps18
        go_wp2
        go_ret2
        exact ⟨ret2 (Nm.fitZ_yes c1 c2).symm (Nm.fitB_yes c1 c2).symm, rfl⟩
      · go_enter Try.func18, Try.ntmps18
        go_wp2
        go_ret2
        exact ⟨ret2 (Nm.fitZ_yes c1 c2).symm (Nm.fitB_yes c1 c2).symm, rfl⟩
    · have hw : IntKind.i16.wrap (a + b) = a + b - 65536 := by rw [Nm.e16]; omega
      have c3 : ¬ b < 0 := by omega
      have c4 : a + b - 65536 < a := by omega
      have hno : ¬ (-32768 ≤ a + b ∧ a + b ≤ 32767) := by omega
      have H1 : Hid (¬ (-32768 ≤ a + b ∧ a + b ≤ 32767)) := hno
      clear hno c1 c2
      go_enter Try.func18, Try.ntmps18
      go_wp2
      go_ret2
      exact ⟨ret2 (Nm.fitZ_no H1.out).symm (Nm.fitB_no H1.out).symm, rfl⟩
  · have hw : IntKind.i16.wrap (a + b) = a + b + 65536 := by rw [Nm.e16]; omega
    have c3 : b < 0 := by omega
    have c4 : ¬ a + b + 65536 < a := by omega
    have hno : ¬ (-32768 ≤ a + b ∧ a + b ≤ 32767) := by omega
    have H1 : Hid (¬ (-32768 ≤ a + b ∧ a + b ≤ 32767)) := hno
    clear hno c1
    go_enter Try.func18, Try.ntmps18
    go_wp2
    go_ret2
    exact ⟨ret2 (Nm.fitZ_no H1.out).symm (Nm.fitB_no H1.out).symm, rfl⟩

set_option maxHeartbeats 400000 in
theorem add32 (a b : Int) (w : World) (h1 : -2147483648 ≤ a) (h2 : a ≤ 2147483647) (h3 : -2147483648 ≤ b) (h4 : b ≤ 2147483647) :
    Calls Try.prog 19 #[.int .i32 a, .int .i32 b] w fun e w' => e = .returned (.tuple #[.int .i32 (Nm.fitZ (-2147483648) 2147483647 (a + b)), .bool (Nm.fitB (-2147483648) 2147483647 (a + b))]) ∧ w' = w := by
  by_cases c1 : -2147483648 ≤ a + b
  · by_cases c2 : a + b ≤ 2147483647
    · by_cases c3 : b < 0
      · have c4 : a + b < a := by omega
        go_enter Try.func19, Try.ntmps19
        go_wp2
        go_ret2
        exact ⟨ret2 (Nm.fitZ_yes c1 c2).symm (Nm.fitB_yes c1 c2).symm, rfl⟩
      · go_enter Try.func19, Try.ntmps19
        go_wp2
        go_ret2
        exact ⟨ret2 (Nm.fitZ_yes c1 c2).symm (Nm.fitB_yes c1 c2).symm, rfl⟩
    · have hw : wrap32 (a + b) = a + b - 4294967296 := by rw [Nm.e32]; omega
      have c3 : ¬ b < 0 := by omega
      have c4 : a + b - 4294967296 < a := by omega
      have hno : ¬ (-2147483648 ≤ a + b ∧ a + b ≤ 2147483647) := by omega
      have H1 : Hid (¬ (-2147483648 ≤ a + b ∧ a + b ≤ 2147483647)) := hno
      clear hno c1 c2
      go_enter Try.func19, Try.ntmps19
      go_wp2
      go_ret2
      exact ⟨ret2 (Nm.fitZ_no H1.out).symm (Nm.fitB_no H1.out).symm, rfl⟩
  · have hw : wrap32 (a + b) = a + b + 4294967296 := by rw [Nm.e32]; omega
    have c3 : b < 0 := by omega
    have c4 : ¬ a + b + 4294967296 < a := by omega
    have hno : ¬ (-2147483648 ≤ a + b ∧ a + b ≤ 2147483647) := by omega
    have H1 : Hid (¬ (-2147483648 ≤ a + b ∧ a + b ≤ 2147483647)) := hno
    clear hno c1
    go_enter Try.func19, Try.ntmps19
    go_wp2
    go_ret2
    exact ⟨ret2 (Nm.fitZ_no H1.out).symm (Nm.fitB_no H1.out).symm, rfl⟩

set_option maxHeartbeats 400000 in
theorem add64 (a b : Int) (w : World) (h1 : -9223372036854775808 ≤ a) (h2 : a ≤ 9223372036854775807) (h3 : -9223372036854775808 ≤ b) (h4 : b ≤ 9223372036854775807) :
    Calls Try.prog 20 #[.int .i64 a, .int .i64 b] w fun e w' => e = .returned (.tuple #[.int .i64 (Nm.fitZ (-9223372036854775808) 9223372036854775807 (a + b)), .bool (Nm.fitB (-9223372036854775808) 9223372036854775807 (a + b))]) ∧ w' = w := by
  by_cases c1 : -9223372036854775808 ≤ a + b
  · by_cases c2 : a + b ≤ 9223372036854775807
    · by_cases c3 : b < 0
      · have c4 : a + b < a := by omega
        go_enter Try.func20, Try.ntmps20
        go_wp2
        go_ret2
        exact ⟨ret2 (Nm.fitZ_yes c1 c2).symm (Nm.fitB_yes c1 c2).symm, rfl⟩
      · go_enter Try.func20, Try.ntmps20
        go_wp2
        go_ret2
        exact ⟨ret2 (Nm.fitZ_yes c1 c2).symm (Nm.fitB_yes c1 c2).symm, rfl⟩
    · have hw : wrap64 (a + b) = a + b - 18446744073709551616 := by rw [Nm.e64]; omega
      have c3 : ¬ b < 0 := by omega
      have c4 : a + b - 18446744073709551616 < a := by omega
      have hno : ¬ (-9223372036854775808 ≤ a + b ∧ a + b ≤ 9223372036854775807) := by omega
      have H1 : Hid (¬ (-9223372036854775808 ≤ a + b ∧ a + b ≤ 9223372036854775807)) := hno
      clear hno c1 c2
      go_enter Try.func20, Try.ntmps20
      go_wp2
      go_ret2
      exact ⟨ret2 (Nm.fitZ_no H1.out).symm (Nm.fitB_no H1.out).symm, rfl⟩
  · have hw : wrap64 (a + b) = a + b + 18446744073709551616 := by rw [Nm.e64]; omega
    have c3 : b < 0 := by omega
    have c4 : ¬ a + b + 18446744073709551616 < a := by omega
    have hno : ¬ (-9223372036854775808 ≤ a + b ∧ a + b ≤ 9223372036854775807) := by omega
    have H1 : Hid (¬ (-9223372036854775808 ≤ a + b ∧ a + b ≤ 9223372036854775807)) := hno
    clear hno c1
    go_enter Try.func20, Try.ntmps20
    go_wp2
    go_ret2
    exact ⟨ret2 (Nm.fitZ_no H1.out).symm (Nm.fitB_no H1.out).symm, rfl⟩

set_option maxHeartbeats 400000 in
theorem addI (a b : Int) (w : World) (h1 : -9223372036854775808 ≤ a) (h2 : a ≤ 9223372036854775807) (h3 : -9223372036854775808 ≤ b) (h4 : b ≤ 9223372036854775807) :
    Calls Try.prog 21 #[.int .i64 a, .int .i64 b] w fun e w' => e = .returned (.tuple #[.int .i64 (Nm.fitZ (-9223372036854775808) 9223372036854775807 (a + b)), .bool (Nm.fitB (-9223372036854775808) 9223372036854775807 (a + b))]) ∧ w' = w := by
  by_cases c1 : -9223372036854775808 ≤ a + b
  · by_cases c2 : a + b ≤ 9223372036854775807
    · by_cases c3 : b < 0
      · have c4 : a + b < a := by omega
        go_enter Try.func21, Try.ntmps21
        go_wp2
        go_ret2
        exact ⟨ret2 (Nm.fitZ_yes c1 c2).symm (Nm.fitB_yes c1 c2).symm, rfl⟩
      · go_enter Try.func21, Try.ntmps21
        go_wp2
        go_ret2
        exact ⟨ret2 (Nm.fitZ_yes c1 c2).symm (Nm.fitB_yes c1 c2).symm, rfl⟩
    · have hw : wrap64 (a + b) = a + b - 18446744073709551616 := by rw [Nm.e64]; omega
      have c3 : ¬ b < 0 := by omega
      have c4 : a + b - 18446744073709551616 < a := by omega
      have hno : ¬ (-9223372036854775808 ≤ a + b ∧ a + b ≤ 9223372036854775807) := by omega
      have H1 : Hid (¬ (-9223372036854775808 ≤ a + b ∧ a + b ≤ 9223372036854775807)) := hno
      clear hno c1 c2
      go_enter Try.func21, Try.ntmps21
      go_wp2
      go_ret2
      exact ⟨ret2 (Nm.fitZ_no H1.out).symm (Nm.fitB_no H1.out).symm, rfl⟩
  · have hw : wrap64 (a + b) = a + b + 18446744073709551616 := by rw [Nm.e64]; omega
    have c3 : b < 0 := by omega
    have c4 : ¬ a + b + 18446744073709551616 < a := by omega
    have hno : ¬ (-9223372036854775808 ≤ a + b ∧ a + b ≤ 9223372036854775807) := by omega
    have H1 : Hid (¬ (-9223372036854775808 ≤ a + b ∧ a + b ≤ 9223372036854775807)) := hno
    clear hno c1
    go_enter Try.func21, Try.ntmps21
    go_wp2
    go_ret2
    exact ⟨ret2 (Nm.fitZ_no H1.out).symm (Nm.fitB_no H1.out).symm, rfl⟩

set_option maxHeartbeats 400000 in
theorem addT (a b : Int) (w : World) (h1 : -128 ≤ a) (h2 : a ≤ 127) (h3 : -128 ≤ b) (h4 : b ≤ 127) :
    Calls Try.prog 22 #[.int .i8 a, .int .i8 b] w fun e w' => e = .returned (.tuple #[.int .i8 (Nm.fitZ (-128) 127 (a + b)), .bool (Nm.fitB (-128) 127 (a + b))]) ∧ w' = w := by
  by_cases c1 : -128 ≤ a + b
  · by_cases c2 : a + b ≤ 127
    · by_cases c3 : b < 0
      · have c4 : a + b < a := by omega
        go_enter Try.func22, Try.ntmps22
        go_wp2
        go_ret2
        exact ⟨ret2 (Nm.fitZ_yes c1 c2).symm (Nm.fitB_yes c1 c2).symm, rfl⟩
      · go_enter Try.func22, Try.ntmps22
        go_wp2
        go_ret2
        exact ⟨ret2 (Nm.fitZ_yes c1 c2).symm (Nm.fitB_yes c1 c2).symm, rfl⟩
    · have hw : IntKind.i8.wrap (a + b) = a + b - 256 := by rw [Nm.e8]; omega
      have c3 : ¬ b < 0 := by omega
      have c4 : a + b - 256 < a := by omega
      have hno : ¬ (-128 ≤ a + b ∧ a + b ≤ 127) := by omega
      have H1 : Hid (¬ (-128 ≤ a + b ∧ a + b ≤ 127)) := hno
      clear hno c1 c2
      go_enter Try.func22, Try.ntmps22
      go_wp2
      go_ret2
      exact ⟨ret2 (Nm.fitZ_no H1.out).symm (Nm.fitB_no H1.out).symm, rfl⟩
  · have hw : IntKind.i8.wrap (a + b) = a + b + 256 := by rw [Nm.e8]; omega
    have c3 : b < 0 := by omega
    have c4 : ¬ a + b + 256 < a := by omega
    have hno : ¬ (-128 ≤ a + b ∧ a + b ≤ 127) := by omega
    have H1 : Hid (¬ (-128 ≤ a + b ∧ a + b ≤ 127)) := hno
    clear hno c1
    go_enter Try.func22, Try.ntmps22
    go_wp2
    go_ret2
    exact ⟨ret2 (Nm.fitZ_no H1.out).symm (Nm.fitB_no H1.out).symm, rfl⟩

set_option maxHeartbeats 400000 in
theorem addW (a b : Int) (w : World) (h1 : -9223372036854775808 ≤ a) (h2 : a ≤ 9223372036854775807) (h3 : -9223372036854775808 ≤ b) (h4 : b ≤ 9223372036854775807) :
    Calls Try.prog 23 #[.int .i64 a, .int .i64 b] w fun e w' => e = .returned (.tuple #[.int .i64 (Nm.fitZ (-9223372036854775808) 9223372036854775807 (a + b)), .bool (Nm.fitB (-9223372036854775808) 9223372036854775807 (a + b))]) ∧ w' = w := by
  by_cases c1 : -9223372036854775808 ≤ a + b
  · by_cases c2 : a + b ≤ 9223372036854775807
    · by_cases c3 : b < 0
      · have c4 : a + b < a := by omega
        go_enter Try.func23, Try.ntmps23
        go_wp2
        go_ret2
        exact ⟨ret2 (Nm.fitZ_yes c1 c2).symm (Nm.fitB_yes c1 c2).symm, rfl⟩
      · go_enter Try.func23, Try.ntmps23
        go_wp2
        go_ret2
        exact ⟨ret2 (Nm.fitZ_yes c1 c2).symm (Nm.fitB_yes c1 c2).symm, rfl⟩
    · have hw : wrap64 (a + b) = a + b - 18446744073709551616 := by rw [Nm.e64]; omega
      have c3 : ¬ b < 0 := by omega
      have c4 : a + b - 18446744073709551616 < a := by omega
      have hno : ¬ (-9223372036854775808 ≤ a + b ∧ a + b ≤ 9223372036854775807) := by omega
      have H1 : Hid (¬ (-9223372036854775808 ≤ a + b ∧ a + b ≤ 9223372036854775807)) := hno
      clear hno c1 c2
      go_enter Try.func23, Try.ntmps23
      go_wp2
      go_ret2
      exact ⟨ret2 (Nm.fitZ_no H1.out).symm (Nm.fitB_no H1.out).symm, rfl⟩
  · have hw : wrap64 (a + b) = a + b + 18446744073709551616 := by rw [Nm.e64]; omega
    have c3 : b < 0 := by omega
    have c4 : ¬ a + b + 18446744073709551616 < a := by omega
    have hno : ¬ (-9223372036854775808 ≤ a + b ∧ a + b ≤ 9223372036854775807) := by omega
    have H1 : Hid (¬ (-9223372036854775808 ≤ a + b ∧ a + b ≤ 9223372036854775807)) := hno
    clear hno c1
    go_enter Try.func23, Try.ntmps23
    go_wp2
    go_ret2
    exact ⟨ret2 (Nm.fitZ_no H1.out).symm (Nm.fitB_no H1.out).symm, rfl⟩

set_option maxHeartbeats 400000 in
theorem near8 (v l h : Int) (w : World) :
    Calls Try.prog 34 #[.int .i8 v, .int .i8 l, .int .i8 h] w fun e w' => e = .returned (.int .i8 (Nm.nearZ v l h)) ∧ w' = w := by
  by_cases c1 : v < l
  · go_enter Try.func34, Try.ntmps34
    go_wp2
    go_ret
    exact ⟨ret1 (by simp [Nm.nearZ, c1]), rfl⟩
  · by_cases c2 : h < l
    · go_enter Try.func34, Try.ntmps34
      go_wp2
      go_ret
      exact ⟨ret1 (by simp [Nm.nearZ, c2]), rfl⟩
    · by_cases c3 : h < v
      · have e1 : Hid (Nm.nearZ v l h = h) := by unfold Hid Nm.nearZ; rw [if_neg (by omega), if_pos c3]
        go_enter Try.func34, Try.ntmps34
        go_wp2
        go_ret
        exact ⟨ret1 e1.out.symm, rfl⟩
      · have e1 : Hid (Nm.nearZ v l h = v) := by unfold Hid Nm.nearZ; rw [if_neg (by omega), if_neg c3]
        go_enter Try.func34, Try.ntmps34
        go_wp2
        go_ret
        exact ⟨ret1 e1.out.symm, rfl⟩

set_option maxHeartbeats 400000 in
theorem near16 (v l h : Int) (w : World) :
    Calls Try.prog 35 #[.int .i16 v, .int .i16 l, .int .i16 h] w fun e w' => e = .returned (.int .i16 (Nm.nearZ v l h)) ∧ w' = w := by
  by_cases c1 : v < l
  · go_enter Try.func35, Try.ntmps35
    go_wp2
    go_ret
    exact ⟨ret1 (by simp [Nm.nearZ, c1]), rfl⟩
  · by_cases c2 : h < l
    · go_enter Try.func35, Try.ntmps35
      go_wp2
      go_ret
      exact ⟨ret1 (by simp [Nm.nearZ, c2]), rfl⟩
    · by_cases c3 : h < v
      · have e1 : Hid (Nm.nearZ v l h = h) := by unfold Hid Nm.nearZ; rw [if_neg (by omega), if_pos c3]
        go_enter Try.func35, Try.ntmps35
        go_wp2
        go_ret
        exact ⟨ret1 e1.out.symm, rfl⟩
      · have e1 : Hid (Nm.nearZ v l h = v) := by unfold Hid Nm.nearZ; rw [if_neg (by omega), if_neg c3]
        go_enter Try.func35, Try.ntmps35
        go_wp2
        go_ret
        exact ⟨ret1 e1.out.symm, rfl⟩

set_option maxHeartbeats 400000 in
theorem near32 (v l h : Int) (w : World) :
    Calls Try.prog 36 #[.int .i32 v, .int .i32 l, .int .i32 h] w fun e w' => e = .returned (.int .i32 (Nm.nearZ v l h)) ∧ w' = w := by
  by_cases c1 : v < l
  · go_enter Try.func36, Try.ntmps36
    go_wp2
    go_ret
    exact ⟨ret1 (by simp [Nm.nearZ, c1]), rfl⟩
  · by_cases c2 : h < l
    · go_enter Try.func36, Try.ntmps36
      go_wp2
      go_ret
      exact ⟨ret1 (by simp [Nm.nearZ, c2]), rfl⟩
    · by_cases c3 : h < v
      · have e1 : Hid (Nm.nearZ v l h = h) := by unfold Hid Nm.nearZ; rw [if_neg (by omega), if_pos c3]
        go_enter Try.func36, Try.ntmps36
        go_wp2
        go_ret
        exact ⟨ret1 e1.out.symm, rfl⟩
      · have e1 : Hid (Nm.nearZ v l h = v) := by unfold Hid Nm.nearZ; rw [if_neg (by omega), if_neg c3]
        go_enter Try.func36, Try.ntmps36
        go_wp2
        go_ret
        exact ⟨ret1 e1.out.symm, rfl⟩

set_option maxHeartbeats 400000 in
theorem near64 (v l h : Int) (w : World) :
    Calls Try.prog 37 #[.int .i64 v, .int .i64 l, .int .i64 h] w fun e w' => e = .returned (.int .i64 (Nm.nearZ v l h)) ∧ w' = w := by
  by_cases c1 : v < l
  · go_enter Try.func37, Try.ntmps37
    go_wp2
    go_ret
    exact ⟨ret1 (by simp [Nm.nearZ, c1]), rfl⟩
  · by_cases c2 : h < l
    · go_enter Try.func37, Try.ntmps37
      go_wp2
      go_ret
      exact ⟨ret1 (by simp [Nm.nearZ, c2]), rfl⟩
    · by_cases c3 : h < v
      · have e1 : Hid (Nm.nearZ v l h = h) := by unfold Hid Nm.nearZ; rw [if_neg (by omega), if_pos c3]
        go_enter Try.func37, Try.ntmps37
        go_wp2
        go_ret
        exact ⟨ret1 e1.out.symm, rfl⟩
      · have e1 : Hid (Nm.nearZ v l h = v) := by unfold Hid Nm.nearZ; rw [if_neg (by omega), if_neg c3]
        go_enter Try.func37, Try.ntmps37
        go_wp2
        go_ret
        exact ⟨ret1 e1.out.symm, rfl⟩

set_option maxHeartbeats 400000 in
theorem nearI (v l h : Int) (w : World) :
    Calls Try.prog 38 #[.int .i64 v, .int .i64 l, .int .i64 h] w fun e w' => e = .returned (.int .i64 (Nm.nearZ v l h)) ∧ w' = w := by
  by_cases c1 : v < l
  · go_enter Try.func38, Try.ntmps38
    go_wp2
    go_ret
    exact ⟨ret1 (by simp [Nm.nearZ, c1]), rfl⟩
  · by_cases c2 : h < l
    · go_enter Try.func38, Try.ntmps38
      go_wp2
      go_ret
      exact ⟨ret1 (by simp [Nm.nearZ, c2]), rfl⟩
    · by_cases c3 : h < v
      · have e1 : Hid (Nm.nearZ v l h = h) := by unfold Hid Nm.nearZ; rw [if_neg (by omega), if_pos c3]
        go_enter Try.func38, Try.ntmps38
        go_wp2
        go_ret
        exact ⟨ret1 e1.out.symm, rfl⟩
      · have e1 : Hid (Nm.nearZ v l h = v) := by unfold Hid Nm.nearZ; rw [if_neg (by omega), if_neg c3]
        go_enter Try.func38, Try.ntmps38
        go_wp2
        go_ret
        exact ⟨ret1 e1.out.symm, rfl⟩

set_option maxHeartbeats 400000 in
theorem nearT (v l h : Int) (w : World) :
    Calls Try.prog 39 #[.int .i8 v, .int .i8 l, .int .i8 h] w fun e w' => e = .returned (.int .i8 (Nm.nearZ v l h)) ∧ w' = w := by
  by_cases c1 : v < l
  · go_enter Try.func39, Try.ntmps39
    go_wp2
    go_ret
    exact ⟨ret1 (by simp [Nm.nearZ, c1]), rfl⟩
  · by_cases c2 : h < l
    · go_enter Try.func39, Try.ntmps39
      go_wp2
      go_ret
      exact ⟨ret1 (by simp [Nm.nearZ, c2]), rfl⟩
    · by_cases c3 : h < v
      · have e1 : Hid (Nm.nearZ v l h = h) := by unfold Hid Nm.nearZ; rw [if_neg (by omega), if_pos c3]
        go_enter Try.func39, Try.ntmps39
        go_wp2
        go_ret
        exact ⟨ret1 e1.out.symm, rfl⟩
      · have e1 : Hid (Nm.nearZ v l h = v) := by unfold Hid Nm.nearZ; rw [if_neg (by omega), if_neg c3]
        go_enter Try.func39, Try.ntmps39
        go_wp2
        go_ret
        exact ⟨ret1 e1.out.symm, rfl⟩

set_option maxHeartbeats 400000 in
theorem nearRef (v l h : Int) (w : World) :
    Calls Try.prog 40 #[.int .i64 v, .int .i64 l, .int .i64 h] w fun e w' => e = .returned (.int .i64 (Nm.nearZ v l h)) ∧ w' = w := by
  by_cases c1 : v < l
  · go_enter Try.func40, Try.ntmps40
    go_wp2
    go_ret
    exact ⟨ret1 (by simp [Nm.nearZ, c1]), rfl⟩
  · by_cases c2 : h < l
    · go_enter Try.func40, Try.ntmps40
      go_wp2
      go_ret
      exact ⟨ret1 (by simp [Nm.nearZ, c2]), rfl⟩
    · by_cases c3 : h < v
      · have e1 : Hid (Nm.nearZ v l h = h) := by unfold Hid Nm.nearZ; rw [if_neg (by omega), if_pos c3]
        go_enter Try.func40, Try.ntmps40
        go_wp2
        go_ret
        exact ⟨ret1 e1.out.symm, rfl⟩
      · have e1 : Hid (Nm.nearZ v l h = v) := by unfold Hid Nm.nearZ; rw [if_neg (by omega), if_neg c3]
        go_enter Try.func40, Try.ntmps40
        go_wp2
        go_ret
        exact ⟨ret1 e1.out.symm, rfl⟩

set_option maxHeartbeats 400000 in
theorem fits8 (n : Int) (w : World) (h1 : -9223372036854775808 ≤ n) (h2 : n ≤ 9223372036854775807) :
    Calls Try.prog 41 #[.int .i64 n] w fun e w' => e = .returned (.tuple #[.int .i8 (Nm.fitZ (-128) 127 n), .bool (Nm.fitB (-128) 127 n)]) ∧ w' = w := by
  by_cases c : -128 ≤ n ∧ n ≤ 127
  · obtain ⟨c1, c2⟩ := c
    have hx : (n != n) = false := by simp
    go_enter Try.func41, Try.ntmps41
    go_wp2
    go_ret2
    exact ⟨ret2 (Nm.fitZ_yes c1 c2).symm (Nm.fitB_yes c1 c2).symm, rfl⟩
  · have hw := Nm.e8 n
    have hr1 : -128 ≤ IntKind.i8.wrap (n) := by rw [hw]; omega
    have hr2 : IntKind.i8.wrap (n) ≤ 127 := by rw [hw]; omega
    have hne : (IntKind.i8.wrap (n) != n) = true := by rw [bne_iff_ne]; intro he; rw [he] at hr1 hr2; exact c ⟨hr1, hr2⟩
    have H1 : Hid (¬ (-128 ≤ n ∧ n ≤ 127)) := c
    clear hw c
    go_enter Try.func41, Try.ntmps41
    go_wp2
    go_ret2
    exact ⟨ret2 (Nm.fitZ_no H1.out).symm (Nm.fitB_no H1.out).symm, rfl⟩

set_option maxHeartbeats 400000 in
theorem fits16 (n : Int) (w : World) (h1 : -9223372036854775808 ≤ n) (h2 : n ≤ 9223372036854775807) :
    Calls Try.prog 42 #[.int .i64 n] w fun e w' => e = .returned (.tuple #[.int .i16 (Nm.fitZ (-32768) 32767 n), .bool (Nm.fitB (-32768) 32767 n)]) ∧ w' = w := by
  by_cases c : -32768 ≤ n ∧ n ≤ 32767
  · obtain ⟨c1, c2⟩ := c
    have hx : (n != n) = false := by simp
    go_enter Try.func42, Try.ntmps42
    go_wp2
    go_ret2
    exact ⟨ret2 (Nm.fitZ_yes c1 c2).symm (Nm.fitB_yes c1 c2).symm, rfl⟩
  · have hw := Nm.e16 n
    have hr1 : -32768 ≤ IntKind.i16.wrap (n) := by rw [hw]; omega
    have hr2 : IntKind.i16.wrap (n) ≤ 32767 := by rw [hw]; omega
    have hne : (IntKind.i16.wrap (n) != n) = true := by rw [bne_iff_ne]; intro he; rw [he] at hr1 hr2; exact c ⟨hr1, hr2⟩
    have H1 : Hid (¬ (-32768 ≤ n ∧ n ≤ 32767)) := c
    clear hw c
    go_enter Try.func42, Try.ntmps42
    go_wp2
    go_ret2
    exact ⟨ret2 (Nm.fitZ_no H1.out).symm (Nm.fitB_no H1.out).symm, rfl⟩

set_option maxHeartbeats 400000 in
theorem fits32 (n : Int) (w : World) (h1 : -9223372036854775808 ≤ n) (h2 : n ≤ 9223372036854775807) :
    Calls Try.prog 43 #[.int .i64 n] w fun e w' => e = .returned (.tuple #[.int .i32 (Nm.fitZ (-2147483648) 2147483647 n), .bool (Nm.fitB (-2147483648) 2147483647 n)]) ∧ w' = w := by
  by_cases c : -2147483648 ≤ n ∧ n ≤ 2147483647
  · obtain ⟨c1, c2⟩ := c
    have hx : (n != n) = false := by simp
    go_enter Try.func43, Try.ntmps43
    go_wp2
    go_ret2
    exact ⟨ret2 (Nm.fitZ_yes c1 c2).symm (Nm.fitB_yes c1 c2).symm, rfl⟩
  · have hw := Nm.e32 n
    have hr1 : -2147483648 ≤ wrap32 (n) := by rw [hw]; omega
    have hr2 : wrap32 (n) ≤ 2147483647 := by rw [hw]; omega
    have hne : (wrap32 (n) != n) = true := by rw [bne_iff_ne]; intro he; rw [he] at hr1 hr2; exact c ⟨hr1, hr2⟩
    have H1 : Hid (¬ (-2147483648 ≤ n ∧ n ≤ 2147483647)) := c
    clear hw c
    go_enter Try.func43, Try.ntmps43
    go_wp2
    go_ret2
    exact ⟨ret2 (Nm.fitZ_no H1.out).symm (Nm.fitB_no H1.out).symm, rfl⟩

set_option maxHeartbeats 400000 in
theorem fits64 (n : Int) (w : World) (h1 : -9223372036854775808 ≤ n) (h2 : n ≤ 9223372036854775807) :
    Calls Try.prog 44 #[.int .i64 n] w fun e w' => e = .returned (.tuple #[.int .i64 (Nm.fitZ (-9223372036854775808) 9223372036854775807 n), .bool (Nm.fitB (-9223372036854775808) 9223372036854775807 n)]) ∧ w' = w := by
  have hx : (n != n) = false := by simp
  go_enter Try.func44, Try.ntmps44
  go_wp2
  go_ret2
  exact ⟨ret2 (Nm.fitZ_yes h1 h2).symm (Nm.fitB_yes h1 h2).symm, rfl⟩

set_option maxHeartbeats 400000 in
theorem fitsI (n : Int) (w : World) (h1 : -9223372036854775808 ≤ n) (h2 : n ≤ 9223372036854775807) :
    Calls Try.prog 45 #[.int .i64 n] w fun e w' => e = .returned (.tuple #[.int .i64 (Nm.fitZ (-9223372036854775808) 9223372036854775807 n), .bool (Nm.fitB (-9223372036854775808) 9223372036854775807 n)]) ∧ w' = w := by
  have hx : (n != n) = false := by simp
  go_enter Try.func45, Try.ntmps45
  go_wp2
  go_ret2
  exact ⟨ret2 (Nm.fitZ_yes h1 h2).symm (Nm.fitB_yes h1 h2).symm, rfl⟩

set_option maxHeartbeats 400000 in
theorem fitsT (n : Int) (w : World) (h1 : -9223372036854775808 ≤ n) (h2 : n ≤ 9223372036854775807) :
    Calls Try.prog 46 #[.int .i64 n] w fun e w' => e = .returned (.tuple #[.int .i8 (Nm.fitZ (-128) 127 n), .bool (Nm.fitB (-128) 127 n)]) ∧ w' = w := by
  by_cases c : -128 ≤ n ∧ n ≤ 127
  · obtain ⟨c1, c2⟩ := c
    have hx : (n != n) = false := by simp
    go_enter Try.func46, Try.ntmps46
    go_wp2
    go_ret2
    exact ⟨ret2 (Nm.fitZ_yes c1 c2).symm (Nm.fitB_yes c1 c2).symm, rfl⟩
  · have hw := Nm.e8 n
    have hr1 : -128 ≤ IntKind.i8.wrap (n) := by rw [hw]; omega
    have hr2 : IntKind.i8.wrap (n) ≤ 127 := by rw [hw]; omega
    have hne : (IntKind.i8.wrap (n) != n) = true := by rw [bne_iff_ne]; intro he; rw [he] at hr1 hr2; exact c ⟨hr1, hr2⟩
    have H1 : Hid (¬ (-128 ≤ n ∧ n ≤ 127)) := c
    clear hw c
    go_enter Try.func46, Try.ntmps46
    go_wp2
    go_ret2
    exact ⟨ret2 (Nm.fitZ_no H1.out).symm (Nm.fitB_no H1.out).symm, rfl⟩

set_option maxHeartbeats 400000 in
theorem sizeRef (a : Int) (w : World) (h1 : -9223372036854775808 ≤ a) (h2 : a ≤ 9223372036854775807) :
    Calls Try.prog 71 #[.int .i64 a] w fun e w' => e = .returned (.int .u64 (Nm.absZ a)) ∧ w' = w := by
  by_cases c : a < 0
  · have b1 : 0 ≤ -(a + 1) := by omega
    have b2 : -(a + 1) ≤ 9223372036854775807 := by omega
    go_enter Try.func71, Try.ntmps71
    go_wp2
    go_ret
    exact ⟨ret1 (Nm.abs_neg c), rfl⟩
  · have b1 : 0 ≤ a := by omega
    go_enter Try.func71, Try.ntmps71
    go_wp2
    go_ret
    exact ⟨ret1 (Nm.abs_pos b1), rfl⟩

set_option maxHeartbeats 400000 in
theorem signedRef (n : Int) (b : Bool) (w : World) (h1 : 0 ≤ n) (h2 : n ≤ 18446744073709551615) :
    Calls Try.prog 72 #[.int .u64 n, .bool b] w fun e w' => e = .returned (.tuple #[.int .i64 (Nm.fitZ (-9223372036854775808) 9223372036854775807 (Nm.sv n b)), .bool (Nm.fitB (-9223372036854775808) 9223372036854775807 (Nm.sv n b))]) ∧ w' = w := by
  by_cases c0 : n = 0
  · subst c0
    cases b <;>
    · go_enter Try.func72, Try.ntmps72
      go_wp2
      go_ret2
      exact ⟨ret2 (by decide) (by decide), rfl⟩
  · have c1 : 0 < n := by omega
    clear c0
    cases b
    · by_cases c2 : 9223372036854775807 < n
      · have H1 : Hid (¬ (-9223372036854775808 ≤ Nm.sv n false ∧ Nm.sv n false ≤ 9223372036854775807)) := by unfold Hid Nm.sv; simp; omega
        go_enter Try.func72, Try.ntmps72
        go_wp2
        go_ret2
        exact ⟨ret2 (Nm.fitZ_no H1.out).symm (Nm.fitB_no H1.out).symm, rfl⟩
      · have c3 : n ≤ 9223372036854775807 := by omega
        clear c2
        have H1 : Hid (-9223372036854775808 ≤ Nm.sv n false ∧ Nm.sv n false ≤ 9223372036854775807) := by unfold Hid Nm.sv; simp; omega
        go_enter Try.func72, Try.ntmps72
        go_wp2
        go_ret2
        exact ⟨ret2 (Nm.fitZ_yes H1.out.1 H1.out.2).symm (Nm.fitB_yes H1.out.1 H1.out.2).symm, rfl⟩
    · by_cases c2 : 9223372036854775808 < n
      · have H1 : Hid (¬ (-9223372036854775808 ≤ Nm.sv n true ∧ Nm.sv n true ≤ 9223372036854775807)) := by unfold Hid Nm.sv; simp; omega
        go_enter Try.func72, Try.ntmps72
        go_wp2
        go_ret2
        exact ⟨ret2 (Nm.fitZ_no H1.out).symm (Nm.fitB_no H1.out).symm, rfl⟩
      · have c3 : n ≤ 9223372036854775808 := by omega
        clear c2
        have c4 : 0 ≤ n - 1 := by omega
        have c5 : n - 1 ≤ 9223372036854775807 := by omega
        have H1 : Hid (-9223372036854775808 ≤ Nm.sv n true ∧ Nm.sv n true ≤ 9223372036854775807) := by unfold Hid Nm.sv; simp; omega
        have H2 : Hid (-(n - 1) - 1 = Nm.sv n true) := by unfold Hid Nm.sv; simp; omega
        go_enter Try.func72, Try.ntmps72
        go_wp2
        go_ret2
        exact ⟨ret2 (H2.out.trans (Nm.fitZ_yes H1.out.1 H1.out.2).symm) (Nm.fitB_yes H1.out.1 H1.out.2).symm, rfl⟩

end Go.Proofs.Ytnbfjoheljlkfaa