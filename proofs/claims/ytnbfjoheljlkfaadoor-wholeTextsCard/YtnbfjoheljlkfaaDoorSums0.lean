/- What Add, Near, Fits of package whole, and the document's own Fits, Add, size and signed, answer at every numbers of their width. -/
import Derived.Test.YtnbfjoheljlkfaaDoorParts
namespace Go.Proofs.YtnbfjoheljlkfaaDoor
open Go.RowKit
set_option linter.unusedVariables false

theorem ret1 {k : IntKind} {a b : Int} (h : a = b) : Ending.returned (.int k a) = .returned (.int k b) := by rw [h]

set_option maxHeartbeats 400000 in
theorem add8 (a b : Int) (w : World) (h1 : -128 ≤ a) (h2 : a ≤ 127) (h3 : -128 ≤ b) (h4 : b ≤ 127) :
    Calls Tryd.prog 15 #[.int .i8 a, .int .i8 b] w fun e w' => e = .returned (.tuple #[.int .i8 (Nm.fitZ (-128) 127 (a + b)), .bool (Nm.fitB (-128) 127 (a + b))]) ∧ w' = w := by
  by_cases c1 : -128 ≤ a + b
  · by_cases c2 : a + b ≤ 127
    · by_cases c3 : b < 0
      · have c4 : a + b < a := by omega
        go_enter Tryd.func15, Tryd.ntmps15
        go_wp2
        go_ret2
        exact ⟨ret2 (Nm.fitZ_yes c1 c2).symm (Nm.fitB_yes c1 c2).symm, rfl⟩
      · go_enter Tryd.func15, Tryd.ntmps15
        go_wp2
        go_ret2
        exact ⟨ret2 (Nm.fitZ_yes c1 c2).symm (Nm.fitB_yes c1 c2).symm, rfl⟩
    · have hw : IntKind.i8.wrap (a + b) = a + b - 256 := by rw [Nm.e8]; omega
      have c3 : ¬ b < 0 := by omega
      have c4 : a + b - 256 < a := by omega
      have hno : ¬ (-128 ≤ a + b ∧ a + b ≤ 127) := by omega
      have H1 : Hid (¬ (-128 ≤ a + b ∧ a + b ≤ 127)) := hno
      clear hno c1 c2
      go_enter Tryd.func15, Tryd.ntmps15
      go_wp2
      go_ret2
      exact ⟨ret2 (Nm.fitZ_no H1.out).symm (Nm.fitB_no H1.out).symm, rfl⟩
  · have hw : IntKind.i8.wrap (a + b) = a + b + 256 := by rw [Nm.e8]; omega
    have c3 : b < 0 := by omega
    have c4 : ¬ a + b + 256 < a := by omega
    have hno : ¬ (-128 ≤ a + b ∧ a + b ≤ 127) := by omega
    have H1 : Hid (¬ (-128 ≤ a + b ∧ a + b ≤ 127)) := hno
    clear hno c1
    go_enter Tryd.func15, Tryd.ntmps15
    go_wp2
    go_ret2
    exact ⟨ret2 (Nm.fitZ_no H1.out).symm (Nm.fitB_no H1.out).symm, rfl⟩

set_option maxHeartbeats 400000 in
theorem nearI (v l h : Int) (w : World) :
    Calls Tryd.prog 18 #[.int .i64 v, .int .i64 l, .int .i64 h] w fun e w' => e = .returned (.int .i64 (Nm.nearZ v l h)) ∧ w' = w := by
  by_cases c1 : v < l
  · go_enter Tryd.func18, Tryd.ntmps18
    go_wp2
    go_ret
    exact ⟨ret1 (by simp [Nm.nearZ, c1]), rfl⟩
  · by_cases c2 : h < l
    · go_enter Tryd.func18, Tryd.ntmps18
      go_wp2
      go_ret
      exact ⟨ret1 (by simp [Nm.nearZ, c2]), rfl⟩
    · by_cases c3 : h < v
      · have e1 : Hid (Nm.nearZ v l h = h) := by unfold Hid Nm.nearZ; rw [if_neg (by omega), if_pos c3]
        go_enter Tryd.func18, Tryd.ntmps18
        go_wp2
        go_ret
        exact ⟨ret1 e1.out.symm, rfl⟩
      · have e1 : Hid (Nm.nearZ v l h = v) := by unfold Hid Nm.nearZ; rw [if_neg (by omega), if_neg c3]
        go_enter Tryd.func18, Tryd.ntmps18
        go_wp2
        go_ret
        exact ⟨ret1 e1.out.symm, rfl⟩

set_option maxHeartbeats 400000 in
theorem fits8 (n : Int) (w : World) (h1 : -9223372036854775808 ≤ n) (h2 : n ≤ 9223372036854775807) :
    Calls Tryd.prog 6 #[.int .i64 n] w fun e w' => e = .returned (.tuple #[.int .i8 (Nm.fitZ (-128) 127 n), .bool (Nm.fitB (-128) 127 n)]) ∧ w' = w := by
  by_cases c : -128 ≤ n ∧ n ≤ 127
  · obtain ⟨c1, c2⟩ := c
    have hx : (n != n) = false := by simp
    go_enter Tryd.func6, Tryd.ntmps6
    go_wp2
    go_ret2
    exact ⟨ret2 (Nm.fitZ_yes c1 c2).symm (Nm.fitB_yes c1 c2).symm, rfl⟩
  · have hw := Nm.e8 n
    have hr1 : -128 ≤ IntKind.i8.wrap (n) := by rw [hw]; omega
    have hr2 : IntKind.i8.wrap (n) ≤ 127 := by rw [hw]; omega
    have hne : (IntKind.i8.wrap (n) != n) = true := by rw [bne_iff_ne]; intro he; rw [he] at hr1 hr2; exact c ⟨hr1, hr2⟩
    have H1 : Hid (¬ (-128 ≤ n ∧ n ≤ 127)) := c
    clear hw c
    go_enter Tryd.func6, Tryd.ntmps6
    go_wp2
    go_ret2
    exact ⟨ret2 (Nm.fitZ_no H1.out).symm (Nm.fitB_no H1.out).symm, rfl⟩

set_option maxHeartbeats 400000 in
theorem sizeRef (a : Int) (w : World) (h1 : -9223372036854775808 ≤ a) (h2 : a ≤ 9223372036854775807) :
    Calls Tryd.prog 21 #[.int .i64 a] w fun e w' => e = .returned (.int .u64 (Nm.absZ a)) ∧ w' = w := by
  by_cases c : a < 0
  · have b1 : 0 ≤ -(a + 1) := by omega
    have b2 : -(a + 1) ≤ 9223372036854775807 := by omega
    go_enter Tryd.func21, Tryd.ntmps21
    go_wp2
    go_ret
    exact ⟨ret1 (Nm.abs_neg c), rfl⟩
  · have b1 : 0 ≤ a := by omega
    go_enter Tryd.func21, Tryd.ntmps21
    go_wp2
    go_ret
    exact ⟨ret1 (Nm.abs_pos b1), rfl⟩

set_option maxHeartbeats 400000 in
theorem signedRef (n : Int) (b : Bool) (w : World) (h1 : 0 ≤ n) (h2 : n ≤ 18446744073709551615) :
    Calls Tryd.prog 20 #[.int .u64 n, .bool b] w fun e w' => e = .returned (.tuple #[.int .i64 (Nm.fitZ (-9223372036854775808) 9223372036854775807 (Nm.sv n b)), .bool (Nm.fitB (-9223372036854775808) 9223372036854775807 (Nm.sv n b))]) ∧ w' = w := by
  by_cases c0 : n = 0
  · subst c0
    cases b <;>
    · go_enter Tryd.func20, Tryd.ntmps20
      go_wp2
      go_ret2
      exact ⟨ret2 (by decide) (by decide), rfl⟩
  · have c1 : 0 < n := by omega
    clear c0
    cases b
    · by_cases c2 : 9223372036854775807 < n
      · have H1 : Hid (¬ (-9223372036854775808 ≤ Nm.sv n false ∧ Nm.sv n false ≤ 9223372036854775807)) := by unfold Hid Nm.sv; simp; omega
        go_enter Tryd.func20, Tryd.ntmps20
        go_wp2
        go_ret2
        exact ⟨ret2 (Nm.fitZ_no H1.out).symm (Nm.fitB_no H1.out).symm, rfl⟩
      · have c3 : n ≤ 9223372036854775807 := by omega
        clear c2
        have H1 : Hid (-9223372036854775808 ≤ Nm.sv n false ∧ Nm.sv n false ≤ 9223372036854775807) := by unfold Hid Nm.sv; simp; omega
        go_enter Tryd.func20, Tryd.ntmps20
        go_wp2
        go_ret2
        exact ⟨ret2 (Nm.fitZ_yes H1.out.1 H1.out.2).symm (Nm.fitB_yes H1.out.1 H1.out.2).symm, rfl⟩
    · by_cases c2 : 9223372036854775808 < n
      · have H1 : Hid (¬ (-9223372036854775808 ≤ Nm.sv n true ∧ Nm.sv n true ≤ 9223372036854775807)) := by unfold Hid Nm.sv; simp; omega
        go_enter Tryd.func20, Tryd.ntmps20
        go_wp2
        go_ret2
        exact ⟨ret2 (Nm.fitZ_no H1.out).symm (Nm.fitB_no H1.out).symm, rfl⟩
      · have c3 : n ≤ 9223372036854775808 := by omega
        clear c2
        have c4 : 0 ≤ n - 1 := by omega
        have c5 : n - 1 ≤ 9223372036854775807 := by omega
        have H1 : Hid (-9223372036854775808 ≤ Nm.sv n true ∧ Nm.sv n true ≤ 9223372036854775807) := by unfold Hid Nm.sv; simp; omega
        have H2 : Hid (-(n - 1) - 1 = Nm.sv n true) := by unfold Hid Nm.sv; simp; omega
        go_enter Tryd.func20, Tryd.ntmps20
        go_wp2
        go_ret2
        exact ⟨ret2 (H2.out.trans (Nm.fitZ_yes H1.out.1 H1.out.2).symm) (Nm.fitB_yes H1.out.1 H1.out.2).symm, rfl⟩

end Go.Proofs.YtnbfjoheljlkfaaDoor