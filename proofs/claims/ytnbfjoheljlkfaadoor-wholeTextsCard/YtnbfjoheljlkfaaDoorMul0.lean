/- What Mul of package whole, and the document's own Mul, answer at every two numbers of their width. -/
import Derived.Test.YtnbfjoheljlkfaaDoorSums0
import Derived.Test.YtnbfjoheljlkfaaDoorNums2
namespace Go.Proofs.YtnbfjoheljlkfaaDoor
open Go.RowKit
set_option linter.unusedVariables false

set_option maxHeartbeats 1000000 in
theorem mul8 (a b : Int) (w : World) (h1 : -128 ≤ a) (h2 : a ≤ 127) (h3 : -128 ≤ b) (h4 : b ≤ 127) :
    Calls Tryd.prog 16 #[.int .i8 a, .int .i8 b] w fun e w' => e = .returned (.tuple #[.int .i8 (Nm.fitZ (-128) 127 (a * b)), .bool (Nm.fitB (-128) 127 (a * b))]) ∧ w' = w := by
  by_cases a0 : a = 0
  · subst a0
    go_enter Tryd.func16, Tryd.ntmps16
    go_wp2
    go_ret2
    exact ⟨ret2 (by rw [Int.zero_mul]; decide) (by rw [Int.zero_mul]; decide), rfl⟩
  by_cases b0 : b = 0
  · subst b0
    have ha : (a == 0) = false := by simpa using a0
    clear a0
    go_enter Tryd.func16, Tryd.ntmps16
    go_wp2
    go_ret2
    exact ⟨ret2 (by rw [Int.mul_zero]; decide) (by rw [Int.mul_zero]; decide), rfl⟩
  have ha : (a == 0) = false := by simpa using a0
  have hb : (b == 0) = false := by simpa using b0
  obtain ⟨p, k, hp, hk, p1, p2⟩ := Nm.mulp8 (a * b)
  obtain ⟨q, hq⟩ : ∃ q, IntKind.i8.wrap (p.tdiv b) = q := ⟨_, rfl⟩
  have HI : Hid (-128 ≤ a * b → a * b ≤ 127 → p = a * b ∧ q = a ∧ decide (p < 0) = (decide (a < 0) != decide (b < 0))) := fun r1 r2 => Nm.mul_in8 a0 b0 h1 h2 hk p1 p2 hq r1 r2
  have HO : Hid (decide (p < 0) = (decide (a < 0) != decide (b < 0)) → q = a → -128 ≤ a * b ∧ a * b ≤ 127) := fun x y => Nm.mul_out8 a0 b0 h1 h2 h3 h4 hk p1 p2 hq x y
  have A0 : Hid (a ≠ 0) := a0
  have B0 : Hid (b ≠ 0) := b0
  clear hk a0 b0
  by_cases cs : decide (p < 0) = (decide (a < 0) != decide (b < 0))
  · by_cases cq : q = a
    · have hr := HO.out cs cq
      have hx := HI.out hr.1 hr.2
      have HR : Hid ((-128 ≤ a * b ∧ a * b ≤ 127) ∧ p = a * b) := ⟨hr, hx.1⟩
      subst cq
      clear hr hx HI HO
      have hqq : (q != q) = false := by simp
      by_cases s1 : q < 0 <;> by_cases s2 : b < 0 <;> by_cases s3 : p < 0 <;> simp [s1, s2, s3] at cs <;>
      · go_enter Tryd.func16, Tryd.ntmps16
        go_wp2
        go_ret2
        exact ⟨ret2 (HR.out.2.trans (Nm.fitZ_yes HR.out.1.1 HR.out.1.2).symm) (Nm.fitB_yes HR.out.1.1 HR.out.1.2).symm, rfl⟩
    · have HN : Hid (¬ (-128 ≤ a * b ∧ a * b ≤ 127)) := fun hc => cq (HI.out hc.1 hc.2).2.1
      have hqq : (q != a) = true := by simpa using cq
      clear HI HO cq
      by_cases s1 : a < 0 <;> by_cases s2 : b < 0 <;> by_cases s3 : p < 0 <;> simp [s1, s2, s3] at cs <;>
      · go_enter Tryd.func16, Tryd.ntmps16
        go_wp2
        go_ret2
        exact ⟨ret2 (Nm.fitZ_no HN.out).symm (Nm.fitB_no HN.out).symm, rfl⟩
  · have HN : Hid (¬ (-128 ≤ a * b ∧ a * b ≤ 127)) := fun hc => cs (HI.out hc.1 hc.2).2.2
    clear HI HO
    by_cases s1 : a < 0 <;> by_cases s2 : b < 0 <;> by_cases s3 : p < 0 <;> simp [s1, s2, s3] at cs <;>
    · go_enter Tryd.func16, Tryd.ntmps16
      go_wp2
      go_ret2
      exact ⟨ret2 (Nm.fitZ_no HN.out).symm (Nm.fitB_no HN.out).symm, rfl⟩

end Go.Proofs.YtnbfjoheljlkfaaDoor