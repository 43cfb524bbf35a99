/- Linear parts one behind the other, and the way back, in whole numbers. Nothing of the program in it. -/
import Derived.Test.YtmlehegahgijhaaI9
namespace Go.Proofs.Ytmlehegahgijhaa
open Go.RowKit
open Fl
set_option linter.unusedVariables false
set_option linter.unusedSimpArgs false
set_option maxRecDepth 100000
theorem lt0 (x y : Int) : lx 0 x y = x ∧ ly 0 x y = y := by
  have h1 : tx 0 = 1 := rfl
  have h2 : ty 0 = 0 := rfl
  have h3 : fl4 0 = false := rfl
  unfold lx ly cj
  rw [h1, h2, h3]
  simp
theorem lt1 (x y : Int) : lx 1 x y = -y ∧ ly 1 x y = x := by
  have h1 : tx 1 = 0 := rfl
  have h2 : ty 1 = 1 := rfl
  have h3 : fl4 1 = false := rfl
  unfold lx ly cj
  rw [h1, h2, h3]
  simp
theorem lt2 (x y : Int) : lx 2 x y = -x ∧ ly 2 x y = -y := by
  have h1 : tx 2 = -1 := rfl
  have h2 : ty 2 = 0 := rfl
  have h3 : fl4 2 = false := rfl
  unfold lx ly cj
  rw [h1, h2, h3]
  simp
theorem lt3 (x y : Int) : lx 3 x y = y ∧ ly 3 x y = -x := by
  have h1 : tx 3 = 0 := rfl
  have h2 : ty 3 = -1 := rfl
  have h3 : fl4 3 = false := rfl
  unfold lx ly cj
  rw [h1, h2, h3]
  simp
theorem lt4 (x y : Int) : lx 4 x y = x ∧ ly 4 x y = -y := by
  have h1 : tx 4 = 1 := rfl
  have h2 : ty 4 = 0 := rfl
  have h3 : fl4 4 = true := rfl
  unfold lx ly cj
  rw [h1, h2, h3]
  simp
theorem lt5 (x y : Int) : lx 5 x y = y ∧ ly 5 x y = x := by
  have h1 : tx 5 = 0 := rfl
  have h2 : ty 5 = 1 := rfl
  have h3 : fl4 5 = true := rfl
  unfold lx ly cj
  rw [h1, h2, h3]
  simp
theorem lt6 (x y : Int) : lx 6 x y = -x ∧ ly 6 x y = y := by
  have h1 : tx 6 = -1 := rfl
  have h2 : ty 6 = 0 := rfl
  have h3 : fl4 6 = true := rfl
  unfold lx ly cj
  rw [h1, h2, h3]
  simp
theorem lt7 (x y : Int) : lx 7 x y = -y ∧ ly 7 x y = -x := by
  have h1 : tx 7 = 0 := rfl
  have h2 : ty 7 = -1 := rfl
  have h3 : fl4 7 = true := rfl
  unfold lx ly cj
  rw [h1, h2, h3]
  simp

theorem comp (k : Nat) (hk : k < 8) (l : Nat) (hl : l < 8) (x y : Int) : lx l (lx k x y) (ly k x y) = lx (both k l) x y ∧ ly l (lx k x y) (ly k x y) = ly (both k l) x y := by
  obtain rfl | rfl | rfl | rfl | rfl | rfl | rfl | rfl : k = 0 ∨ k = 1 ∨ k = 2 ∨ k = 3 ∨ k = 4 ∨ k = 5 ∨ k = 6 ∨ k = 7 := by omega
  · obtain rfl | rfl | rfl | rfl | rfl | rfl | rfl | rfl : l = 0 ∨ l = 1 ∨ l = 2 ∨ l = 3 ∨ l = 4 ∨ l = 5 ∨ l = 6 ∨ l = 7 := by omega
    · have e1 := lt0 x y; have e2 := lt0 (lx 0 x y) (ly 0 x y); have e3 := lt0 x y; rw [show both 0 0 = 0 from rfl]; omega
    · have e1 := lt0 x y; have e2 := lt1 (lx 0 x y) (ly 0 x y); have e3 := lt1 x y; rw [show both 0 1 = 1 from rfl]; omega
    · have e1 := lt0 x y; have e2 := lt2 (lx 0 x y) (ly 0 x y); have e3 := lt2 x y; rw [show both 0 2 = 2 from rfl]; omega
    · have e1 := lt0 x y; have e2 := lt3 (lx 0 x y) (ly 0 x y); have e3 := lt3 x y; rw [show both 0 3 = 3 from rfl]; omega
    · have e1 := lt0 x y; have e2 := lt4 (lx 0 x y) (ly 0 x y); have e3 := lt4 x y; rw [show both 0 4 = 4 from rfl]; omega
    · have e1 := lt0 x y; have e2 := lt5 (lx 0 x y) (ly 0 x y); have e3 := lt5 x y; rw [show both 0 5 = 5 from rfl]; omega
    · have e1 := lt0 x y; have e2 := lt6 (lx 0 x y) (ly 0 x y); have e3 := lt6 x y; rw [show both 0 6 = 6 from rfl]; omega
    · have e1 := lt0 x y; have e2 := lt7 (lx 0 x y) (ly 0 x y); have e3 := lt7 x y; rw [show both 0 7 = 7 from rfl]; omega
  · obtain rfl | rfl | rfl | rfl | rfl | rfl | rfl | rfl : l = 0 ∨ l = 1 ∨ l = 2 ∨ l = 3 ∨ l = 4 ∨ l = 5 ∨ l = 6 ∨ l = 7 := by omega
    · have e1 := lt1 x y; have e2 := lt0 (lx 1 x y) (ly 1 x y); have e3 := lt1 x y; rw [show both 1 0 = 1 from rfl]; omega
    · have e1 := lt1 x y; have e2 := lt1 (lx 1 x y) (ly 1 x y); have e3 := lt2 x y; rw [show both 1 1 = 2 from rfl]; omega
    · have e1 := lt1 x y; have e2 := lt2 (lx 1 x y) (ly 1 x y); have e3 := lt3 x y; rw [show both 1 2 = 3 from rfl]; omega
    · have e1 := lt1 x y; have e2 := lt3 (lx 1 x y) (ly 1 x y); have e3 := lt0 x y; rw [show both 1 3 = 0 from rfl]; omega
    · have e1 := lt1 x y; have e2 := lt4 (lx 1 x y) (ly 1 x y); have e3 := lt7 x y; rw [show both 1 4 = 7 from rfl]; omega
    · have e1 := lt1 x y; have e2 := lt5 (lx 1 x y) (ly 1 x y); have e3 := lt4 x y; rw [show both 1 5 = 4 from rfl]; omega
    · have e1 := lt1 x y; have e2 := lt6 (lx 1 x y) (ly 1 x y); have e3 := lt5 x y; rw [show both 1 6 = 5 from rfl]; omega
    · have e1 := lt1 x y; have e2 := lt7 (lx 1 x y) (ly 1 x y); have e3 := lt6 x y; rw [show both 1 7 = 6 from rfl]; omega
  · obtain rfl | rfl | rfl | rfl | rfl | rfl | rfl | rfl : l = 0 ∨ l = 1 ∨ l = 2 ∨ l = 3 ∨ l = 4 ∨ l = 5 ∨ l = 6 ∨ l = 7 := by omega
    · have e1 := lt2 x y; have e2 := lt0 (lx 2 x y) (ly 2 x y); have e3 := lt2 x y; rw [show both 2 0 = 2 from rfl]; omega
    · have e1 := lt2 x y; have e2 := lt1 (lx 2 x y) (ly 2 x y); have e3 := lt3 x y; rw [show both 2 1 = 3 from rfl]; omega
    · have e1 := lt2 x y; have e2 := lt2 (lx 2 x y) (ly 2 x y); have e3 := lt0 x y; rw [show both 2 2 = 0 from rfl]; omega
    · have e1 := lt2 x y; have e2 := lt3 (lx 2 x y) (ly 2 x y); have e3 := lt1 x y; rw [show both 2 3 = 1 from rfl]; omega
    · have e1 := lt2 x y; have e2 := lt4 (lx 2 x y) (ly 2 x y); have e3 := lt6 x y; rw [show both 2 4 = 6 from rfl]; omega
    · have e1 := lt2 x y; have e2 := lt5 (lx 2 x y) (ly 2 x y); have e3 := lt7 x y; rw [show both 2 5 = 7 from rfl]; omega
    · have e1 := lt2 x y; have e2 := lt6 (lx 2 x y) (ly 2 x y); have e3 := lt4 x y; rw [show both 2 6 = 4 from rfl]; omega
    · have e1 := lt2 x y; have e2 := lt7 (lx 2 x y) (ly 2 x y); have e3 := lt5 x y; rw [show both 2 7 = 5 from rfl]; omega
  · obtain rfl | rfl | rfl | rfl | rfl | rfl | rfl | rfl : l = 0 ∨ l = 1 ∨ l = 2 ∨ l = 3 ∨ l = 4 ∨ l = 5 ∨ l = 6 ∨ l = 7 := by omega
    · have e1 := lt3 x y; have e2 := lt0 (lx 3 x y) (ly 3 x y); have e3 := lt3 x y; rw [show both 3 0 = 3 from rfl]; omega
    · have e1 := lt3 x y; have e2 := lt1 (lx 3 x y) (ly 3 x y); have e3 := lt0 x y; rw [show both 3 1 = 0 from rfl]; omega
    · have e1 := lt3 x y; have e2 := lt2 (lx 3 x y) (ly 3 x y); have e3 := lt1 x y; rw [show both 3 2 = 1 from rfl]; omega
    · have e1 := lt3 x y; have e2 := lt3 (lx 3 x y) (ly 3 x y); have e3 := lt2 x y; rw [show both 3 3 = 2 from rfl]; omega
    · have e1 := lt3 x y; have e2 := lt4 (lx 3 x y) (ly 3 x y); have e3 := lt5 x y; rw [show both 3 4 = 5 from rfl]; omega
    · have e1 := lt3 x y; have e2 := lt5 (lx 3 x y) (ly 3 x y); have e3 := lt6 x y; rw [show both 3 5 = 6 from rfl]; omega
    · have e1 := lt3 x y; have e2 := lt6 (lx 3 x y) (ly 3 x y); have e3 := lt7 x y; rw [show both 3 6 = 7 from rfl]; omega
    · have e1 := lt3 x y; have e2 := lt7 (lx 3 x y) (ly 3 x y); have e3 := lt4 x y; rw [show both 3 7 = 4 from rfl]; omega
  · obtain rfl | rfl | rfl | rfl | rfl | rfl | rfl | rfl : l = 0 ∨ l = 1 ∨ l = 2 ∨ l = 3 ∨ l = 4 ∨ l = 5 ∨ l = 6 ∨ l = 7 := by omega
    · have e1 := lt4 x y; have e2 := lt0 (lx 4 x y) (ly 4 x y); have e3 := lt4 x y; rw [show both 4 0 = 4 from rfl]; omega
    · have e1 := lt4 x y; have e2 := lt1 (lx 4 x y) (ly 4 x y); have e3 := lt5 x y; rw [show both 4 1 = 5 from rfl]; omega
    · have e1 := lt4 x y; have e2 := lt2 (lx 4 x y) (ly 4 x y); have e3 := lt6 x y; rw [show both 4 2 = 6 from rfl]; omega
    · have e1 := lt4 x y; have e2 := lt3 (lx 4 x y) (ly 4 x y); have e3 := lt7 x y; rw [show both 4 3 = 7 from rfl]; omega
    · have e1 := lt4 x y; have e2 := lt4 (lx 4 x y) (ly 4 x y); have e3 := lt0 x y; rw [show both 4 4 = 0 from rfl]; omega
    · have e1 := lt4 x y; have e2 := lt5 (lx 4 x y) (ly 4 x y); have e3 := lt1 x y; rw [show both 4 5 = 1 from rfl]; omega
    · have e1 := lt4 x y; have e2 := lt6 (lx 4 x y) (ly 4 x y); have e3 := lt2 x y; rw [show both 4 6 = 2 from rfl]; omega
    · have e1 := lt4 x y; have e2 := lt7 (lx 4 x y) (ly 4 x y); have e3 := lt3 x y; rw [show both 4 7 = 3 from rfl]; omega
  · obtain rfl | rfl | rfl | rfl | rfl | rfl | rfl | rfl : l = 0 ∨ l = 1 ∨ l = 2 ∨ l = 3 ∨ l = 4 ∨ l = 5 ∨ l = 6 ∨ l = 7 := by omega
    · have e1 := lt5 x y; have e2 := lt0 (lx 5 x y) (ly 5 x y); have e3 := lt5 x y; rw [show both 5 0 = 5 from rfl]; omega
    · have e1 := lt5 x y; have e2 := lt1 (lx 5 x y) (ly 5 x y); have e3 := lt6 x y; rw [show both 5 1 = 6 from rfl]; omega
    · have e1 := lt5 x y; have e2 := lt2 (lx 5 x y) (ly 5 x y); have e3 := lt7 x y; rw [show both 5 2 = 7 from rfl]; omega
    · have e1 := lt5 x y; have e2 := lt3 (lx 5 x y) (ly 5 x y); have e3 := lt4 x y; rw [show both 5 3 = 4 from rfl]; omega
    · have e1 := lt5 x y; have e2 := lt4 (lx 5 x y) (ly 5 x y); have e3 := lt3 x y; rw [show both 5 4 = 3 from rfl]; omega
    · have e1 := lt5 x y; have e2 := lt5 (lx 5 x y) (ly 5 x y); have e3 := lt0 x y; rw [show both 5 5 = 0 from rfl]; omega
    · have e1 := lt5 x y; have e2 := lt6 (lx 5 x y) (ly 5 x y); have e3 := lt1 x y; rw [show both 5 6 = 1 from rfl]; omega
    · have e1 := lt5 x y; have e2 := lt7 (lx 5 x y) (ly 5 x y); have e3 := lt2 x y; rw [show both 5 7 = 2 from rfl]; omega
  · obtain rfl | rfl | rfl | rfl | rfl | rfl | rfl | rfl : l = 0 ∨ l = 1 ∨ l = 2 ∨ l = 3 ∨ l = 4 ∨ l = 5 ∨ l = 6 ∨ l = 7 := by omega
    · have e1 := lt6 x y; have e2 := lt0 (lx 6 x y) (ly 6 x y); have e3 := lt6 x y; rw [show both 6 0 = 6 from rfl]; omega
    · have e1 := lt6 x y; have e2 := lt1 (lx 6 x y) (ly 6 x y); have e3 := lt7 x y; rw [show both 6 1 = 7 from rfl]; omega
    · have e1 := lt6 x y; have e2 := lt2 (lx 6 x y) (ly 6 x y); have e3 := lt4 x y; rw [show both 6 2 = 4 from rfl]; omega
    · have e1 := lt6 x y; have e2 := lt3 (lx 6 x y) (ly 6 x y); have e3 := lt5 x y; rw [show both 6 3 = 5 from rfl]; omega
    · have e1 := lt6 x y; have e2 := lt4 (lx 6 x y) (ly 6 x y); have e3 := lt2 x y; rw [show both 6 4 = 2 from rfl]; omega
    · have e1 := lt6 x y; have e2 := lt5 (lx 6 x y) (ly 6 x y); have e3 := lt3 x y; rw [show both 6 5 = 3 from rfl]; omega
    · have e1 := lt6 x y; have e2 := lt6 (lx 6 x y) (ly 6 x y); have e3 := lt0 x y; rw [show both 6 6 = 0 from rfl]; omega
    · have e1 := lt6 x y; have e2 := lt7 (lx 6 x y) (ly 6 x y); have e3 := lt1 x y; rw [show both 6 7 = 1 from rfl]; omega
  · obtain rfl | rfl | rfl | rfl | rfl | rfl | rfl | rfl : l = 0 ∨ l = 1 ∨ l = 2 ∨ l = 3 ∨ l = 4 ∨ l = 5 ∨ l = 6 ∨ l = 7 := by omega
    · have e1 := lt7 x y; have e2 := lt0 (lx 7 x y) (ly 7 x y); have e3 := lt7 x y; rw [show both 7 0 = 7 from rfl]; omega
    · have e1 := lt7 x y; have e2 := lt1 (lx 7 x y) (ly 7 x y); have e3 := lt4 x y; rw [show both 7 1 = 4 from rfl]; omega
    · have e1 := lt7 x y; have e2 := lt2 (lx 7 x y) (ly 7 x y); have e3 := lt5 x y; rw [show both 7 2 = 5 from rfl]; omega
    · have e1 := lt7 x y; have e2 := lt3 (lx 7 x y) (ly 7 x y); have e3 := lt6 x y; rw [show both 7 3 = 6 from rfl]; omega
    · have e1 := lt7 x y; have e2 := lt4 (lx 7 x y) (ly 7 x y); have e3 := lt1 x y; rw [show both 7 4 = 1 from rfl]; omega
    · have e1 := lt7 x y; have e2 := lt5 (lx 7 x y) (ly 7 x y); have e3 := lt2 x y; rw [show both 7 5 = 2 from rfl]; omega
    · have e1 := lt7 x y; have e2 := lt6 (lx 7 x y) (ly 7 x y); have e3 := lt3 x y; rw [show both 7 6 = 3 from rfl]; omega
    · have e1 := lt7 x y; have e2 := lt7 (lx 7 x y) (ly 7 x y); have e3 := lt0 x y; rw [show both 7 7 = 0 from rfl]; omega

theorem l_add (k : Nat) (a b c d : Int) : lx k (a + c) (b + d) = lx k a b + lx k c d ∧ ly k (a + c) (b + d) = ly k a b + ly k c d := by
  have h : cj (fl4 k) (b + d) = cj (fl4 k) b + cj (fl4 k) d := by unfold cj; split <;> omega
  unfold lx ly
  rw [h, Int.mul_add, Int.mul_add, Int.mul_add, Int.mul_add]
  omega
theorem l_neg (k : Nat) (a b : Int) : lx k (-a) (-b) = -(lx k a b) ∧ ly k (-a) (-b) = -(ly k a b) := by
  have h : cj (fl4 k) (-b) = -(cj (fl4 k) b) := by unfold cj; split <;> omega
  unfold lx ly
  rw [h, Int.mul_neg, Int.mul_neg, Int.mul_neg, Int.mul_neg]
  omega
theorem back_both : ∀ k, k < 8 → both k (back k) = 0 ∧ both (back k) k = 0 ∧ back k < 8 := by decide
theorem back_l (k : Nat) (hk : k < 8) (x y : Int) : lx (back k) (lx k x y) (ly k x y) = x ∧ ly (back k) (lx k x y) (ly k x y) = y ∧ lx k (lx (back k) x y) (ly (back k) x y) = x ∧ ly k (lx (back k) x y) (ly (back k) x y) = y := by
  obtain ⟨h1, h2, h3⟩ := back_both k hk
  obtain ⟨a1, a2⟩ := comp k hk (back k) h3 x y
  obtain ⟨b1, b2⟩ := comp (back k) h3 k hk x y
  rw [h1] at a1 a2
  rw [h2] at b1 b2
  obtain ⟨c1, c2⟩ := l0 x y
  exact ⟨a1.trans c1, a2.trans c2, b1.trans c1, b2.trans c2⟩
/-- Both parts of a place keep within the sum of both sizes. -/
theorem l_bd (k : Nat) {x y n m : Int} (hx : -n ≤ x ∧ x ≤ n) (hy : -m ≤ y ∧ y ≤ m) : (-(n + m) ≤ lx k x y ∧ lx k x y ≤ n + m) ∧ (-(n + m) ≤ ly k x y ∧ ly k x y ≤ n + m) := by
  obtain ⟨h1, h2⟩ := l_abs k x y
  omega
end Go.Proofs.Ytmlehegahgijhaa
