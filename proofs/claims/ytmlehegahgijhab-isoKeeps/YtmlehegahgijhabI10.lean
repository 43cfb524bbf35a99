/- The statement IsoKeeps answers true (its walk): distances stay. -/
import Derived.Test.YtmlehegahgijhabI9
namespace Go.Proofs.Ytmlehegahgijhab
open Go.RowKit
open Fl
set_option linter.unusedVariables false
set_option linter.unusedSimpArgs false
set_option maxRecDepth 100000

theorem cj_sub (f : Bool) (y z : Int) : cj f y - cj f z = cj f (y - z) := by unfold cj; split <;> omega
theorem cj_sz (f : Bool) (y : Int) : sz (cj f y) = sz y := by unfold cj sz; split <;> first | rfl | (split <;> split <;> omega)
/-- Differences go as places go. -/
theorem l_sub (k : Nat) (a b c d : Int) : lx k a b - lx k c d = lx k (a - c) (b - d) ∧ ly k a b - ly k c d = ly k (a - c) (b - d) := by
  unfold lx ly
  rw [← cj_sub, Int.mul_sub, Int.mul_sub, Int.mul_sub, Int.mul_sub]
  omega
theorem unit_sz {u x : Int} (h : u = 1 ∨ u = -1) : sz (u * x) = sz x := by
  rcases h with rfl | rfl
  · rw [Int.one_mul]
  · rw [Int.neg_one_mul]; unfold sz; split <;> split <;> omega
theorem sz_neg (x : Int) : sz (-x) = sz x := by unfold sz; split <;> split <;> omega
/-- A linear part keeps the sizes, or exchanges them. -/
theorem l_sz (k : Nat) (x y : Int) : (sz (lx k x y) = sz x ∧ sz (ly k x y) = sz y) ∨ (sz (lx k x y) = sz y ∧ sz (ly k x y) = sz x) := by
  have hu : ((tx k = 1 ∨ tx k = -1) ∧ ty k = 0) ∨ (tx k = 0 ∧ (ty k = 1 ∨ ty k = -1)) := by
    unfold tx ty
    obtain h | h | h | h : k % 4 = 0 ∨ k % 4 = 1 ∨ k % 4 = 2 ∨ k % 4 = 3 := by omega
    all_goals simp [h]
  unfold lx ly
  rcases hu with ⟨h1, h2⟩ | ⟨h1, h2⟩
  · left
    rw [h2, Int.zero_mul, Int.zero_mul, Int.sub_zero, Int.add_zero, unit_sz h1, unit_sz h1, cj_sz]
    exact ⟨rfl, rfl⟩
  · right
    rw [h1, Int.zero_mul, Int.zero_mul, Int.zero_sub, Int.zero_add, sz_neg, unit_sz h2, unit_sz h2, cj_sz]
    exact ⟨rfl, rfl⟩
theorem sz_zero {x : Int} (h : sz x = 0) : x = 0 := by unfold sz at h; split at h <;> omega
theorem sz0 : sz 0 = 0 := rfl
/-- Unlike places come to unlike ones. -/
theorem l_inj (k : Nat) {a b c d X Y : Int} : (lx k a b + X = lx k c d + X ∧ ly k a b + Y = ly k c d + Y) ↔ (a = c ∧ b = d) := by
  constructor
  · rintro ⟨h1, h2⟩
    have e := l_sub k a b c d
    have e1 : lx k (a - c) (b - d) = 0 := by omega
    have e2 : ly k (a - c) (b - d) = 0 := by omega
    have := l_sz k (a - c) (b - d)
    rw [e1, e2, sz0] at this
    have h3 : sz (a - c) = 0 ∧ sz (b - d) = 0 := by omega
    have h4 := sz_zero h3.1
    have h5 := sz_zero h3.2
    omega
  · rintro ⟨rfl, rfl⟩
    exact ⟨rfl, rfl⟩
end Go.Proofs.Ytmlehegahgijhab
