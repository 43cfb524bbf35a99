/- What a place outside of the grid is, of each kind, in whole numbers; the cell of a place. -/
import Derived.Test.YtjndljjpbkfmiaaGreatDoorF4
import Derived.Test.YtjndljjpbkfmiaaGreatDoorF4a
import Derived.Test.YtjndljjpbkfmiaaGreatDoorF4b
namespace Go.Proofs.YtjndljjpbkfmiaaGreatDoor.Fd
open Go.RowKit
set_option linter.unusedVariables false
set_option linter.unusedSimpArgs false
set_option maxRecDepth 100000

theorem wi_abs {p x B : Int} (hx : 0 ≤ x ∧ x ≤ 65536) (hB : 65536 ≤ B) (h : -B ≤ p ∧ p ≤ B) : -B ≤ Fo.wi p x ∧ Fo.wi p x ≤ B := by
  obtain h1 | h1 : x = 0 ∨ 1 ≤ x := by omega
  · subst h1; rw [Fo.wi_zero]; exact h
  · have := Fo.wi_bd p h1; omega
theorem fi_bd {x : Int} (hx : 0 ≤ x ∧ x ≤ 65536) : -32768 ≤ To.fi x ∧ To.fi x ≤ 0 := by unfold To.fi; omega
theorem foldE (k x y t z u v i j : Int) (b : Bool) (p q : Int) (hp : -288230376151711744 ≤ p ∧ p ≤ 288230376151711744) (hq : -288230376151711744 ≤ q ∧ q ≤ 288230376151711744) (hx : 0 ≤ x ∧ x ≤ 65536) (hy : 0 ≤ y ∧ y ≤ 65536) (w : World) : Calls Tryz.prog 112 #[.agg #[.int .u8 k, .int .i64 x, .int .i64 y, .int .u8 t, .int .i64 z, .int .i64 (To.fi x), .int .i64 (To.fi y), .int .i64 x, .int .i64 y, .int .i64 u, .int .i64 v, .int .i64 i, .int .i64 j, .bool b], .int .i64 p, .int .i64 q] w fun e w' => e = .returned (.agg #[.int .i64 (Fo.wi p x + To.fi x), .int .i64 (Fo.wi q y + To.fi y)]) ∧ w.grownBy w' none := by
  have a1 := wi_abs hx (by omega) hp
  have a2 := wi_abs hy (by omega) hq
  have a3 := fi_bd hx
  have a4 := fi_bd hy
  exact foldedC k x y t z u v i j b p q (by omega) (by omega) (by omega) (by omega) hx hy _ _ (by rw [IntKind.wrap_i64]; omega) (by rw [IntKind.wrap_i64]; omega) w
theorem div_abs {u x : Int} (hx : 0 ≤ x) {B : Int} (hB : 0 ≤ B) (h : -B ≤ u ∧ u ≤ B) : -B ≤ Nm.divZ u x ∧ Nm.divZ u x ≤ B := Nm.divZ_bd h.1 h.2 (by omega) hB
theorem mul_abs {j z J Z : Int} (hJ : 0 ≤ J) (hZ : 0 ≤ Z) (h1 : -J ≤ j ∧ j ≤ J) (h2 : -Z ≤ z ∧ z ≤ Z) : -(J * Z) ≤ j * z ∧ j * z ≤ J * Z := by
  have h := Nat.mul_le_mul (show j.natAbs ≤ J.natAbs by omega) (show z.natAbs ≤ Z.natAbs by omega)
  rw [← Int.natAbs_mul, ← Int.natAbs_mul] at h
  have := Int.mul_nonneg hJ hZ
  omega
/-- What lies beyond a glued grid. -/
theorem beyondG (k x y t z u v : Int) (b : Bool) (ht : 0 ≤ t) (ok : Tp.Ok k x y t z) (hk : k = 2 ∨ k = 3 ∨ k = 4) (hu : -2199023255552 ≤ u ∧ u ≤ 2199023255552) (hv : -2199023255552 ≤ v ∧ v ≤ 2199023255552) (w : World) :
    Calls Tryz.prog 60 #[.agg #[.int .u8 k, .int .i64 x, .int .i64 y, .int .u8 t, .int .i64 z, .int .i64 (To.fi x), .int .i64 (To.fi y), .int .i64 x, .int .i64 y, .int .i64 u, .int .i64 v, .int .i64 (Nm.divZ u x), .int .i64 (Nm.divZ v y), .bool b]] w fun e w' => e = .returned (.tuple #[.agg #[.int .i64 (Fo.cx k x y t z u v + To.fi x), .int .i64 (Fo.cy k x y t z u v + To.fi y)], .bool true]) ∧ w.grownBy w' none := by
  have hx := ok.wide
  have hy := ok.high
  have di := div_abs hx.1 (by omega) hu
  have dj := div_abs hy.1 (by omega) hv
  have hz : -65536 ≤ z ∧ z ≤ 65536 := by
    by_cases h0 : t = 0
    · have := ok.none h0; omega
    · have := ok.near h0; unfold Tp.sd at this; split at this <;> omega
  have mj := mul_abs (by omega) (by omega) dj hz
  have mi := mul_abs (by omega) (by omega) di hz
  rcases hk with rfl | rfl | rfl
  · obtain h1 | h1 | ⟨h1, h2⟩ : t = 1 ∨ t = 2 ∨ (¬ t = 1 ∧ ¬ t = 2) := by omega
    · subst h1
      refine beyond2 x y 1 z u v _ _ b _ _ _ (torus1 2 x y z u v _ _ b (Nm.divZ v y * z) (by rw [IntKind.wrap_i64]; omega) (by omega) (by omega) (by omega) (by omega) _ _ ?_) w
      rw [Fo.cx_21, Fo.cy, Fo.cx_2 (by omega)]
      exact foldE 2 x y 1 z u v _ _ b _ _ (by omega) (by omega) hx hy
    · subst h1
      refine beyond2 x y 2 z u v _ _ b _ _ _ (torus2 2 x y z u v _ _ b (Nm.divZ u x * z) (by rw [IntKind.wrap_i64]; omega) (by omega) (by omega) (by omega) (by omega) _ _ ?_) w
      rw [Fo.cx_2 (by omega), Fo.cy, show (3 : Int) - 2 = 1 from rfl, Fo.cx_21]
      exact foldE 2 x y 2 z u v _ _ b _ _ (by omega) (by omega) hx hy
    · refine beyond2 x y t z u v _ _ b _ _ _ (torusN 2 x y t z u v _ _ b h1 h2 _ _ ?_) w
      rw [Fo.cx_2 h1, Fo.cy, Fo.cx_2 (by omega)]
      exact foldE 2 x y t z u v _ _ b _ _ (by omega) (by omega) hx hy
  · have h12 : t = 1 ∨ t = 2 := (Fo.gl_of ht ok (by omega)).klein rfl
    rcases h12 with rfl | rfl
    · cases ho : odB (Nm.divZ v y)
      · refine beyond3 x y 1 z u v _ _ b _ _ _ (klein1n 3 x y z u v _ _ b ho _ _ ?_) w
        have h3 : ¬ Nm.divZ v y % 2 = 1 := of_decide_eq_false ho
        rw [Fo.cx_31, if_neg h3, Fo.cy, Fo.cx_3 (by omega)]
        exact foldE 3 x y 1 z u v _ _ b _ _ (by omega) (by omega) hx hy
      · refine beyond3 x y 1 z u v _ _ b _ _ _ (klein1y 3 x y z u v _ _ b ho (by omega) (by omega) (by omega) (by omega) (by omega) (by omega) _ _ ?_) w
        have h3 : Nm.divZ v y % 2 = 1 := of_decide_eq_true ho
        rw [Fo.cx_31, if_pos h3, Fo.cy, Fo.cx_3 (by omega)]
        exact foldE 3 x y 1 z u v _ _ b _ _ (by omega) (by omega) hx hy
    · cases ho : odB (Nm.divZ u x)
      · refine beyond3 x y 2 z u v _ _ b _ _ _ (klein2n 3 x y z u v _ _ b ho _ _ ?_) w
        have h3 : ¬ Nm.divZ u x % 2 = 1 := of_decide_eq_false ho
        rw [Fo.cx_3 (by omega), Fo.cy, show (3 : Int) - 2 = 1 from rfl, Fo.cx_31, if_neg h3]
        exact foldE 3 x y 2 z u v _ _ b _ _ (by omega) (by omega) hx hy
      · refine beyond3 x y 2 z u v _ _ b _ _ _ (klein2y 3 x y z u v _ _ b ho (by omega) (by omega) (by omega) (by omega) (by omega) (by omega) _ _ ?_) w
        have h3 : Nm.divZ u x % 2 = 1 := of_decide_eq_true ho
        rw [Fo.cx_3 (by omega), Fo.cy, show (3 : Int) - 2 = 1 from rfl, Fo.cx_31, if_pos h3]
        exact foldE 3 x y 2 z u v _ _ b _ _ (by omega) (by omega) hx hy
  · cases hj : odB (Nm.divZ v y) <;> cases hi : odB (Nm.divZ u x)
    · have h3 : ¬ Nm.divZ v y % 2 = 1 := of_decide_eq_false hj
      have h4 : ¬ Nm.divZ u x % 2 = 1 := of_decide_eq_false hi
      refine beyond4 x y t z u v _ _ b _ _ _ (cross00 4 x y t z u v _ _ b hj hi _ _ ?_) w
      rw [Fo.cx_4, if_neg h3, Fo.cy, Fo.cx_4, if_neg h4]
      exact foldE 4 x y t z u v _ _ b _ _ (by omega) (by omega) hx hy
    · have h3 : ¬ Nm.divZ v y % 2 = 1 := of_decide_eq_false hj
      have h4 : Nm.divZ u x % 2 = 1 := of_decide_eq_true hi
      refine beyond4 x y t z u v _ _ b _ _ _ (cross01 4 x y t z u v _ _ b hj hi (by omega) (by omega) (by omega) (by omega) _ _ ?_) w
      rw [Fo.cx_4, if_neg h3, Fo.cy, Fo.cx_4, if_pos h4]
      exact foldE 4 x y t z u v _ _ b _ _ (by omega) (by omega) hx hy
    · have h3 : Nm.divZ v y % 2 = 1 := of_decide_eq_true hj
      have h4 : ¬ Nm.divZ u x % 2 = 1 := of_decide_eq_false hi
      refine beyond4 x y t z u v _ _ b _ _ _ (cross10 4 x y t z u v _ _ b hj hi (by omega) (by omega) (by omega) (by omega) _ _ ?_) w
      rw [Fo.cx_4, if_pos h3, Fo.cy, Fo.cx_4, if_neg h4]
      exact foldE 4 x y t z u v _ _ b _ _ (by omega) (by omega) hx hy
    · have h3 : Nm.divZ v y % 2 = 1 := of_decide_eq_true hj
      have h4 : Nm.divZ u x % 2 = 1 := of_decide_eq_true hi
      refine beyond4 x y t z u v _ _ b _ _ _ (cross11 4 x y t z u v _ _ b hj hi (by omega) (by omega) (by omega) (by omega) (by omega) (by omega) (by omega) (by omega) _ _ ?_) w
      rw [Fo.cx_4, if_pos h3, Fo.cy, Fo.cx_4, if_pos h4]
      exact foldE 4 x y t z u v _ _ b _ _ (by omega) (by omega) hx hy
/-- What lies beyond a sphere, and a piece of the plane. -/
theorem beyondB (x y t z u v : Int) (b : Bool) (hx : 0 ≤ x ∧ x ≤ 65536) (hy : 0 ≤ y ∧ y ≤ 65536) (hu : -2199023255552 ≤ u ∧ u ≤ 2199023255552) (hv : -2199023255552 ≤ v ∧ v ≤ 2199023255552) (w : World) :
    Calls Tryz.prog 60 #[.agg #[.int .u8 5, .int .i64 x, .int .i64 y, .int .u8 t, .int .i64 z, .int .i64 (To.fi x), .int .i64 (To.fi y), .int .i64 x, .int .i64 y, .int .i64 u, .int .i64 v, .int .i64 (Nm.divZ u x), .int .i64 (Nm.divZ v y), .bool b]] w fun e w' => e = .returned (.tuple #[.agg #[.int .i64 (Nm.nearZ v 0 (y - 1) + To.fi x), .int .i64 (Nm.nearZ u 0 (x - 1) + To.fi y)], .bool true]) ∧ w.grownBy w' none := by
  have a3 := fi_bd hx
  have a4 := fi_bd hy
  have n1 : -1 ≤ Nm.nearZ v 0 (y - 1) ∧ Nm.nearZ v 0 (y - 1) ≤ 65536 := by unfold Nm.nearZ; repeat' split
                                                                           all_goals omega
  have n2 : -1 ≤ Nm.nearZ u 0 (x - 1) ∧ Nm.nearZ u 0 (x - 1) ≤ 65536 := by unfold Nm.nearZ; repeat' split
                                                                           all_goals omega
  exact beyond5 x y t z u v _ _ b _ _ _ (sphereC 5 x y t z u v _ _ b hx hy _ _ (placeC 5 x y t z _ _ _ _ (by rw [IntKind.wrap_i64]; omega) (by rw [IntKind.wrap_i64]; omega))) w
theorem beyondP (x y t z u v : Int) (b : Bool) (w : World) :
    Calls Tryz.prog 60 #[.agg #[.int .u8 1, .int .i64 x, .int .i64 y, .int .u8 t, .int .i64 z, .int .i64 (To.fi x), .int .i64 (To.fi y), .int .i64 x, .int .i64 y, .int .i64 u, .int .i64 v, .int .i64 (Nm.divZ u x), .int .i64 (Nm.divZ v y), .bool b]] w fun e w' => e = .returned (.tuple #[.agg #[.int .i64 0, .int .i64 0], .bool false]) ∧ w.grownBy w' none :=
  beyond1 x y t z u v _ _ b _ _ _ (planeC 1 x y t z u v _ _ b) w

end Go.Proofs.YtjndljjpbkfmiaaGreatDoor.Fd
