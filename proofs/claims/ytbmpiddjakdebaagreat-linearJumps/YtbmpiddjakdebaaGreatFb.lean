/- What a place outside of the grid is, of each kind, in whole numbers; the cell of a place. -/
import Derived.Test.YtbmpiddjakdebaaGreatF4
import Derived.Test.YtbmpiddjakdebaaGreatF4a
import Derived.Test.YtbmpiddjakdebaaGreatF4b
import Derived.Test.YtbmpiddjakdebaaGreatFa
import Derived.Test.YtbmpiddjakdebaaGreatTa
namespace Go.Proofs.YtbmpiddjakdebaaGreat.Fd
open Go.RowKit
set_option linter.unusedVariables false
set_option linter.unusedSimpArgs false
set_option maxRecDepth 100000

theorem wi_abs {p x B : Int} (hx : 0 ≤ x ∧ x ≤ 65536) (hB : 65536 ≤ B) (h : -B ≤ p ∧ p ≤ B) : -B ≤ Fo.wi p x ∧ Fo.wi p x ≤ B := by
  obtain h1 | h1 : x = 0 ∨ 1 ≤ x := by omega
  · subst h1; rw [Fo.wi_zero]; exact h
  · have := Fo.wi_bd p h1; omega
theorem fi_bd {x : Int} (hx : 0 ≤ x ∧ x ≤ 65536) : -32768 ≤ To.fi x ∧ To.fi x ≤ 0 := by unfold To.fi; omega
theorem foldE (k x y t z u v i j : Int) (b : Bool) (p q : Int) (hp : -288230376151711744 ≤ p ∧ p ≤ 288230376151711744) (hq : -288230376151711744 ≤ q ∧ q ≤ 288230376151711744) (hx : 0 ≤ x ∧ x ≤ 65536) (hy : 0 ≤ y ∧ y ≤ 65536) (w : World) : Calls Tryz.prog 123 #[.agg #[.int .u8 k, .int .i64 x, .int .i64 y, .int .u8 t, .int .i64 z, .int .i64 (To.fi x), .int .i64 (To.fi y), .int .i64 x, .int .i64 y, .int .i64 u, .int .i64 v, .int .i64 i, .int .i64 j, .bool b], .int .i64 p, .int .i64 q] w fun e w' => e = .returned (.agg #[.int .i64 (Fo.wi p x + To.fi x), .int .i64 (Fo.wi q y + To.fi y)]) ∧ w.grownBy w' none := by
  have a1 := wi_abs hx (by omega) hp
  have a2 := wi_abs hy (by omega) hq
  have a3 := fi_bd hx
  have a4 := fi_bd hy
  exact foldedC k x y t z u v i j b p q (by omega) (by omega) (by omega) (by omega) hx hy _ _ (by rw [IntKind.wrap_i64]; omega) (by rw [IntKind.wrap_i64]; omega) w
theorem div_abs {u x : Int} (hx : 0 ≤ x) {B : Int} (hB : 0 ≤ B) (h : -B ≤ u ∧ u ≤ B) : -B ≤ Nm.divZ u x ∧ Nm.divZ u x ≤ B := Nm.divZ_bd h.1 h.2 (by omega) hB
theorem mul_abs {j z J Z : Int} (hJ : 0 ≤ J) (hZ : 0 ≤ Z) (h1 : -J ≤ j ∧ j ≤ J) (h2 : -Z ≤ z ∧ z ≤ Z) : -(J * Z) ≤ j * z ∧ j * z ≤ J * Z := by
  have h := Nat.mul_le_mul (show j.natAbs ≤ J.natAbs by omega) (show z.natAbs ≤ Z.natAbs by omega)
  rw [← Int.natAbs_mul, ← Int.natAbs_mul] at h
  have := Int.mul_nonneg hJ hZ
  omega
/-- What lies beyond a glued grid. -/
theorem beyondG (k x y t z u v : Int) (b : Bool) (ht : 0 ≤ t) (ok : Tp.Ok k x y t z) (hk : k = 2 ∨ k = 3 ∨ k = 4) (hu : -2199023255552 ≤ u ∧ u ≤ 2199023255552) (hv : -2199023255552 ≤ v ∧ v ≤ 2199023255552) (w : World) :
    Calls Tryz.prog 114 #[.agg #[.int .u8 k, .int .i64 x, .int .i64 y, .int .u8 t, .int .i64 z, .int .i64 (To.fi x), .int .i64 (To.fi y), .int .i64 x, .int .i64 y, .int .i64 u, .int .i64 v, .int .i64 (Nm.divZ u x), .int .i64 (Nm.divZ v y), .bool b]] w fun e w' => e = .returned (.tuple #[.agg #[.int .i64 (Fo.cx k x y t z u v + To.fi x), .int .i64 (Fo.cy k x y t z u v + To.fi y)], .bool true]) ∧ w.grownBy w' none := by
  have hx := ok.wide
  have hy := ok.high
  have di := div_abs hx.1 (by omega) hu
  have dj := div_abs hy.1 (by omega) hv
  have hz : -65536 ≤ z ∧ z ≤ 65536 := by
    by_cases h0 : t = 0
    · have := ok.none h0; omega
    · have := ok.near h0; unfold Tp.sd at this; split at this <;> omega
  have mj := mul_abs (by omega) (by omega) dj hz
  have mi := mul_abs (by omega) (by omega) di hz
  rcases hk with rfl | rfl | rfl
  · obtain h1 | h1 | ⟨h1, h2⟩ : t = 1 ∨ t = 2 ∨ (¬ t = 1 ∧ ¬ t = 2) := by omega
    · subst h1
      refine beyond2 x y 1 z u v _ _ b _ _ _ (torus1 2 x y z u v _ _ b (Nm.divZ v y * z) (by rw [IntKind.wrap_i64]; omega) (by omega) (by omega) (by omega) (by omega) _ _ ?_) w
      rw [Fo.cx_21, Fo.cy, Fo.cx_2 (by omega)]
      exact foldE 2 x y 1 z u v _ _ b _ _ (by omega) (by omega) hx hy
    · subst h1
      refine beyond2 x y 2 z u v _ _ b _ _ _ (torus2 2 x y z u v _ _ b (Nm.divZ u x * z) (by rw [IntKind.wrap_i64]; omega) (by omega) (by omega) (by omega) (by omega) _ _ ?_) w
      rw [Fo.cx_2 (by omega), Fo.cy, show (3 : Int) - 2 = 1 from rfl, Fo.cx_21]
      exact foldE 2 x y 2 z u v _ _ b _ _ (by omega) (by omega) hx hy
    · refine beyond2 x y t z u v _ _ b _ _ _ (torusN 2 x y t z u v _ _ b h1 h2 _ _ ?_) w
      rw [Fo.cx_2 h1, Fo.cy, Fo.cx_2 (by omega)]
      exact foldE 2 x y t z u v _ _ b _ _ (by omega) (by omega) hx hy
  · have h12 : t = 1 ∨ t = 2 := (Fo.gl_of ht ok (by omega)).klein rfl
    rcases h12 with rfl | rfl
    · cases ho : odB (Nm.divZ v y)
      · refine beyond3 x y 1 z u v _ _ b _ _ _ (klein1n 3 x y z u v _ _ b ho _ _ ?_) w
        have h3 : ¬ Nm.divZ v y % 2 = 1 := of_decide_eq_false ho
        rw [Fo.cx_31, if_neg h3, Fo.cy, Fo.cx_3 (by omega)]
        exact foldE 3 x y 1 z u v _ _ b _ _ (by omega) (by omega) hx hy
      · refine beyond3 x y 1 z u v _ _ b _ _ _ (klein1y 3 x y z u v _ _ b ho (by omega) (by omega) (by omega) (by omega) (by omega) (by omega) _ _ ?_) w
        have h3 : Nm.divZ v y % 2 = 1 := of_decide_eq_true ho
        rw [Fo.cx_31, if_pos h3, Fo.cy, Fo.cx_3 (by omega)]
        exact foldE 3 x y 1 z u v _ _ b _ _ (by omega) (by omega) hx hy
    · cases ho : odB (Nm.divZ u x)
      · refine beyond3 x y 2 z u v _ _ b _ _ _ (klein2n 3 x y z u v _ _ b ho _ _ ?_) w
        have h3 : ¬ Nm.divZ u x % 2 = 1 := of_decide_eq_false ho
        rw [Fo.cx_3 (by omega), Fo.cy, show (3 : Int) - 2 = 1 from rfl, Fo.cx_31, if_neg h3]
        exact foldE 3 x y 2 z u v _ _ b _ _ (by omega) (by omega) hx hy
      · refine beyond3 x y 2 z u v _ _ b _ _ _ (klein2y 3 x y z u v _ _ b ho (by omega) (by omega) (by omega) (by omega) (by omega) (by omega) _ _ ?_) w
        have h3 : Nm.divZ u x % 2 = 1 := of_decide_eq_true ho
        rw [Fo.cx_3 (by omega), Fo.cy, show (3 : Int) - 2 = 1 from rfl, Fo.cx_31, if_pos h3]
        exact foldE 3 x y 2 z u v _ _ b _ _ (by omega) (by omega) hx hy
  · cases hj : odB (Nm.divZ v y) <;> cases hi : odB (Nm.divZ u x)
    · have h3 : ¬ Nm.divZ v y % 2 = 1 := of_decide_eq_false hj
      have h4 : ¬ Nm.divZ u x % 2 = 1 := of_decide_eq_false hi
      refine beyond4 x y t z u v _ _ b _ _ _ (cross00 4 x y t z u v _ _ b hj hi _ _ ?_) w
      rw [Fo.cx_4, if_neg h3, Fo.cy, Fo.cx_4, if_neg h4]
      exact foldE 4 x y t z u v _ _ b _ _ (by omega) (by omega) hx hy
    · have h3 : ¬ Nm.divZ v y % 2 = 1 := of_decide_eq_false hj
      have h4 : Nm.divZ u x % 2 = 1 := of_decide_eq_true hi
      refine beyond4 x y t z u v _ _ b _ _ _ (cross01 4 x y t z u v _ _ b hj hi (by omega) (by omega) (by omega) (by omega) _ _ ?_) w
      rw [Fo.cx_4, if_neg h3, Fo.cy, Fo.cx_4, if_pos h4]
      exact foldE 4 x y t z u v _ _ b _ _ (by omega) (by omega) hx hy
    · have h3 : Nm.divZ v y % 2 = 1 := of_decide_eq_true hj
      have h4 : ¬ Nm.divZ u x % 2 = 1 := of_decide_eq_false hi
      refine beyond4 x y t z u v _ _ b _ _ _ (cross10 4 x y t z u v _ _ b hj hi (by omega) (by omega) (by omega) (by omega) _ _ ?_) w
      rw [Fo.cx_4, if_pos h3, Fo.cy, Fo.cx_4, if_neg h4]
      exact foldE 4 x y t z u v _ _ b _ _ (by omega) (by omega) hx hy
    · have h3 : Nm.divZ v y % 2 = 1 := of_decide_eq_true hj
      have h4 : Nm.divZ u x % 2 = 1 := of_decide_eq_true hi
      refine beyond4 x y t z u v _ _ b _ _ _ (cross11 4 x y t z u v _ _ b hj hi (by omega) (by omega) (by omega) (by omega) (by omega) (by omega) (by omega) (by omega) _ _ ?_) w
      rw [Fo.cx_4, if_pos h3, Fo.cy, Fo.cx_4, if_pos h4]
      exact foldE 4 x y t z u v _ _ b _ _ (by omega) (by omega) hx hy
/-- What lies beyond a sphere, and a piece of the plane. -/
theorem beyondB (x y t z u v : Int) (b : Bool) (hx : 0 ≤ x ∧ x ≤ 65536) (hy : 0 ≤ y ∧ y ≤ 65536) (hu : -2199023255552 ≤ u ∧ u ≤ 2199023255552) (hv : -2199023255552 ≤ v ∧ v ≤ 2199023255552) (w : World) :
    Calls Tryz.prog 114 #[.agg #[.int .u8 5, .int .i64 x, .int .i64 y, .int .u8 t, .int .i64 z, .int .i64 (To.fi x), .int .i64 (To.fi y), .int .i64 x, .int .i64 y, .int .i64 u, .int .i64 v, .int .i64 (Nm.divZ u x), .int .i64 (Nm.divZ v y), .bool b]] w fun e w' => e = .returned (.tuple #[.agg #[.int .i64 (Nm.nearZ v 0 (y - 1) + To.fi x), .int .i64 (Nm.nearZ u 0 (x - 1) + To.fi y)], .bool true]) ∧ w.grownBy w' none := by
  have a3 := fi_bd hx
  have a4 := fi_bd hy
  have n1 : -1 ≤ Nm.nearZ v 0 (y - 1) ∧ Nm.nearZ v 0 (y - 1) ≤ 65536 := by unfold Nm.nearZ; repeat' split
                                                                           all_goals omega
  have n2 : -1 ≤ Nm.nearZ u 0 (x - 1) ∧ Nm.nearZ u 0 (x - 1) ≤ 65536 := by unfold Nm.nearZ; repeat' split
                                                                           all_goals omega
  exact beyond5 x y t z u v _ _ b _ _ _ (sphereC 5 x y t z u v _ _ b hx hy _ _ (placeC 5 x y t z _ _ _ _ (by rw [IntKind.wrap_i64]; omega) (by rw [IntKind.wrap_i64]; omega))) w
theorem beyondP (x y t z u v : Int) (b : Bool) (w : World) :
    Calls Tryz.prog 114 #[.agg #[.int .u8 1, .int .i64 x, .int .i64 y, .int .u8 t, .int .i64 z, .int .i64 (To.fi x), .int .i64 (To.fi y), .int .i64 x, .int .i64 y, .int .i64 u, .int .i64 v, .int .i64 (Nm.divZ u x), .int .i64 (Nm.divZ v y), .bool b]] w fun e w' => e = .returned (.tuple #[.agg #[.int .i64 0, .int .i64 0], .bool false]) ∧ w.grownBy w' none :=
  beyond1 x y t z u v _ _ b _ _ _ (planeC 1 x y t z u v _ _ b) w

theorem scellLost (k x y t z u v i j : Int) (b : Bool) (h : loB k b = true) (w : World) : Calls Tryz.prog 103 #[.agg #[.int .u8 k, .int .i64 x, .int .i64 y, .int .u8 t, .int .i64 z, .int .i64 (To.fi x), .int .i64 (To.fi y), .int .i64 x, .int .i64 y, .int .i64 u, .int .i64 v, .int .i64 i, .int .i64 j, .bool b]] w fun e w' => e = .returned (.tuple #[.agg #[.int .i64 0, .int .i64 0], .int .i64 60]) ∧ w.grownBy w' none := by
  obtain ⟨fs, hfs⟩ := underP
  have hl := isLostC k x y t z u v i j b
  rw [h] at hl
  clear h
  obtain ⟨W1, hW1, sz1, g1, B1⟩ := boxn w #[.int .u8 k, .int .i64 x, .int .i64 y, .int .u8 t, .int .i64 z, .int .i64 (To.fi x), .int .i64 (To.fi y), .int .i64 x, .int .i64 y, .int .i64 u, .int .i64 v, .int .i64 i, .int .i64 j, .bool b] 141
  obtain ⟨W2, hW2, sz2, g2, B2⟩ := boxn W1 #[.int .i64 0, .int .i64 0] 40
  have G2 := gb_trans g1 g2
  have B1x := B1.kept g2 (by simp)
  have b1_2_0 := B1x.cell 0 (v := .int .u8 k) rfl
  have b1_2_1 := B1x.cell 1 (v := .int .i64 x) rfl
  have b1_2_2 := B1x.cell 2 (v := .int .i64 y) rfl
  have b1_2_3 := B1x.cell 3 (v := .int .u8 t) rfl
  have b1_2_4 := B1x.cell 4 (v := .int .i64 z) rfl
  have b1_2_5 := B1x.cell 5 (v := .int .i64 (To.fi x)) rfl
  have b1_2_6 := B1x.cell 6 (v := .int .i64 (To.fi y)) rfl
  have b1_2_7 := B1x.cell 7 (v := .int .i64 x) rfl
  have b1_2_8 := B1x.cell 8 (v := .int .i64 y) rfl
  have b1_2_9 := B1x.cell 9 (v := .int .i64 u) rfl
  have b1_2_10 := B1x.cell 10 (v := .int .i64 v) rfl
  have b1_2_11 := B1x.cell 11 (v := .int .i64 i) rfl
  have b1_2_12 := B1x.cell 12 (v := .int .i64 j) rfl
  have b1_2_13 := B1x.cell 13 (v := .bool b) rfl
  have b2_2_0 := B2.cell 0 (v := .int .i64 0) rfl
  have b2_2_1 := B2.cell 1 (v := .int .i64 0) rfl
  have zb2_2_0 := B2.frozen 0
  have zb2_2_1 := B2.frozen 1
  go_enter Tryz.func103, Tryz.ntmps103
  go_wp2_with (first | (go_at_call 112; (fail_if_success (guard_hyp g3)); refine (hl _).mono ?_; rintro e w3 ⟨rfl, g3⟩; have G3 := gb_trans G2 g3; have B1xx := B1x.kept g3 (by simp); have B2x := B2.kept g3 (by simp); clear b1_2_0 b1_2_1 b1_2_2 b1_2_3 b1_2_4 b1_2_5 b1_2_6 b1_2_7 b1_2_8 b1_2_9 b1_2_10 b1_2_11 b1_2_12 b1_2_13 b2_2_0 b2_2_1 zb2_2_0 zb2_2_1; have b1_3_0 := B1xx.cell 0 (v := .int .u8 k) rfl; have b1_3_1 := B1xx.cell 1 (v := .int .i64 x) rfl; have b1_3_2 := B1xx.cell 2 (v := .int .i64 y) rfl; have b1_3_3 := B1xx.cell 3 (v := .int .u8 t) rfl; have b1_3_4 := B1xx.cell 4 (v := .int .i64 z) rfl; have b1_3_5 := B1xx.cell 5 (v := .int .i64 (To.fi x)) rfl; have b1_3_6 := B1xx.cell 6 (v := .int .i64 (To.fi y)) rfl; have b1_3_7 := B1xx.cell 7 (v := .int .i64 x) rfl; have b1_3_8 := B1xx.cell 8 (v := .int .i64 y) rfl; have b1_3_9 := B1xx.cell 9 (v := .int .i64 u) rfl; have b1_3_10 := B1xx.cell 10 (v := .int .i64 v) rfl; have b1_3_11 := B1xx.cell 11 (v := .int .i64 i) rfl; have b1_3_12 := B1xx.cell 12 (v := .int .i64 j) rfl; have b1_3_13 := B1xx.cell 13 (v := .bool b) rfl; have b2_3_0 := B2x.cell 0 (v := .int .i64 0) rfl; have b2_3_1 := B2x.cell 1 (v := .int .i64 0) rfl; have zb2_3_0 := B2x.frozen 0; have zb2_3_1 := B2x.frozen 1))
  refine ret_c2 (g := W1.heap.size) (cs := #[.int .i64 0, .int .i64 0]) rfl hfs infoP rfl (bo2 B2x) rfl ⟨rfl, gb2 G3 g1.size⟩

set_option maxHeartbeats 1000000 in
theorem scellIn (k x y t z u v i j : Int) (P Q : Int) (hp : ∀ w, Calls Tryz.prog 113 #[.agg #[.int .u8 k, .int .i64 x, .int .i64 y, .int .u8 t, .int .i64 z, .int .i64 (To.fi x), .int .i64 (To.fi y), .int .i64 x, .int .i64 y], .int .i64 u, .int .i64 v] w fun e w' => e = .returned (.agg #[.int .i64 P, .int .i64 Q]) ∧ w.grownBy w' none) (w : World) : Calls Tryz.prog 103 #[.agg #[.int .u8 k, .int .i64 x, .int .i64 y, .int .u8 t, .int .i64 z, .int .i64 (To.fi x), .int .i64 (To.fi y), .int .i64 x, .int .i64 y, .int .i64 u, .int .i64 v, .int .i64 i, .int .i64 j, .bool true]] w fun e w' => e = .returned (.tuple #[.agg #[.int .i64 P, .int .i64 Q], .int .i64 0]) ∧ w.grownBy w' none := by
  obtain ⟨fs, hfs⟩ := underP
  have hl := isLostC k x y t z u v i j true
  rw [show loB k true = false from rfl] at hl
  obtain ⟨W1, hW1, sz1, g1, B1⟩ := boxn w #[.int .u8 k, .int .i64 x, .int .i64 y, .int .u8 t, .int .i64 z, .int .i64 (To.fi x), .int .i64 (To.fi y), .int .i64 x, .int .i64 y, .int .i64 u, .int .i64 v, .int .i64 i, .int .i64 j, .bool true] 141
  obtain ⟨W2, hW2, sz2, g2, B2⟩ := boxn W1 #[.int .i64 0, .int .i64 0] 40
  have G2 := gb_trans g1 g2
  have B1x := B1.kept g2 (by simp)
  have b1_2_0 := B1x.cell 0 (v := .int .u8 k) rfl
  have b1_2_1 := B1x.cell 1 (v := .int .i64 x) rfl
  have b1_2_2 := B1x.cell 2 (v := .int .i64 y) rfl
  have b1_2_3 := B1x.cell 3 (v := .int .u8 t) rfl
  have b1_2_4 := B1x.cell 4 (v := .int .i64 z) rfl
  have b1_2_5 := B1x.cell 5 (v := .int .i64 (To.fi x)) rfl
  have b1_2_6 := B1x.cell 6 (v := .int .i64 (To.fi y)) rfl
  have b1_2_7 := B1x.cell 7 (v := .int .i64 x) rfl
  have b1_2_8 := B1x.cell 8 (v := .int .i64 y) rfl
  have b1_2_9 := B1x.cell 9 (v := .int .i64 u) rfl
  have b1_2_10 := B1x.cell 10 (v := .int .i64 v) rfl
  have b1_2_11 := B1x.cell 11 (v := .int .i64 i) rfl
  have b1_2_12 := B1x.cell 12 (v := .int .i64 j) rfl
  have b1_2_13 := B1x.cell 13 (v := .bool true) rfl
  have b2_2_0 := B2.cell 0 (v := .int .i64 0) rfl
  have b2_2_1 := B2.cell 1 (v := .int .i64 0) rfl
  have zb2_2_0 := B2.frozen 0
  have zb2_2_1 := B2.frozen 1
  go_enter Tryz.func103, Tryz.ntmps103
  go_wp2_with (first | (go_at_call 112; (fail_if_success (guard_hyp g3)); refine (hl _).mono ?_; rintro e w3 ⟨rfl, g3⟩; have G3 := gb_trans G2 g3; have B1xx := B1x.kept g3 (by simp); have B2x := B2.kept g3 (by simp); clear b1_2_0 b1_2_1 b1_2_2 b1_2_3 b1_2_4 b1_2_5 b1_2_6 b1_2_7 b1_2_8 b1_2_9 b1_2_10 b1_2_11 b1_2_12 b1_2_13 b2_2_0 b2_2_1 zb2_2_0 zb2_2_1; have b1_3_0 := B1xx.cell 0 (v := .int .u8 k) rfl; have b1_3_1 := B1xx.cell 1 (v := .int .i64 x) rfl; have b1_3_2 := B1xx.cell 2 (v := .int .i64 y) rfl; have b1_3_3 := B1xx.cell 3 (v := .int .u8 t) rfl; have b1_3_4 := B1xx.cell 4 (v := .int .i64 z) rfl; have b1_3_5 := B1xx.cell 5 (v := .int .i64 (To.fi x)) rfl; have b1_3_6 := B1xx.cell 6 (v := .int .i64 (To.fi y)) rfl; have b1_3_7 := B1xx.cell 7 (v := .int .i64 x) rfl; have b1_3_8 := B1xx.cell 8 (v := .int .i64 y) rfl; have b1_3_9 := B1xx.cell 9 (v := .int .i64 u) rfl; have b1_3_10 := B1xx.cell 10 (v := .int .i64 v) rfl; have b1_3_11 := B1xx.cell 11 (v := .int .i64 i) rfl; have b1_3_12 := B1xx.cell 12 (v := .int .i64 j) rfl; have b1_3_13 := B1xx.cell 13 (v := .bool true) rfl; have b2_3_0 := B2x.cell 0 (v := .int .i64 0) rfl; have b2_3_1 := B2x.cell 1 (v := .int .i64 0) rfl; have zb2_3_0 := B2x.frozen 0; have zb2_3_1 := B2x.frozen 1) | (go_at_call 113; (fail_if_success (guard_hyp g4)); refine (hp _).mono ?_; rintro e w4 ⟨rfl, g4⟩; have G4 := gb_trans G3 g4; have B1xxx := B1xx.kept g4 (by simp); have B2xx := B2x.kept g4 (by simp); clear b1_3_0 b1_3_1 b1_3_2 b1_3_3 b1_3_4 b1_3_5 b1_3_6 b1_3_7 b1_3_8 b1_3_9 b1_3_10 b1_3_11 b1_3_12 b1_3_13 b2_3_0 b2_3_1 zb2_3_0 zb2_3_1; have b1_4_0 := B1xxx.cell 0 (v := .int .u8 k) rfl; have b1_4_1 := B1xxx.cell 1 (v := .int .i64 x) rfl; have b1_4_2 := B1xxx.cell 2 (v := .int .i64 y) rfl; have b1_4_3 := B1xxx.cell 3 (v := .int .u8 t) rfl; have b1_4_4 := B1xxx.cell 4 (v := .int .i64 z) rfl; have b1_4_5 := B1xxx.cell 5 (v := .int .i64 (To.fi x)) rfl; have b1_4_6 := B1xxx.cell 6 (v := .int .i64 (To.fi y)) rfl; have b1_4_7 := B1xxx.cell 7 (v := .int .i64 x) rfl; have b1_4_8 := B1xxx.cell 8 (v := .int .i64 y) rfl; have b1_4_9 := B1xxx.cell 9 (v := .int .i64 u) rfl; have b1_4_10 := B1xxx.cell 10 (v := .int .i64 v) rfl; have b1_4_11 := B1xxx.cell 11 (v := .int .i64 i) rfl; have b1_4_12 := B1xxx.cell 12 (v := .int .i64 j) rfl; have b1_4_13 := B1xxx.cell 13 (v := .bool true) rfl; have b2_4_0 := B2xx.cell 0 (v := .int .i64 0) rfl; have b2_4_1 := B2xx.cell 1 (v := .int .i64 0) rfl; have zb2_4_0 := B2xx.frozen 0; have zb2_4_1 := B2xx.frozen 1))
  refine ret_c2 (g := W1.heap.size) (cs := #[.int .i64 P, .int .i64 Q]) rfl hfs infoP rfl (bo2 B2xx) rfl ⟨rfl, gb2 G4 g1.size⟩

set_option maxHeartbeats 1000000 in
theorem scellOut (k x y t z u v i j : Int) (h : loB k false = false) (P Q : Int) (B : Bool) (hp : ∀ w, Calls Tryz.prog 114 #[.agg #[.int .u8 k, .int .i64 x, .int .i64 y, .int .u8 t, .int .i64 z, .int .i64 (To.fi x), .int .i64 (To.fi y), .int .i64 x, .int .i64 y, .int .i64 u, .int .i64 v, .int .i64 i, .int .i64 j, .bool false]] w fun e w' => e = .returned (.tuple #[.agg #[.int .i64 P, .int .i64 Q], .bool B]) ∧ w.grownBy w' none) (w : World) : Calls Tryz.prog 103 #[.agg #[.int .u8 k, .int .i64 x, .int .i64 y, .int .u8 t, .int .i64 z, .int .i64 (To.fi x), .int .i64 (To.fi y), .int .i64 x, .int .i64 y, .int .i64 u, .int .i64 v, .int .i64 i, .int .i64 j, .bool false]] w fun e w' => e = .returned (.tuple #[.agg #[.int .i64 P, .int .i64 Q], .int .i64 0]) ∧ w.grownBy w' none := by
  obtain ⟨fs, hfs⟩ := underP
  have hl := isLostC k x y t z u v i j false
  rw [h] at hl
  clear h
  obtain ⟨W1, hW1, sz1, g1, B1⟩ := boxn w #[.int .u8 k, .int .i64 x, .int .i64 y, .int .u8 t, .int .i64 z, .int .i64 (To.fi x), .int .i64 (To.fi y), .int .i64 x, .int .i64 y, .int .i64 u, .int .i64 v, .int .i64 i, .int .i64 j, .bool false] 141
  obtain ⟨W2, hW2, sz2, g2, B2⟩ := boxn W1 #[.int .i64 0, .int .i64 0] 40
  have G2 := gb_trans g1 g2
  have B1x := B1.kept g2 (by simp)
  have b1_2_0 := B1x.cell 0 (v := .int .u8 k) rfl
  have b1_2_1 := B1x.cell 1 (v := .int .i64 x) rfl
  have b1_2_2 := B1x.cell 2 (v := .int .i64 y) rfl
  have b1_2_3 := B1x.cell 3 (v := .int .u8 t) rfl
  have b1_2_4 := B1x.cell 4 (v := .int .i64 z) rfl
  have b1_2_5 := B1x.cell 5 (v := .int .i64 (To.fi x)) rfl
  have b1_2_6 := B1x.cell 6 (v := .int .i64 (To.fi y)) rfl
  have b1_2_7 := B1x.cell 7 (v := .int .i64 x) rfl
  have b1_2_8 := B1x.cell 8 (v := .int .i64 y) rfl
  have b1_2_9 := B1x.cell 9 (v := .int .i64 u) rfl
  have b1_2_10 := B1x.cell 10 (v := .int .i64 v) rfl
  have b1_2_11 := B1x.cell 11 (v := .int .i64 i) rfl
  have b1_2_12 := B1x.cell 12 (v := .int .i64 j) rfl
  have b1_2_13 := B1x.cell 13 (v := .bool false) rfl
  have b2_2_0 := B2.cell 0 (v := .int .i64 0) rfl
  have b2_2_1 := B2.cell 1 (v := .int .i64 0) rfl
  have zb2_2_0 := B2.frozen 0
  have zb2_2_1 := B2.frozen 1
  go_enter Tryz.func103, Tryz.ntmps103
  go_wp2_with (first | (go_at_call 112; (fail_if_success (guard_hyp g3)); refine (hl _).mono ?_; rintro e w3 ⟨rfl, g3⟩; have G3 := gb_trans G2 g3; have B1xx := B1x.kept g3 (by simp); have B2x := B2.kept g3 (by simp); clear b1_2_0 b1_2_1 b1_2_2 b1_2_3 b1_2_4 b1_2_5 b1_2_6 b1_2_7 b1_2_8 b1_2_9 b1_2_10 b1_2_11 b1_2_12 b1_2_13 b2_2_0 b2_2_1 zb2_2_0 zb2_2_1; have b1_3_0 := B1xx.cell 0 (v := .int .u8 k) rfl; have b1_3_1 := B1xx.cell 1 (v := .int .i64 x) rfl; have b1_3_2 := B1xx.cell 2 (v := .int .i64 y) rfl; have b1_3_3 := B1xx.cell 3 (v := .int .u8 t) rfl; have b1_3_4 := B1xx.cell 4 (v := .int .i64 z) rfl; have b1_3_5 := B1xx.cell 5 (v := .int .i64 (To.fi x)) rfl; have b1_3_6 := B1xx.cell 6 (v := .int .i64 (To.fi y)) rfl; have b1_3_7 := B1xx.cell 7 (v := .int .i64 x) rfl; have b1_3_8 := B1xx.cell 8 (v := .int .i64 y) rfl; have b1_3_9 := B1xx.cell 9 (v := .int .i64 u) rfl; have b1_3_10 := B1xx.cell 10 (v := .int .i64 v) rfl; have b1_3_11 := B1xx.cell 11 (v := .int .i64 i) rfl; have b1_3_12 := B1xx.cell 12 (v := .int .i64 j) rfl; have b1_3_13 := B1xx.cell 13 (v := .bool false) rfl; have b2_3_0 := B2x.cell 0 (v := .int .i64 0) rfl; have b2_3_1 := B2x.cell 1 (v := .int .i64 0) rfl; have zb2_3_0 := B2x.frozen 0; have zb2_3_1 := B2x.frozen 1) | (go_at_call 114; (fail_if_success (guard_hyp g4)); refine (hp _).mono ?_; rintro e w4 ⟨rfl, g4⟩; have G4 := gb_trans G3 g4; have B1xxx := B1xx.kept g4 (by simp); have B2xx := B2x.kept g4 (by simp); obtain ⟨W5, hW5, sz5, g5, B5⟩ := boxn w4 #[.int .i64 P, .int .i64 Q] 40; have G5 := gb_trans G4 g5; have B1xxxx := B1xxx.kept g5 (by simp); have B2xxx := B2xx.kept g5 (by simp); clear b1_3_0 b1_3_1 b1_3_2 b1_3_3 b1_3_4 b1_3_5 b1_3_6 b1_3_7 b1_3_8 b1_3_9 b1_3_10 b1_3_11 b1_3_12 b1_3_13 b2_3_0 b2_3_1 zb2_3_0 zb2_3_1; have b1_5_0 := B1xxxx.cell 0 (v := .int .u8 k) rfl; have b1_5_1 := B1xxxx.cell 1 (v := .int .i64 x) rfl; have b1_5_2 := B1xxxx.cell 2 (v := .int .i64 y) rfl; have b1_5_3 := B1xxxx.cell 3 (v := .int .u8 t) rfl; have b1_5_4 := B1xxxx.cell 4 (v := .int .i64 z) rfl; have b1_5_5 := B1xxxx.cell 5 (v := .int .i64 (To.fi x)) rfl; have b1_5_6 := B1xxxx.cell 6 (v := .int .i64 (To.fi y)) rfl; have b1_5_7 := B1xxxx.cell 7 (v := .int .i64 x) rfl; have b1_5_8 := B1xxxx.cell 8 (v := .int .i64 y) rfl; have b1_5_9 := B1xxxx.cell 9 (v := .int .i64 u) rfl; have b1_5_10 := B1xxxx.cell 10 (v := .int .i64 v) rfl; have b1_5_11 := B1xxxx.cell 11 (v := .int .i64 i) rfl; have b1_5_12 := B1xxxx.cell 12 (v := .int .i64 j) rfl; have b1_5_13 := B1xxxx.cell 13 (v := .bool false) rfl; have b2_5_0 := B2xxx.cell 0 (v := .int .i64 0) rfl; have b2_5_1 := B2xxx.cell 1 (v := .int .i64 0) rfl; have zb2_5_0 := B2xxx.frozen 0; have zb2_5_1 := B2xxx.frozen 1; have b5_5_0 := B5.cell 0 (v := .int .i64 P) rfl; have b5_5_1 := B5.cell 1 (v := .int .i64 Q) rfl))
  refine ret_c2 (g := W1.heap.size) (cs := #[.int .i64 P, .int .i64 Q]) rfl hfs infoP rfl (bo2 B2xxx) rfl ⟨rfl, gb2 G5 g1.size⟩
end Go.Proofs.YtbmpiddjakdebaaGreat.Fd
namespace Go.Proofs.YtbmpiddjakdebaaGreat.Fd
open Go.RowKit
set_option linter.unusedVariables false
set_option linter.unusedSimpArgs false
set_option maxRecDepth 100000

theorem mod_twice {a n : Int} (hn : 1 ≤ n) : (a.tmod n + n).tmod n = a % n := by
  have h1 := Int.mul_tdiv_add_tmod a n
  have h2 := Int.lt_tmod_of_pos a (show (0:Int) < n by omega)
  rw [Int.tmod_eq_emod_of_nonneg (by omega), Int.add_emod_right]
  have h3 : a = a.tmod n + n * a.tdiv n := by omega
  conv => rhs; rw [h3]
  rw [Int.add_mul_emod_self_left]
theorem mod_twice' {a n : Int} (hn : 1 ≤ n) : (a.tmod n + n) % n = a % n := by
  have h2 := Int.lt_tmod_of_pos a (show (0:Int) < n by omega)
  have := mod_twice (a := a) hn
  rw [Int.tmod_eq_emod_of_nonneg (by omega)] at this
  exact this
theorem over_is {a n : Int} (hn : 1 ≤ n) : (a - a % n).tdiv n = a / n := by
  have h1 := Int.mul_ediv_add_emod a n
  rw [show a - a % n = n * (a / n) by omega, Int.mul_tdiv_cancel_left _ (by omega)]

/-- Is it a kind that is glued? -/
def glB (k : Int) : Bool := decide (k = 2 ∨ k = 3 ∨ k = 4)

end Go.Proofs.YtbmpiddjakdebaaGreat.Fd
namespace Go.Proofs.YtbmpiddjakdebaaGreat.Fd
open Go.RowKit
set_option linter.unusedVariables false
set_option linter.unusedSimpArgs false
set_option maxRecDepth 100000

set_option maxHeartbeats 1000000 in
theorem cellX (k x y t z a b E : Int) (hE : (E == 0) = false) (hl : ∀ w, Calls Tryz.prog 102 #[.agg #[.int .u8 k, .int .i64 x, .int .i64 y, .int .u8 t, .int .i64 z], .agg #[.int .i64 a, .int .i64 b]] w fun e w' => e = .returned (.tuple #[.agg #[.int .u8 0, .int .i64 0, .int .i64 0, .int .u8 0, .int .i64 0, .int .i64 0, .int .i64 0, .int .i64 0, .int .i64 0, .int .i64 0, .int .i64 0, .int .i64 0, .int .i64 0, .bool false], .int .i64 E]) ∧ w.grownBy w' none) (w : World) : Calls Tryz.prog 88 #[.agg #[.int .u8 k, .int .i64 x, .int .i64 y, .int .u8 t, .int .i64 z], .agg #[.int .i64 a, .int .i64 b]] w fun e w' => e = .returned (.tuple #[.agg #[.int .i64 0, .int .i64 0], .int .i64 E]) ∧ w.grownBy w' none := by
  obtain ⟨fs, hfs⟩ := underP
  obtain ⟨W1, hW1, sz1, g1, B1⟩ := boxn w #[.int .u8 k, .int .i64 x, .int .i64 y, .int .u8 t, .int .i64 z] 23
  obtain ⟨W2, hW2, sz2, g2, B2⟩ := boxn W1 #[.int .i64 a, .int .i64 b] 40
  have G2 := gb_trans g1 g2
  have B1x := B1.kept g2 (by simp)
  obtain ⟨W3, hW3, sz3, g3, B3⟩ := boxn W2 #[.int .i64 0, .int .i64 0] 40
  have G3 := gb_trans G2 g3
  have B1xx := B1x.kept g3 (by simp)
  have B2x := B2.kept g3 (by simp)
  have b1_3_0 := B1xx.cell 0 (v := .int .u8 k) rfl
  have b1_3_1 := B1xx.cell 1 (v := .int .i64 x) rfl
  have b1_3_2 := B1xx.cell 2 (v := .int .i64 y) rfl
  have b1_3_3 := B1xx.cell 3 (v := .int .u8 t) rfl
  have b1_3_4 := B1xx.cell 4 (v := .int .i64 z) rfl
  have b2_3_0 := B2x.cell 0 (v := .int .i64 a) rfl
  have b2_3_1 := B2x.cell 1 (v := .int .i64 b) rfl
  have b3_3_0 := B3.cell 0 (v := .int .i64 0) rfl
  have b3_3_1 := B3.cell 1 (v := .int .i64 0) rfl
  have zb3_3_0 := B3.frozen 0
  have zb3_3_1 := B3.frozen 1
  go_enter Tryz.func88, Tryz.ntmps88
  go_wp2_with (first | (go_at_call 102; (fail_if_success (guard_hyp g4)); refine (hl _).mono ?_; rintro e w4 ⟨rfl, g4⟩; have G4 := gb_trans G3 g4; have B1xxx := B1xx.kept g4 (by simp); have B2xx := B2x.kept g4 (by simp); have B3x := B3.kept g4 (by simp); obtain ⟨W5, hW5, sz5, g5, B5⟩ := boxn w4 #[.int .u8 0, .int .i64 0, .int .i64 0, .int .u8 0, .int .i64 0, .int .i64 0, .int .i64 0, .int .i64 0, .int .i64 0, .int .i64 0, .int .i64 0, .int .i64 0, .int .i64 0, .bool false] 141; have G5 := gb_trans G4 g5; have B1xxxx := B1xxx.kept g5 (by simp); have B2xxx := B2xx.kept g5 (by simp); have B3xx := B3x.kept g5 (by simp); have sm5_0 := Bo.same B5 0 (v := .int .u8 0) rfl; have sm5_1 := Bo.same B5 1 (v := .int .i64 0) rfl; have sm5_2 := Bo.same B5 2 (v := .int .i64 0) rfl; have sm5_3 := Bo.same B5 3 (v := .int .u8 0) rfl; have sm5_4 := Bo.same B5 4 (v := .int .i64 0) rfl; have sm5_5 := Bo.same B5 5 (v := .int .i64 0) rfl; have sm5_6 := Bo.same B5 6 (v := .int .i64 0) rfl; have sm5_7 := Bo.same B5 7 (v := .int .i64 0) rfl; have sm5_8 := Bo.same B5 8 (v := .int .i64 0) rfl; have sm5_9 := Bo.same B5 9 (v := .int .i64 0) rfl; have sm5_10 := Bo.same B5 10 (v := .int .i64 0) rfl; have sm5_11 := Bo.same B5 11 (v := .int .i64 0) rfl; have sm5_12 := Bo.same B5 12 (v := .int .i64 0) rfl; have sm5_13 := Bo.same B5 13 (v := .bool false) rfl; have fz5_0 := B5.frozen 0; have fz5_1 := B5.frozen 1; have fz5_2 := B5.frozen 2; have fz5_3 := B5.frozen 3; have fz5_4 := B5.frozen 4; have fz5_5 := B5.frozen 5; have fz5_6 := B5.frozen 6; have fz5_7 := B5.frozen 7; have fz5_8 := B5.frozen 8; have fz5_9 := B5.frozen 9; have fz5_10 := B5.frozen 10; have fz5_11 := B5.frozen 11; have fz5_12 := B5.frozen 12; have fz5_13 := B5.frozen 13; clear b1_3_0 b1_3_1 b1_3_2 b1_3_3 b1_3_4 b2_3_0 b2_3_1 b3_3_0 b3_3_1 zb3_3_0 zb3_3_1; have b1_5_0 := B1xxxx.cell 0 (v := .int .u8 k) rfl; have b1_5_1 := B1xxxx.cell 1 (v := .int .i64 x) rfl; have b1_5_2 := B1xxxx.cell 2 (v := .int .i64 y) rfl; have b1_5_3 := B1xxxx.cell 3 (v := .int .u8 t) rfl; have b1_5_4 := B1xxxx.cell 4 (v := .int .i64 z) rfl; have b2_5_0 := B2xxx.cell 0 (v := .int .i64 a) rfl; have b2_5_1 := B2xxx.cell 1 (v := .int .i64 b) rfl; have b3_5_0 := B3xx.cell 0 (v := .int .i64 0) rfl; have b3_5_1 := B3xx.cell 1 (v := .int .i64 0) rfl; have zb3_5_0 := B3xx.frozen 0; have zb3_5_1 := B3xx.frozen 1; have b5_5_0 := B5.cell 0 (v := .int .u8 0) rfl; have b5_5_1 := B5.cell 1 (v := .int .i64 0) rfl; have b5_5_2 := B5.cell 2 (v := .int .i64 0) rfl; have b5_5_3 := B5.cell 3 (v := .int .u8 0) rfl; have b5_5_4 := B5.cell 4 (v := .int .i64 0) rfl; have b5_5_5 := B5.cell 5 (v := .int .i64 0) rfl; have b5_5_6 := B5.cell 6 (v := .int .i64 0) rfl; have b5_5_7 := B5.cell 7 (v := .int .i64 0) rfl; have b5_5_8 := B5.cell 8 (v := .int .i64 0) rfl; have b5_5_9 := B5.cell 9 (v := .int .i64 0) rfl; have b5_5_10 := B5.cell 10 (v := .int .i64 0) rfl; have b5_5_11 := B5.cell 11 (v := .int .i64 0) rfl; have b5_5_12 := B5.cell 12 (v := .int .i64 0) rfl; have b5_5_13 := B5.cell 13 (v := .bool false) rfl))
  refine ret_c2 (g := W2.heap.size) (cs := #[.int .i64 0, .int .i64 0]) rfl hfs infoP rfl (bo2 B3xx) rfl ⟨rfl, gb2 G5 G2.size⟩

set_option maxHeartbeats 1000000 in
theorem cellY (k x y t z a b : Int) (u v i j : Int) (ib : Bool) (hl : ∀ w, Calls Tryz.prog 102 #[.agg #[.int .u8 k, .int .i64 x, .int .i64 y, .int .u8 t, .int .i64 z], .agg #[.int .i64 a, .int .i64 b]] w fun e w' => e = .returned (.tuple #[.agg #[.int .u8 k, .int .i64 x, .int .i64 y, .int .u8 t, .int .i64 z, .int .i64 (To.fi x), .int .i64 (To.fi y), .int .i64 x, .int .i64 y, .int .i64 u, .int .i64 v, .int .i64 i, .int .i64 j, .bool ib], .int .i64 0]) ∧ w.grownBy w' none) (P Q er : Int) (hc : ∀ w, Calls Tryz.prog 103 #[.agg #[.int .u8 k, .int .i64 x, .int .i64 y, .int .u8 t, .int .i64 z, .int .i64 (To.fi x), .int .i64 (To.fi y), .int .i64 x, .int .i64 y, .int .i64 u, .int .i64 v, .int .i64 i, .int .i64 j, .bool ib]] w fun e w' => e = .returned (.tuple #[.agg #[.int .i64 P, .int .i64 Q], .int .i64 er]) ∧ w.grownBy w' none) (w : World) : Calls Tryz.prog 88 #[.agg #[.int .u8 k, .int .i64 x, .int .i64 y, .int .u8 t, .int .i64 z], .agg #[.int .i64 a, .int .i64 b]] w fun e w' => e = .returned (.tuple #[.agg #[.int .i64 P, .int .i64 Q], .int .i64 er]) ∧ w.grownBy w' none := by
  obtain ⟨fs, hfs⟩ := underP
  obtain ⟨W1, hW1, sz1, g1, B1⟩ := boxn w #[.int .u8 k, .int .i64 x, .int .i64 y, .int .u8 t, .int .i64 z] 23
  obtain ⟨W2, hW2, sz2, g2, B2⟩ := boxn W1 #[.int .i64 a, .int .i64 b] 40
  have G2 := gb_trans g1 g2
  have B1x := B1.kept g2 (by simp)
  obtain ⟨W3, hW3, sz3, g3, B3⟩ := boxn W2 #[.int .i64 0, .int .i64 0] 40
  have G3 := gb_trans G2 g3
  have B1xx := B1x.kept g3 (by simp)
  have B2x := B2.kept g3 (by simp)
  have b1_3_0 := B1xx.cell 0 (v := .int .u8 k) rfl
  have b1_3_1 := B1xx.cell 1 (v := .int .i64 x) rfl
  have b1_3_2 := B1xx.cell 2 (v := .int .i64 y) rfl
  have b1_3_3 := B1xx.cell 3 (v := .int .u8 t) rfl
  have b1_3_4 := B1xx.cell 4 (v := .int .i64 z) rfl
  have b2_3_0 := B2x.cell 0 (v := .int .i64 a) rfl
  have b2_3_1 := B2x.cell 1 (v := .int .i64 b) rfl
  have b3_3_0 := B3.cell 0 (v := .int .i64 0) rfl
  have b3_3_1 := B3.cell 1 (v := .int .i64 0) rfl
  have zb3_3_0 := B3.frozen 0
  have zb3_3_1 := B3.frozen 1
  go_enter Tryz.func88, Tryz.ntmps88
  go_wp2_with (first | (go_at_call 102; (fail_if_success (guard_hyp g4)); refine (hl _).mono ?_; rintro e w4 ⟨rfl, g4⟩; have G4 := gb_trans G3 g4; have B1xxx := B1xx.kept g4 (by simp); have B2xx := B2x.kept g4 (by simp); have B3x := B3.kept g4 (by simp); obtain ⟨W5, hW5, sz5, g5, B5⟩ := boxn w4 #[.int .u8 k, .int .i64 x, .int .i64 y, .int .u8 t, .int .i64 z, .int .i64 (To.fi x), .int .i64 (To.fi y), .int .i64 x, .int .i64 y, .int .i64 u, .int .i64 v, .int .i64 i, .int .i64 j, .bool ib] 141; have G5 := gb_trans G4 g5; have B1xxxx := B1xxx.kept g5 (by simp); have B2xxx := B2xx.kept g5 (by simp); have B3xx := B3x.kept g5 (by simp); clear b1_3_0 b1_3_1 b1_3_2 b1_3_3 b1_3_4 b2_3_0 b2_3_1 b3_3_0 b3_3_1 zb3_3_0 zb3_3_1; have b1_5_0 := B1xxxx.cell 0 (v := .int .u8 k) rfl; have b1_5_1 := B1xxxx.cell 1 (v := .int .i64 x) rfl; have b1_5_2 := B1xxxx.cell 2 (v := .int .i64 y) rfl; have b1_5_3 := B1xxxx.cell 3 (v := .int .u8 t) rfl; have b1_5_4 := B1xxxx.cell 4 (v := .int .i64 z) rfl; have b2_5_0 := B2xxx.cell 0 (v := .int .i64 a) rfl; have b2_5_1 := B2xxx.cell 1 (v := .int .i64 b) rfl; have b3_5_0 := B3xx.cell 0 (v := .int .i64 0) rfl; have b3_5_1 := B3xx.cell 1 (v := .int .i64 0) rfl; have zb3_5_0 := B3xx.frozen 0; have zb3_5_1 := B3xx.frozen 1; have b5_5_0 := B5.cell 0 (v := .int .u8 k) rfl; have b5_5_1 := B5.cell 1 (v := .int .i64 x) rfl; have b5_5_2 := B5.cell 2 (v := .int .i64 y) rfl; have b5_5_3 := B5.cell 3 (v := .int .u8 t) rfl; have b5_5_4 := B5.cell 4 (v := .int .i64 z) rfl; have b5_5_5 := B5.cell 5 (v := .int .i64 (To.fi x)) rfl; have b5_5_6 := B5.cell 6 (v := .int .i64 (To.fi y)) rfl; have b5_5_7 := B5.cell 7 (v := .int .i64 x) rfl; have b5_5_8 := B5.cell 8 (v := .int .i64 y) rfl; have b5_5_9 := B5.cell 9 (v := .int .i64 u) rfl; have b5_5_10 := B5.cell 10 (v := .int .i64 v) rfl; have b5_5_11 := B5.cell 11 (v := .int .i64 i) rfl; have b5_5_12 := B5.cell 12 (v := .int .i64 j) rfl; have b5_5_13 := B5.cell 13 (v := .bool ib) rfl) | (go_at_call 103; (fail_if_success (guard_hyp g6)); refine (hc _).mono ?_; rintro e w6 ⟨rfl, g6⟩; have G6 := gb_trans G5 g6; have B1xxxxx := B1xxxx.kept g6 (by simp); have B2xxxx := B2xxx.kept g6 (by simp); have B3xxx := B3xx.kept g6 (by simp); have B5x := B5.kept g6 (by simp); clear b1_5_0 b1_5_1 b1_5_2 b1_5_3 b1_5_4 b2_5_0 b2_5_1 b3_5_0 b3_5_1 zb3_5_0 zb3_5_1 b5_5_0 b5_5_1 b5_5_2 b5_5_3 b5_5_4 b5_5_5 b5_5_6 b5_5_7 b5_5_8 b5_5_9 b5_5_10 b5_5_11 b5_5_12 b5_5_13; have b1_6_0 := B1xxxxx.cell 0 (v := .int .u8 k) rfl; have b1_6_1 := B1xxxxx.cell 1 (v := .int .i64 x) rfl; have b1_6_2 := B1xxxxx.cell 2 (v := .int .i64 y) rfl; have b1_6_3 := B1xxxxx.cell 3 (v := .int .u8 t) rfl; have b1_6_4 := B1xxxxx.cell 4 (v := .int .i64 z) rfl; have b2_6_0 := B2xxxx.cell 0 (v := .int .i64 a) rfl; have b2_6_1 := B2xxxx.cell 1 (v := .int .i64 b) rfl; have b3_6_0 := B3xxx.cell 0 (v := .int .i64 0) rfl; have b3_6_1 := B3xxx.cell 1 (v := .int .i64 0) rfl; have zb3_6_0 := B3xxx.frozen 0; have zb3_6_1 := B3xxx.frozen 1; have b5_6_0 := B5x.cell 0 (v := .int .u8 k) rfl; have b5_6_1 := B5x.cell 1 (v := .int .i64 x) rfl; have b5_6_2 := B5x.cell 2 (v := .int .i64 y) rfl; have b5_6_3 := B5x.cell 3 (v := .int .u8 t) rfl; have b5_6_4 := B5x.cell 4 (v := .int .i64 z) rfl; have b5_6_5 := B5x.cell 5 (v := .int .i64 (To.fi x)) rfl; have b5_6_6 := B5x.cell 6 (v := .int .i64 (To.fi y)) rfl; have b5_6_7 := B5x.cell 7 (v := .int .i64 x) rfl; have b5_6_8 := B5x.cell 8 (v := .int .i64 y) rfl; have b5_6_9 := B5x.cell 9 (v := .int .i64 u) rfl; have b5_6_10 := B5x.cell 10 (v := .int .i64 v) rfl; have b5_6_11 := B5x.cell 11 (v := .int .i64 i) rfl; have b5_6_12 := B5x.cell 12 (v := .int .i64 j) rfl; have b5_6_13 := B5x.cell 13 (v := .bool ib) rfl))
  refine ret_c2 (g := W2.heap.size) (cs := #[.int .i64 P, .int .i64 Q]) rfl hfs infoP rfl (bo2 B3xxx) rfl ⟨rfl, gb2 G6 G2.size⟩
end Go.Proofs.YtbmpiddjakdebaaGreat.Fd
namespace Go.Proofs.YtbmpiddjakdebaaGreat.Fd
open Go.RowKit
set_option linter.unusedVariables false
set_option linter.unusedSimpArgs false
set_option maxRecDepth 100000

/-- Is a place one of the grid? -/
def giB (x y a b : Int) : Bool := To.liB a x && To.liB b y
/-- What Cell answers: the error, and the place. -/
def ceE (k x y t z a b : Int) : Int := if Tp.chk k x y t z = 0 then (if (To.frB a || To.frB b) = true then 5 else if glB k = false ∧ giB x y a b = false then 60 else 0) else 9
def ceX (k x y t z a b : Int) : Int := if glB k then Fo.cx k x y t z (a - To.fi x) (b - To.fi y) + To.fi x else a
def ceY (k x y t z a b : Int) : Int := if glB k then Fo.cy k x y t z (a - To.fi x) (b - To.fi y) + To.fi y else b
def ceV (k x y t z a b : Int) : Array Value := if ceE k x y t z a b = 0 then #[.int .i64 (ceX k x y t z a b), .int .i64 (ceY k x y t z a b)] else #[.int .i64 0, .int .i64 0]
theorem li_iff {n l : Int} : To.liB n l = true ↔ l = 0 ∨ (0 ≤ n - To.fi l ∧ n - To.fi l < l) := by
  unfold To.liB
  simp only [Bool.or_eq_true, Bool.and_eq_true, decide_eq_true_eq]
  omega
theorem gl_iff {k : Int} : glB k = true ↔ k = 2 ∨ k = 3 ∨ k = 4 := by unfold glB; exact decide_eq_true_iff
theorem fr_bd {a : Int} (h : To.frB a = false) : -1099511627776 ≤ a ∧ a ≤ 1099511627776 := by unfold To.frB at h; simp at h; omega
theorem ce_zero {k x y t z a b : Int} (h : ceE k x y t z a b ≠ 0) : ceV k x y t z a b = #[.int .i64 0, .int .i64 0] := if_neg h
theorem ce_yes {k x y t z a b : Int} (h : ceE k x y t z a b = 0) : ceV k x y t z a b = #[.int .i64 (ceX k x y t z a b), .int .i64 (ceY k x y t z a b)] := if_pos h
/-- The cell of a place that is not far, of a topology that may be. -/
theorem scellC (k x y t z a b : Int) (ht : 0 ≤ t) (h : Tp.chk k x y t z = 0) (h1 : To.frB a = false) (h2 : To.frB b = false) (w : World) :
    Calls Tryz.prog 103 #[.agg #[.int .u8 k, .int .i64 x, .int .i64 y, .int .u8 t, .int .i64 z, .int .i64 (To.fi x), .int .i64 (To.fi y), .int .i64 x, .int .i64 y, .int .i64 (a - To.fi x), .int .i64 (b - To.fi y), .int .i64 (Nm.divZ (a - To.fi x) x), .int .i64 (Nm.divZ (b - To.fi y) y), .bool (giB x y a b)]] w fun e w' => e = .returned (.tuple #[.agg (ceV k x y t z a b), .int .i64 (ceE k x y t z a b)]) ∧ w.grownBy w' none := by
  have ok := Tp.ok_of h
  have hx := ok.wide
  have hy := ok.high
  have bx := fi_bd hx
  have by' := fi_bd hy
  have ba := fr_bd h1
  have bb := fr_bd h2
  have hkk := ok.kind
  have e0 : ceE k x y t z a b = if glB k = false ∧ giB x y a b = false then 60 else 0 := by unfold ceE; rw [if_pos h, if_neg (by rw [h1, h2]; decide)]
  cases hi : giB x y a b
  · rw [hi] at e0
    cases hg : glB k
    · rw [hg, if_pos ⟨rfl, rfl⟩] at e0
      rw [ce_zero (by rw [e0]; decide), e0]
      refine scellLost k x y t z _ _ _ _ false ?_ w
      have : ¬ (k = 2 ∨ k = 3 ∨ k = 4) := fun q => by rw [gl_iff.2 q] at hg; exact absurd hg (by decide)
      obtain rfl | rfl : k = 1 ∨ k = 5 := by omega
      · rfl
      · rfl
    · have hk := gl_iff.1 hg
      rw [hg, if_neg (fun q => absurd q.1 (by decide))] at e0
      rw [ce_yes e0, e0]
      unfold ceX ceY
      rw [hg, if_pos rfl, if_pos rfl]
      refine scellOut k x y t z _ _ _ _ ?_ _ _ true (beyondG k x y t z _ _ false ht ok hk (by omega) (by omega)) w
      rcases hk with rfl | rfl | rfl <;> rfl
  · rw [hi, if_neg (fun q => absurd q.2 (by decide))] at e0
    rw [ce_yes e0, e0]
    have hi' := Bool.and_eq_true_iff.1 hi
    have hp := scellIn k x y t z (a - To.fi x) (b - To.fi y) (Nm.divZ (a - To.fi x) x) (Nm.divZ (b - To.fi y) y) a b (placeC k x y t z _ _ _ _ (by rw [IntKind.wrap_i64]; omega) (by rw [IntKind.wrap_i64]; omega)) w
    have eX : ceX k x y t z a b = a := by
      unfold ceX
      split
      · rw [Fo.cx_in k t z (li_iff.1 hi'.1) (li_iff.1 hi'.2)]; omega
      · rfl
    have eY : ceY k x y t z a b = b := by
      unfold ceY
      split
      · rw [Fo.cy_in k t z (li_iff.1 hi'.1) (li_iff.1 hi'.2)]; omega
      · rfl
    rw [eX, eY]
    exact hp
theorem lookE (k x y t z a b : Int) (ht : 0 ≤ t) (h : Tp.chk k x y t z = 0) (h1 : To.frB a = false) (h2 : To.frB b = false) (w : World) :
    Calls Tryz.prog 102 #[.agg #[.int .u8 k, .int .i64 x, .int .i64 y, .int .u8 t, .int .i64 z], .agg #[.int .i64 a, .int .i64 b]] w fun e w' => e = .returned (.tuple #[.agg #[.int .u8 k, .int .i64 x, .int .i64 y, .int .u8 t, .int .i64 z, .int .i64 (To.fi x), .int .i64 (To.fi y), .int .i64 x, .int .i64 y, .int .i64 (a - To.fi x), .int .i64 (b - To.fi y), .int .i64 (Nm.divZ (a - To.fi x) x), .int .i64 (Nm.divZ (b - To.fi y) y), .bool (giB x y a b)], .int .i64 0]) ∧ w.grownBy w' none := lookYes k x y t z a b ht h h1 h2 _ _ rfl rfl w
theorem lookF (k x y t z a b : Int) (ht : 0 ≤ t) (h : Tp.chk k x y t z = 0) (h1 : (To.frB a || To.frB b) = true) (w : World) :
    Calls Tryz.prog 102 #[.agg #[.int .u8 k, .int .i64 x, .int .i64 y, .int .u8 t, .int .i64 z], .agg #[.int .i64 a, .int .i64 b]] w fun e w' => e = .returned (.tuple #[.agg #[.int .u8 0, .int .i64 0, .int .i64 0, .int .u8 0, .int .i64 0, .int .i64 0, .int .i64 0, .int .i64 0, .int .i64 0, .int .i64 0, .int .i64 0, .int .i64 0, .int .i64 0, .bool false], .int .i64 5]) ∧ w.grownBy w' none := lookFar k x y t z a b ht h h1 w
theorem cellC (k x y t z a b : Int) (ht : 0 ≤ t) (w : World) : Calls Tryz.prog 88 #[.agg #[.int .u8 k, .int .i64 x, .int .i64 y, .int .u8 t, .int .i64 z], .agg #[.int .i64 a, .int .i64 b]] w fun e w' => e = .returned (.tuple #[.agg (ceV k x y t z a b), .int .i64 (ceE k x y t z a b)]) ∧ w.grownBy w' none := by
  by_cases h : Tp.chk k x y t z = 0
  · cases hf : (To.frB a || To.frB b)
    · have h1 := Bool.or_eq_false_iff.1 hf
      have hs := scellC k x y t z a b ht h h1.1 h1.2
      by_cases he : ceE k x y t z a b = 0
      · rw [ce_yes he] at hs ⊢
        exact cellY k x y t z a b _ _ _ _ _ (lookE k x y t z a b ht h h1.1 h1.2) _ _ _ hs w
      · rw [ce_zero he] at hs ⊢
        exact cellY k x y t z a b _ _ _ _ _ (lookE k x y t z a b ht h h1.1 h1.2) _ _ _ hs w
    · have e1 : ceE k x y t z a b = 5 := by unfold ceE; rw [if_pos h, if_pos hf]
      rw [ce_zero (by rw [e1]; decide), e1]
      exact cellX k x y t z a b 5 rfl (lookF k x y t z a b ht h hf) w
  · have e1 : ceE k x y t z a b = 9 := by unfold ceE; rw [if_neg h]
    rw [ce_zero (by rw [e1]; decide), e1]
    exact cellX k x y t z a b 9 rfl (lookNo k x y t z a b ht h) w
/-- What Same answers: the error, and whether. -/
def saE (k x y t z a b a2 b2 : Int) : Int := if Tp.chk k x y t z = 0 then (if (To.frB a || To.frB b) = true then 5 else if (To.frB a2 || To.frB b2) = true then 5 else if ceE k x y t z a b = 0 then ceE k x y t z a2 b2 else ceE k x y t z a b) else 9
def saB (k x y t z a b a2 b2 : Int) : Bool := decide (saE k x y t z a b a2 b2 = 0) && (decide (ceX k x y t z a b = ceX k x y t z a2 b2) && decide (ceY k x y t z a b = ceY k x y t z a2 b2))
/-- What Ring answers: the error, whether it is a cell, the place. -/
def riN (x y a b : Int) : Bool := toB (a - To.fi x) x && toB (b - To.fi y) y
def riE (k x y t z a b : Int) : Int := if Tp.chk k x y t z = 0 then (if (To.frB a || To.frB b) = true then 5 else if giB x y a b = true then 0 else if riN x y a b = true then 0 else 60) else 9
def riB (k x y t z a b : Int) : Bool := decide (riE k x y t z a b = 0) && (giB x y a b || decide (k ≠ 1))
def riX (k x y t z a b : Int) : Int := if giB x y a b then a else if k = 5 then Nm.nearZ (b - To.fi y) 0 (y - 1) + To.fi x else Fo.cx k x y t z (a - To.fi x) (b - To.fi y) + To.fi x
def riY (k x y t z a b : Int) : Int := if giB x y a b then b else if k = 5 then Nm.nearZ (a - To.fi x) 0 (x - 1) + To.fi y else Fo.cy k x y t z (a - To.fi x) (b - To.fi y) + To.fi y
def riV (k x y t z a b : Int) : Array Value := if riB k x y t z a b then #[.int .i64 (riX k x y t z a b), .int .i64 (riY k x y t z a b)] else #[.int .i64 0, .int .i64 0]
theorem riV_no {k x y t z a b : Int} (h : riB k x y t z a b = false) : riV k x y t z a b = #[.int .i64 0, .int .i64 0] := by unfold riV; rw [h]; rfl
theorem riV_yes {k x y t z a b : Int} (h : riB k x y t z a b = true) : riV k x y t z a b = #[.int .i64 (riX k x y t z a b), .int .i64 (riY k x y t z a b)] := by unfold riV; rw [h]; rfl
end Go.Proofs.YtbmpiddjakdebaaGreat.Fd
