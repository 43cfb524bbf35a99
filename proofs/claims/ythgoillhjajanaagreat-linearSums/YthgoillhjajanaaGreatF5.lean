/- What a place outside of the grid is, of each kind, in whole numbers; the cell of a place. -/
import Derived.Test.YthgoillhjajanaaGreatF4
import Derived.Test.YthgoillhjajanaaGreatF4a
import Derived.Test.YthgoillhjajanaaGreatF4b
namespace Go.Proofs.YthgoillhjajanaaGreat.Fd
open Go.RowKit
set_option linter.unusedVariables false
set_option linter.unusedSimpArgs false
set_option maxRecDepth 100000

theorem wi_abs {p x B : Int} (hx : 0 ≤ x ∧ x ≤ 65536) (hB : 65536 ≤ B) (h : -B ≤ p ∧ p ≤ B) : -B ≤ Fo.wi p x ∧ Fo.wi p x ≤ B := by
  obtain h1 | h1 : x = 0 ∨ 1 ≤ x := by omega
  · subst h1; rw [Fo.wi_zero]; exact h
  · have := Fo.wi_bd p h1; omega
theorem fi_bd {x : Int} (hx : 0 ≤ x ∧ x ≤ 65536) : -32768 ≤ To.fi x ∧ To.fi x ≤ 0 := by unfold To.fi; omega
theorem foldE (k x y t z u v i j : Int) (b : Bool) (p q : Int) (hp : -288230376151711744 ≤ p ∧ p ≤ 288230376151711744) (hq : -288230376151711744 ≤ q ∧ q ≤ 288230376151711744) (hx : 0 ≤ x ∧ x ≤ 65536) (hy : 0 ≤ y ∧ y ≤ 65536) (w : World) : Calls Tryz.prog 111 #[.agg #[.int .u8 k, .int .i64 x, .int .i64 y, .int .u8 t, .int .i64 z, .int .i64 (To.fi x), .int .i64 (To.fi y), .int .i64 x, .int .i64 y, .int .i64 u, .int .i64 v, .int .i64 i, .int .i64 j, .bool b], .int .i64 p, .int .i64 q] w fun e w' => e = .returned (.agg #[.int .i64 (Fo.wi p x + To.fi x), .int .i64 (Fo.wi q y + To.fi y)]) ∧ w.grownBy w' none := by
  have a1 := wi_abs hx (by omega) hp
  have a2 := wi_abs hy (by omega) hq
  have a3 := fi_bd hx
  have a4 := fi_bd hy
  exact foldedC k x y t z u v i j b p q (by omega) (by omega) (by omega) (by omega) hx hy _ _ (by rw [IntKind.wrap_i64]; omega) (by rw [IntKind.wrap_i64]; omega) w
theorem div_abs {u x : Int} (hx : 0 ≤ x) {B : Int} (hB : 0 ≤ B) (h : -B ≤ u ∧ u ≤ B) : -B ≤ Nm.divZ u x ∧ Nm.divZ u x ≤ B := Nm.divZ_bd h.1 h.2 (by omega) hB
theorem mul_abs {j z J Z : Int} (hJ : 0 ≤ J) (hZ : 0 ≤ Z) (h1 : -J ≤ j ∧ j ≤ J) (h2 : -Z ≤ z ∧ z ≤ Z) : -(J * Z) ≤ j * z ∧ j * z ≤ J * Z := by
  have h := Nat.mul_le_mul (show j.natAbs ≤ J.natAbs by omega) (show z.natAbs ≤ Z.natAbs by omega)
  rw [← Int.natAbs_mul, ← Int.natAbs_mul] at h
  have := Int.mul_nonneg hJ hZ
  omega
/-- What lies beyond a glued grid. -/
theorem beyondG (k x y t z u v : Int) (b : Bool) (ht : 0 ≤ t) (ok : Tp.Ok k x y t z) (hk : k = 2 ∨ k = 3 ∨ k = 4) (hu : -2199023255552 ≤ u ∧ u ≤ 2199023255552) (hv : -2199023255552 ≤ v ∧ v ≤ 2199023255552) (w : World) :
    Calls Tryz.prog 102 #[.agg #[.int .u8 k, .int .i64 x, .int .i64 y, .int .u8 t, .int .i64 z, .int .i64 (To.fi x), .int .i64 (To.fi y), .int .i64 x, .int .i64 y, .int .i64 u, .int .i64 v, .int .i64 (Nm.divZ u x), .int .i64 (Nm.divZ v y), .bool b]] w fun e w' => e = .returned (.tuple #[.agg #[.int .i64 (Fo.cx k x y t z u v + To.fi x), .int .i64 (Fo.cy k x y t z u v + To.fi y)], .bool true]) ∧ w.grownBy w' none := by
  have hx := ok.wide
  have hy := ok.high
  have di := div_abs hx.1 (by omega) hu
  have dj := div_abs hy.1 (by omega) hv
  have hz : -65536 ≤ z ∧ z ≤ 65536 := by
    by_cases h0 : t = 0
    · have := ok.none h0; omega
    · have := ok.near h0; unfold Tp.sd at this; split at this <;> omega
  have mj := mul_abs (by omega) (by omega) dj hz
  have mi := mul_abs (by omega) (by omega) di hz
  rcases hk with rfl | rfl | rfl
  · obtain h1 | h1 | ⟨h1, h2⟩ : t = 1 ∨ t = 2 ∨ (¬ t = 1 ∧ ¬ t = 2) := by omega
    · subst h1
      refine beyond2 x y 1 z u v _ _ b _ _ _ (torus1 2 x y z u v _ _ b (Nm.divZ v y * z) (by rw [IntKind.wrap_i64]; omega) (by omega) (by omega) (by omega) (by omega) _ _ ?_) w
      rw [Fo.cx_21, Fo.cy, Fo.cx_2 (by omega)]
      exact foldE 2 x y 1 z u v _ _ b _ _ (by omega) (by omega) hx hy
    · subst h1
      refine beyond2 x y 2 z u v _ _ b _ _ _ (torus2 2 x y z u v _ _ b (Nm.divZ u x * z) (by rw [IntKind.wrap_i64]; omega) (by omega) (by omega) (by omega) (by omega) _ _ ?_) w
      rw [Fo.cx_2 (by omega), Fo.cy, show (3 : Int) - 2 = 1 from rfl, Fo.cx_21]
      exact foldE 2 x y 2 z u v _ _ b _ _ (by omega) (by omega) hx hy
    · refine beyond2 x y t z u v _ _ b _ _ _ (torusN 2 x y t z u v _ _ b h1 h2 _ _ ?_) w
      rw [Fo.cx_2 h1, Fo.cy, Fo.cx_2 (by omega)]
      exact foldE 2 x y t z u v _ _ b _ _ (by omega) (by omega) hx hy
  · have h12 : t = 1 ∨ t = 2 := (Fo.gl_of ht ok (by omega)).klein rfl
    rcases h12 with rfl | rfl
    · cases ho : odB (Nm.divZ v y)
      · refine beyond3 x y 1 z u v _ _ b _ _ _ (klein1n 3 x y z u v _ _ b ho _ _ ?_) w
        have h3 : ¬ Nm.divZ v y % 2 = 1 := of_decide_eq_false ho
        rw [Fo.cx_31, if_neg h3, Fo.cy, Fo.cx_3 (by omega)]
        exact foldE 3 x y 1 z u v _ _ b _ _ (by omega) (by omega) hx hy
      · refine beyond3 x y 1 z u v _ _ b _ _ _ (klein1y 3 x y z u v _ _ b ho (by omega) (by omega) (by omega) (by omega) (by omega) (by omega) _ _ ?_) w
        have h3 : Nm.divZ v y % 2 = 1 := of_decide_eq_true ho
        rw [Fo.cx_31, if_pos h3, Fo.cy, Fo.cx_3 (by omega)]
        exact foldE 3 x y 1 z u v _ _ b _ _ (by omega) (by omega) hx hy
    · cases ho : odB (Nm.divZ u x)
      · refine beyond3 x y 2 z u v _ _ b _ _ _ (klein2n 3 x y z u v _ _ b ho _ _ ?_) w
        have h3 : ¬ Nm.divZ u x % 2 = 1 := of_decide_eq_false ho
        rw [Fo.cx_3 (by omega), Fo.cy, show (3 : Int) - 2 = 1 from rfl, Fo.cx_31, if_neg h3]
        exact foldE 3 x y 2 z u v _ _ b _ _ (by omega) (by omega) hx hy
      · refine beyond3 x y 2 z u v _ _ b _ _ _ (klein2y 3 x y z u v _ _ b ho (by omega) (by omega) (by omega) (by omega) (by omega) (by omega) _ _ ?_) w
        have h3 : Nm.divZ u x % 2 = 1 := of_decide_eq_true ho
        rw [Fo.cx_3 (by omega), Fo.cy, show (3 : Int) - 2 = 1 from rfl, Fo.cx_31, if_pos h3]
        exact foldE 3 x y 2 z u v _ _ b _ _ (by omega) (by omega) hx hy
  · cases hj : odB (Nm.divZ v y) <;> cases hi : odB (Nm.divZ u x)
    · have h3 : ¬ Nm.divZ v y % 2 = 1 := of_decide_eq_false hj
      have h4 : ¬ Nm.divZ u x % 2 = 1 := of_decide_eq_false hi
      refine beyond4 x y t z u v _ _ b _ _ _ (cross00 4 x y t z u v _ _ b hj hi _ _ ?_) w
      rw [Fo.cx_4, if_neg h3, Fo.cy, Fo.cx_4, if_neg h4]
      exact foldE 4 x y t z u v _ _ b _ _ (by omega) (by omega) hx hy
    · have h3 : ¬ Nm.divZ v y % 2 = 1 := of_decide_eq_false hj
      have h4 : Nm.divZ u x % 2 = 1 := of_decide_eq_true hi
      refine beyond4 x y t z u v _ _ b _ _ _ (cross01 4 x y t z u v _ _ b hj hi (by omega) (by omega) (by omega) (by omega) _ _ ?_) w
      rw [Fo.cx_4, if_neg h3, Fo.cy, Fo.cx_4, if_pos h4]
      exact foldE 4 x y t z u v _ _ b _ _ (by omega) (by omega) hx hy
    · have h3 : Nm.divZ v y % 2 = 1 := of_decide_eq_true hj
      have h4 : ¬ Nm.divZ u x % 2 = 1 := of_decide_eq_false hi
      refine beyond4 x y t z u v _ _ b _ _ _ (cross10 4 x y t z u v _ _ b hj hi (by omega) (by omega) (by omega) (by omega) _ _ ?_) w
      rw [Fo.cx_4, if_pos h3, Fo.cy, Fo.cx_4, if_neg h4]
      exact foldE 4 x y t z u v _ _ b _ _ (by omega) (by omega) hx hy
    · have h3 : Nm.divZ v y % 2 = 1 := of_decide_eq_true hj
      have h4 : Nm.divZ u x % 2 = 1 := of_decide_eq_true hi
      refine beyond4 x y t z u v _ _ b _ _ _ (cross11 4 x y t z u v _ _ b hj hi (by omega) (by omega) (by omega) (by omega) (by omega) (by omega) (by omega) (by omega) _ _ ?_) w
      rw [Fo.cx_4, if_pos h3, Fo.cy, Fo.cx_4, if_pos h4]
      exact foldE 4 x y t z u v _ _ b _ _ (by omega) (by omega) hx hy
/-- What lies beyond a sphere, and a piece of the plane. -/
theorem beyondB (x y t z u v : Int) (b : Bool) (hx : 0 ≤ x ∧ x ≤ 65536) (hy : 0 ≤ y ∧ y ≤ 65536) (hu : -2199023255552 ≤ u ∧ u ≤ 2199023255552) (hv : -2199023255552 ≤ v ∧ v ≤ 2199023255552) (w : World) :
    Calls Tryz.prog 102 #[.agg #[.int .u8 5, .int .i64 x, .int .i64 y, .int .u8 t, .int .i64 z, .int .i64 (To.fi x), .int .i64 (To.fi y), .int .i64 x, .int .i64 y, .int .i64 u, .int .i64 v, .int .i64 (Nm.divZ u x), .int .i64 (Nm.divZ v y), .bool b]] w fun e w' => e = .returned (.tuple #[.agg #[.int .i64 (Nm.nearZ v 0 (y - 1) + To.fi x), .int .i64 (Nm.nearZ u 0 (x - 1) + To.fi y)], .bool true]) ∧ w.grownBy w' none := by
  have a3 := fi_bd hx
  have a4 := fi_bd hy
  have n1 : -1 ≤ Nm.nearZ v 0 (y - 1) ∧ Nm.nearZ v 0 (y - 1) ≤ 65536 := by unfold Nm.nearZ; repeat' split
                                                                           all_goals omega
  have n2 : -1 ≤ Nm.nearZ u 0 (x - 1) ∧ Nm.nearZ u 0 (x - 1) ≤ 65536 := by unfold Nm.nearZ; repeat' split
                                                                           all_goals omega
  exact beyond5 x y t z u v _ _ b _ _ _ (sphereC 5 x y t z u v _ _ b hx hy _ _ (placeC 5 x y t z _ _ _ _ (by rw [IntKind.wrap_i64]; omega) (by rw [IntKind.wrap_i64]; omega))) w
theorem beyondP (x y t z u v : Int) (b : Bool) (w : World) :
    Calls Tryz.prog 102 #[.agg #[.int .u8 1, .int .i64 x, .int .i64 y, .int .u8 t, .int .i64 z, .int .i64 (To.fi x), .int .i64 (To.fi y), .int .i64 x, .int .i64 y, .int .i64 u, .int .i64 v, .int .i64 (Nm.divZ u x), .int .i64 (Nm.divZ v y), .bool b]] w fun e w' => e = .returned (.tuple #[.agg #[.int .i64 0, .int .i64 0], .bool false]) ∧ w.grownBy w' none :=
  beyond1 x y t z u v _ _ b _ _ _ (planeC 1 x y t z u v _ _ b) w

theorem scellLost (k x y t z u v i j : Int) (b : Bool) (h : loB k b = true) (w : World) : Calls Tryz.prog 91 #[.agg #[.int .u8 k, .int .i64 x, .int .i64 y, .int .u8 t, .int .i64 z, .int .i64 (To.fi x), .int .i64 (To.fi y), .int .i64 x, .int .i64 y, .int .i64 u, .int .i64 v, .int .i64 i, .int .i64 j, .bool b]] w fun e w' => e = .returned (.tuple #[.agg #[.int .i64 0, .int .i64 0], .int .i64 60]) ∧ w.grownBy w' none := by
  obtain ⟨fs, hfs⟩ := underP
  have hl := isLostC k x y t z u v i j b
  rw [h] at hl
  clear h
  obtain ⟨W1, hW1, sz1, g1, B1⟩ := boxn w #[.int .u8 k, .int .i64 x, .int .i64 y, .int .u8 t, .int .i64 z, .int .i64 (To.fi x), .int .i64 (To.fi y), .int .i64 x, .int .i64 y, .int .i64 u, .int .i64 v, .int .i64 i, .int .i64 j, .bool b] 131
  obtain ⟨W2, hW2, sz2, g2, B2⟩ := boxn W1 #[.int .i64 0, .int .i64 0] 42
  have G2 := gb_trans g1 g2
  have B1x := B1.kept g2 (by simp)
  have b1_2_0 := B1x.cell 0 (v := .int .u8 k) rfl
  have b1_2_1 := B1x.cell 1 (v := .int .i64 x) rfl
  have b1_2_2 := B1x.cell 2 (v := .int .i64 y) rfl
  have b1_2_3 := B1x.cell 3 (v := .int .u8 t) rfl
  have b1_2_4 := B1x.cell 4 (v := .int .i64 z) rfl
  have b1_2_5 := B1x.cell 5 (v := .int .i64 (To.fi x)) rfl
  have b1_2_6 := B1x.cell 6 (v := .int .i64 (To.fi y)) rfl
  have b1_2_7 := B1x.cell 7 (v := .int .i64 x) rfl
  have b1_2_8 := B1x.cell 8 (v := .int .i64 y) rfl
  have b1_2_9 := B1x.cell 9 (v := .int .i64 u) rfl
  have b1_2_10 := B1x.cell 10 (v := .int .i64 v) rfl
  have b1_2_11 := B1x.cell 11 (v := .int .i64 i) rfl
  have b1_2_12 := B1x.cell 12 (v := .int .i64 j) rfl
  have b1_2_13 := B1x.cell 13 (v := .bool b) rfl
  have b2_2_0 := B2.cell 0 (v := .int .i64 0) rfl
  have b2_2_1 := B2.cell 1 (v := .int .i64 0) rfl
  have zb2_2_0 := B2.frozen 0
  have zb2_2_1 := B2.frozen 1
  go_enter Tryz.func91, Tryz.ntmps91
  go_wp2_with (first | (go_at_call 100; (fail_if_success (guard_hyp g3)); refine (hl _).mono ?_; rintro e w3 ⟨rfl, g3⟩; have G3 := gb_trans G2 g3; have B1xx := B1x.kept g3 (by simp); have B2x := B2.kept g3 (by simp); clear b1_2_0 b1_2_1 b1_2_2 b1_2_3 b1_2_4 b1_2_5 b1_2_6 b1_2_7 b1_2_8 b1_2_9 b1_2_10 b1_2_11 b1_2_12 b1_2_13 b2_2_0 b2_2_1 zb2_2_0 zb2_2_1; have b1_3_0 := B1xx.cell 0 (v := .int .u8 k) rfl; have b1_3_1 := B1xx.cell 1 (v := .int .i64 x) rfl; have b1_3_2 := B1xx.cell 2 (v := .int .i64 y) rfl; have b1_3_3 := B1xx.cell 3 (v := .int .u8 t) rfl; have b1_3_4 := B1xx.cell 4 (v := .int .i64 z) rfl; have b1_3_5 := B1xx.cell 5 (v := .int .i64 (To.fi x)) rfl; have b1_3_6 := B1xx.cell 6 (v := .int .i64 (To.fi y)) rfl; have b1_3_7 := B1xx.cell 7 (v := .int .i64 x) rfl; have b1_3_8 := B1xx.cell 8 (v := .int .i64 y) rfl; have b1_3_9 := B1xx.cell 9 (v := .int .i64 u) rfl; have b1_3_10 := B1xx.cell 10 (v := .int .i64 v) rfl; have b1_3_11 := B1xx.cell 11 (v := .int .i64 i) rfl; have b1_3_12 := B1xx.cell 12 (v := .int .i64 j) rfl; have b1_3_13 := B1xx.cell 13 (v := .bool b) rfl; have b2_3_0 := B2x.cell 0 (v := .int .i64 0) rfl; have b2_3_1 := B2x.cell 1 (v := .int .i64 0) rfl; have zb2_3_0 := B2x.frozen 0; have zb2_3_1 := B2x.frozen 1))
  refine ret_c2 (g := W1.heap.size) (cs := #[.int .i64 0, .int .i64 0]) rfl hfs infoP rfl (bo2 B2x) rfl ⟨rfl, gb2 G3 g1.size⟩

set_option maxHeartbeats 1000000 in
theorem scellIn (k x y t z u v i j : Int) (P Q : Int) (hp : ∀ w, Calls Tryz.prog 101 #[.agg #[.int .u8 k, .int .i64 x, .int .i64 y, .int .u8 t, .int .i64 z, .int .i64 (To.fi x), .int .i64 (To.fi y), .int .i64 x, .int .i64 y], .int .i64 u, .int .i64 v] w fun e w' => e = .returned (.agg #[.int .i64 P, .int .i64 Q]) ∧ w.grownBy w' none) (w : World) : Calls Tryz.prog 91 #[.agg #[.int .u8 k, .int .i64 x, .int .i64 y, .int .u8 t, .int .i64 z, .int .i64 (To.fi x), .int .i64 (To.fi y), .int .i64 x, .int .i64 y, .int .i64 u, .int .i64 v, .int .i64 i, .int .i64 j, .bool true]] w fun e w' => e = .returned (.tuple #[.agg #[.int .i64 P, .int .i64 Q], .int .i64 0]) ∧ w.grownBy w' none := by
  obtain ⟨fs, hfs⟩ := underP
  have hl := isLostC k x y t z u v i j true
  rw [show loB k true = false from rfl] at hl
  obtain ⟨W1, hW1, sz1, g1, B1⟩ := boxn w #[.int .u8 k, .int .i64 x, .int .i64 y, .int .u8 t, .int .i64 z, .int .i64 (To.fi x), .int .i64 (To.fi y), .int .i64 x, .int .i64 y, .int .i64 u, .int .i64 v, .int .i64 i, .int .i64 j, .bool true] 131
  obtain ⟨W2, hW2, sz2, g2, B2⟩ := boxn W1 #[.int .i64 0, .int .i64 0] 42
  have G2 := gb_trans g1 g2
  have B1x := B1.kept g2 (by simp)
  have b1_2_0 := B1x.cell 0 (v := .int .u8 k) rfl
  have b1_2_1 := B1x.cell 1 (v := .int .i64 x) rfl
  have b1_2_2 := B1x.cell 2 (v := .int .i64 y) rfl
  have b1_2_3 := B1x.cell 3 (v := .int .u8 t) rfl
  have b1_2_4 := B1x.cell 4 (v := .int .i64 z) rfl
  have b1_2_5 := B1x.cell 5 (v := .int .i64 (To.fi x)) rfl
  have b1_2_6 := B1x.cell 6 (v := .int .i64 (To.fi y)) rfl
  have b1_2_7 := B1x.cell 7 (v := .int .i64 x) rfl
  have b1_2_8 := B1x.cell 8 (v := .int .i64 y) rfl
  have b1_2_9 := B1x.cell 9 (v := .int .i64 u) rfl
  have b1_2_10 := B1x.cell 10 (v := .int .i64 v) rfl
  have b1_2_11 := B1x.cell 11 (v := .int .i64 i) rfl
  have b1_2_12 := B1x.cell 12 (v := .int .i64 j) rfl
  have b1_2_13 := B1x.cell 13 (v := .bool true) rfl
  have b2_2_0 := B2.cell 0 (v := .int .i64 0) rfl
  have b2_2_1 := B2.cell 1 (v := .int .i64 0) rfl
  have zb2_2_0 := B2.frozen 0
  have zb2_2_1 := B2.frozen 1
  go_enter Tryz.func91, Tryz.ntmps91
  go_wp2_with (first | (go_at_call 100; (fail_if_success (guard_hyp g3)); refine (hl _).mono ?_; rintro e w3 ⟨rfl, g3⟩; have G3 := gb_trans G2 g3; have B1xx := B1x.kept g3 (by simp); have B2x := B2.kept g3 (by simp); clear b1_2_0 b1_2_1 b1_2_2 b1_2_3 b1_2_4 b1_2_5 b1_2_6 b1_2_7 b1_2_8 b1_2_9 b1_2_10 b1_2_11 b1_2_12 b1_2_13 b2_2_0 b2_2_1 zb2_2_0 zb2_2_1; have b1_3_0 := B1xx.cell 0 (v := .int .u8 k) rfl; have b1_3_1 := B1xx.cell 1 (v := .int .i64 x) rfl; have b1_3_2 := B1xx.cell 2 (v := .int .i64 y) rfl; have b1_3_3 := B1xx.cell 3 (v := .int .u8 t) rfl; have b1_3_4 := B1xx.cell 4 (v := .int .i64 z) rfl; have b1_3_5 := B1xx.cell 5 (v := .int .i64 (To.fi x)) rfl; have b1_3_6 := B1xx.cell 6 (v := .int .i64 (To.fi y)) rfl; have b1_3_7 := B1xx.cell 7 (v := .int .i64 x) rfl; have b1_3_8 := B1xx.cell 8 (v := .int .i64 y) rfl; have b1_3_9 := B1xx.cell 9 (v := .int .i64 u) rfl; have b1_3_10 := B1xx.cell 10 (v := .int .i64 v) rfl; have b1_3_11 := B1xx.cell 11 (v := .int .i64 i) rfl; have b1_3_12 := B1xx.cell 12 (v := .int .i64 j) rfl; have b1_3_13 := B1xx.cell 13 (v := .bool true) rfl; have b2_3_0 := B2x.cell 0 (v := .int .i64 0) rfl; have b2_3_1 := B2x.cell 1 (v := .int .i64 0) rfl; have zb2_3_0 := B2x.frozen 0; have zb2_3_1 := B2x.frozen 1) | (go_at_call 101; (fail_if_success (guard_hyp g4)); refine (hp _).mono ?_; rintro e w4 ⟨rfl, g4⟩; have G4 := gb_trans G3 g4; have B1xxx := B1xx.kept g4 (by simp); have B2xx := B2x.kept g4 (by simp); clear b1_3_0 b1_3_1 b1_3_2 b1_3_3 b1_3_4 b1_3_5 b1_3_6 b1_3_7 b1_3_8 b1_3_9 b1_3_10 b1_3_11 b1_3_12 b1_3_13 b2_3_0 b2_3_1 zb2_3_0 zb2_3_1; have b1_4_0 := B1xxx.cell 0 (v := .int .u8 k) rfl; have b1_4_1 := B1xxx.cell 1 (v := .int .i64 x) rfl; have b1_4_2 := B1xxx.cell 2 (v := .int .i64 y) rfl; have b1_4_3 := B1xxx.cell 3 (v := .int .u8 t) rfl; have b1_4_4 := B1xxx.cell 4 (v := .int .i64 z) rfl; have b1_4_5 := B1xxx.cell 5 (v := .int .i64 (To.fi x)) rfl; have b1_4_6 := B1xxx.cell 6 (v := .int .i64 (To.fi y)) rfl; have b1_4_7 := B1xxx.cell 7 (v := .int .i64 x) rfl; have b1_4_8 := B1xxx.cell 8 (v := .int .i64 y) rfl; have b1_4_9 := B1xxx.cell 9 (v := .int .i64 u) rfl; have b1_4_10 := B1xxx.cell 10 (v := .int .i64 v) rfl; have b1_4_11 := B1xxx.cell 11 (v := .int .i64 i) rfl; have b1_4_12 := B1xxx.cell 12 (v := .int .i64 j) rfl; have b1_4_13 := B1xxx.cell 13 (v := .bool true) rfl; have b2_4_0 := B2xx.cell 0 (v := .int .i64 0) rfl; have b2_4_1 := B2xx.cell 1 (v := .int .i64 0) rfl; have zb2_4_0 := B2xx.frozen 0; have zb2_4_1 := B2xx.frozen 1))
  refine ret_c2 (g := W1.heap.size) (cs := #[.int .i64 P, .int .i64 Q]) rfl hfs infoP rfl (bo2 B2xx) rfl ⟨rfl, gb2 G4 g1.size⟩

set_option maxHeartbeats 1000000 in
theorem scellOut (k x y t z u v i j : Int) (h : loB k false = false) (P Q : Int) (B : Bool) (hp : ∀ w, Calls Tryz.prog 102 #[.agg #[.int .u8 k, .int .i64 x, .int .i64 y, .int .u8 t, .int .i64 z, .int .i64 (To.fi x), .int .i64 (To.fi y), .int .i64 x, .int .i64 y, .int .i64 u, .int .i64 v, .int .i64 i, .int .i64 j, .bool false]] w fun e w' => e = .returned (.tuple #[.agg #[.int .i64 P, .int .i64 Q], .bool B]) ∧ w.grownBy w' none) (w : World) : Calls Tryz.prog 91 #[.agg #[.int .u8 k, .int .i64 x, .int .i64 y, .int .u8 t, .int .i64 z, .int .i64 (To.fi x), .int .i64 (To.fi y), .int .i64 x, .int .i64 y, .int .i64 u, .int .i64 v, .int .i64 i, .int .i64 j, .bool false]] w fun e w' => e = .returned (.tuple #[.agg #[.int .i64 P, .int .i64 Q], .int .i64 0]) ∧ w.grownBy w' none := by
  obtain ⟨fs, hfs⟩ := underP
  have hl := isLostC k x y t z u v i j false
  rw [h] at hl
  clear h
  obtain ⟨W1, hW1, sz1, g1, B1⟩ := boxn w #[.int .u8 k, .int .i64 x, .int .i64 y, .int .u8 t, .int .i64 z, .int .i64 (To.fi x), .int .i64 (To.fi y), .int .i64 x, .int .i64 y, .int .i64 u, .int .i64 v, .int .i64 i, .int .i64 j, .bool false] 131
  obtain ⟨W2, hW2, sz2, g2, B2⟩ := boxn W1 #[.int .i64 0, .int .i64 0] 42
  have G2 := gb_trans g1 g2
  have B1x := B1.kept g2 (by simp)
  have b1_2_0 := B1x.cell 0 (v := .int .u8 k) rfl
  have b1_2_1 := B1x.cell 1 (v := .int .i64 x) rfl
  have b1_2_2 := B1x.cell 2 (v := .int .i64 y) rfl
  have b1_2_3 := B1x.cell 3 (v := .int .u8 t) rfl
  have b1_2_4 := B1x.cell 4 (v := .int .i64 z) rfl
  have b1_2_5 := B1x.cell 5 (v := .int .i64 (To.fi x)) rfl
  have b1_2_6 := B1x.cell 6 (v := .int .i64 (To.fi y)) rfl
  have b1_2_7 := B1x.cell 7 (v := .int .i64 x) rfl
  have b1_2_8 := B1x.cell 8 (v := .int .i64 y) rfl
  have b1_2_9 := B1x.cell 9 (v := .int .i64 u) rfl
  have b1_2_10 := B1x.cell 10 (v := .int .i64 v) rfl
  have b1_2_11 := B1x.cell 11 (v := .int .i64 i) rfl
  have b1_2_12 := B1x.cell 12 (v := .int .i64 j) rfl
  have b1_2_13 := B1x.cell 13 (v := .bool false) rfl
  have b2_2_0 := B2.cell 0 (v := .int .i64 0) rfl
  have b2_2_1 := B2.cell 1 (v := .int .i64 0) rfl
  have zb2_2_0 := B2.frozen 0
  have zb2_2_1 := B2.frozen 1
  go_enter Tryz.func91, Tryz.ntmps91
  go_wp2_with (first | (go_at_call 100; (fail_if_success (guard_hyp g3)); refine (hl _).mono ?_; rintro e w3 ⟨rfl, g3⟩; have G3 := gb_trans G2 g3; have B1xx := B1x.kept g3 (by simp); have B2x := B2.kept g3 (by simp); clear b1_2_0 b1_2_1 b1_2_2 b1_2_3 b1_2_4 b1_2_5 b1_2_6 b1_2_7 b1_2_8 b1_2_9 b1_2_10 b1_2_11 b1_2_12 b1_2_13 b2_2_0 b2_2_1 zb2_2_0 zb2_2_1; have b1_3_0 := B1xx.cell 0 (v := .int .u8 k) rfl; have b1_3_1 := B1xx.cell 1 (v := .int .i64 x) rfl; have b1_3_2 := B1xx.cell 2 (v := .int .i64 y) rfl; have b1_3_3 := B1xx.cell 3 (v := .int .u8 t) rfl; have b1_3_4 := B1xx.cell 4 (v := .int .i64 z) rfl; have b1_3_5 := B1xx.cell 5 (v := .int .i64 (To.fi x)) rfl; have b1_3_6 := B1xx.cell 6 (v := .int .i64 (To.fi y)) rfl; have b1_3_7 := B1xx.cell 7 (v := .int .i64 x) rfl; have b1_3_8 := B1xx.cell 8 (v := .int .i64 y) rfl; have b1_3_9 := B1xx.cell 9 (v := .int .i64 u) rfl; have b1_3_10 := B1xx.cell 10 (v := .int .i64 v) rfl; have b1_3_11 := B1xx.cell 11 (v := .int .i64 i) rfl; have b1_3_12 := B1xx.cell 12 (v := .int .i64 j) rfl; have b1_3_13 := B1xx.cell 13 (v := .bool false) rfl; have b2_3_0 := B2x.cell 0 (v := .int .i64 0) rfl; have b2_3_1 := B2x.cell 1 (v := .int .i64 0) rfl; have zb2_3_0 := B2x.frozen 0; have zb2_3_1 := B2x.frozen 1) | (go_at_call 102; (fail_if_success (guard_hyp g4)); refine (hp _).mono ?_; rintro e w4 ⟨rfl, g4⟩; have G4 := gb_trans G3 g4; have B1xxx := B1xx.kept g4 (by simp); have B2xx := B2x.kept g4 (by simp); obtain ⟨W5, hW5, sz5, g5, B5⟩ := boxn w4 #[.int .i64 P, .int .i64 Q] 42; have G5 := gb_trans G4 g5; have B1xxxx := B1xxx.kept g5 (by simp); have B2xxx := B2xx.kept g5 (by simp); clear b1_3_0 b1_3_1 b1_3_2 b1_3_3 b1_3_4 b1_3_5 b1_3_6 b1_3_7 b1_3_8 b1_3_9 b1_3_10 b1_3_11 b1_3_12 b1_3_13 b2_3_0 b2_3_1 zb2_3_0 zb2_3_1; have b1_5_0 := B1xxxx.cell 0 (v := .int .u8 k) rfl; have b1_5_1 := B1xxxx.cell 1 (v := .int .i64 x) rfl; have b1_5_2 := B1xxxx.cell 2 (v := .int .i64 y) rfl; have b1_5_3 := B1xxxx.cell 3 (v := .int .u8 t) rfl; have b1_5_4 := B1xxxx.cell 4 (v := .int .i64 z) rfl; have b1_5_5 := B1xxxx.cell 5 (v := .int .i64 (To.fi x)) rfl; have b1_5_6 := B1xxxx.cell 6 (v := .int .i64 (To.fi y)) rfl; have b1_5_7 := B1xxxx.cell 7 (v := .int .i64 x) rfl; have b1_5_8 := B1xxxx.cell 8 (v := .int .i64 y) rfl; have b1_5_9 := B1xxxx.cell 9 (v := .int .i64 u) rfl; have b1_5_10 := B1xxxx.cell 10 (v := .int .i64 v) rfl; have b1_5_11 := B1xxxx.cell 11 (v := .int .i64 i) rfl; have b1_5_12 := B1xxxx.cell 12 (v := .int .i64 j) rfl; have b1_5_13 := B1xxxx.cell 13 (v := .bool false) rfl; have b2_5_0 := B2xxx.cell 0 (v := .int .i64 0) rfl; have b2_5_1 := B2xxx.cell 1 (v := .int .i64 0) rfl; have zb2_5_0 := B2xxx.frozen 0; have zb2_5_1 := B2xxx.frozen 1; have b5_5_0 := B5.cell 0 (v := .int .i64 P) rfl; have b5_5_1 := B5.cell 1 (v := .int .i64 Q) rfl))
  refine ret_c2 (g := W1.heap.size) (cs := #[.int .i64 P, .int .i64 Q]) rfl hfs infoP rfl (bo2 B2xxx) rfl ⟨rfl, gb2 G5 g1.size⟩
end Go.Proofs.YthgoillhjajanaaGreat.Fd
