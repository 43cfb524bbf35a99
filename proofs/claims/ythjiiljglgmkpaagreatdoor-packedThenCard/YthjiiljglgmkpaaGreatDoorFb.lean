/- What a place outside of the grid is, of each kind, in whole numbers; the cell of a place. -/
import Derived.Test.YthjiiljglgmkpaaGreatDoorF4
import Derived.Test.YthjiiljglgmkpaaGreatDoorF4a
import Derived.Test.YthjiiljglgmkpaaGreatDoorF4b
import Derived.Test.YthjiiljglgmkpaaGreatDoorFa
import Derived.Test.YthjiiljglgmkpaaGreatDoorTa
namespace Go.Proofs.YthjiiljglgmkpaaGreatDoor.Fd
open Go.RowKit
set_option linter.unusedVariables false
set_option linter.unusedSimpArgs false
set_option maxRecDepth 100000

theorem wi_abs {p x B : Int} (hx : 0 ≤ x ∧ x ≤ 65536) (hB : 65536 ≤ B) (h : -B ≤ p ∧ p ≤ B) : -B ≤ Fo.wi p x ∧ Fo.wi p x ≤ B := by
  obtain h1 | h1 : x = 0 ∨ 1 ≤ x := by omega
  · subst h1; rw [Fo.wi_zero]; exact h
  · have := Fo.wi_bd p h1; omega
theorem fi_bd {x : Int} (hx : 0 ≤ x ∧ x ≤ 65536) : -32768 ≤ To.fi x ∧ To.fi x ≤ 0 := by unfold To.fi; omega
theorem foldE (k x y t z u v i j : Int) (b : Bool) (p q : Int) (hp : -288230376151711744 ≤ p ∧ p ≤ 288230376151711744) (hq : -288230376151711744 ≤ q ∧ q ≤ 288230376151711744) (hx : 0 ≤ x ∧ x ≤ 65536) (hy : 0 ≤ y ∧ y ≤ 65536) (w : World) : Calls Tryz.prog 149 #[.agg #[.int .u8 k, .int .i64 x, .int .i64 y, .int .u8 t, .int .i64 z, .int .i64 (To.fi x), .int .i64 (To.fi y), .int .i64 x, .int .i64 y, .int .i64 u, .int .i64 v, .int .i64 i, .int .i64 j, .bool b], .int .i64 p, .int .i64 q] w fun e w' => e = .returned (.agg #[.int .i64 (Fo.wi p x + To.fi x), .int .i64 (Fo.wi q y + To.fi y)]) ∧ w.grownBy w' none := by
  have a1 := wi_abs hx (by omega) hp
  have a2 := wi_abs hy (by omega) hq
  have a3 := fi_bd hx
  have a4 := fi_bd hy
  exact foldedC k x y t z u v i j b p q (by omega) (by omega) (by omega) (by omega) hx hy _ _ (by rw [IntKind.wrap_i64]; omega) (by rw [IntKind.wrap_i64]; omega) w
theorem div_abs {u x : Int} (hx : 0 ≤ x) {B : Int} (hB : 0 ≤ B) (h : -B ≤ u ∧ u ≤ B) : -B ≤ Nm.divZ u x ∧ Nm.divZ u x ≤ B := Nm.divZ_bd h.1 h.2 (by omega) hB
theorem mul_abs {j z J Z : Int} (hJ : 0 ≤ J) (hZ : 0 ≤ Z) (h1 : -J ≤ j ∧ j ≤ J) (h2 : -Z ≤ z ∧ z ≤ Z) : -(J * Z) ≤ j * z ∧ j * z ≤ J * Z := by
  have h := Nat.mul_le_mul (show j.natAbs ≤ J.natAbs by omega) (show z.natAbs ≤ Z.natAbs by omega)
  rw [← Int.natAbs_mul, ← Int.natAbs_mul] at h
  have := Int.mul_nonneg hJ hZ
  omega
/-- What lies beyond a glued grid. -/
theorem beyondG (k x y t z u v : Int) (b : Bool) (ht : 0 ≤ t) (ok : Tp.Ok k x y t z) (hk : k = 2 ∨ k = 3 ∨ k = 4) (hu : -2199023255552 ≤ u ∧ u ≤ 2199023255552) (hv : -2199023255552 ≤ v ∧ v ≤ 2199023255552) (w : World) :
    Calls Tryz.prog 126 #[.agg #[.int .u8 k, .int .i64 x, .int .i64 y, .int .u8 t, .int .i64 z, .int .i64 (To.fi x), .int .i64 (To.fi y), .int .i64 x, .int .i64 y, .int .i64 u, .int .i64 v, .int .i64 (Nm.divZ u x), .int .i64 (Nm.divZ v y), .bool b]] w fun e w' => e = .returned (.tuple #[.agg #[.int .i64 (Fo.cx k x y t z u v + To.fi x), .int .i64 (Fo.cy k x y t z u v + To.fi y)], .bool true]) ∧ w.grownBy w' none := by
  have hx := ok.wide
  have hy := ok.high
  have di := div_abs hx.1 (by omega) hu
  have dj := div_abs hy.1 (by omega) hv
  have hz : -65536 ≤ z ∧ z ≤ 65536 := by
    by_cases h0 : t = 0
    · have := ok.none h0; omega
    · have := ok.near h0; unfold Tp.sd at this; split at this <;> omega
  have mj := mul_abs (by omega) (by omega) dj hz
  have mi := mul_abs (by omega) (by omega) di hz
  rcases hk with rfl | rfl | rfl
  · obtain h1 | h1 | ⟨h1, h2⟩ : t = 1 ∨ t = 2 ∨ (¬ t = 1 ∧ ¬ t = 2) := by omega
    · subst h1
      refine beyond2 x y 1 z u v _ _ b _ _ _ (torus1 2 x y z u v _ _ b (Nm.divZ v y * z) (by rw [IntKind.wrap_i64]; omega) (by omega) (by omega) (by omega) (by omega) _ _ ?_) w
      rw [Fo.cx_21, Fo.cy, Fo.cx_2 (by omega)]
      exact foldE 2 x y 1 z u v _ _ b _ _ (by omega) (by omega) hx hy
    · subst h1
      refine beyond2 x y 2 z u v _ _ b _ _ _ (torus2 2 x y z u v _ _ b (Nm.divZ u x * z) (by rw [IntKind.wrap_i64]; omega) (by omega) (by omega) (by omega) (by omega) _ _ ?_) w
      rw [Fo.cx_2 (by omega), Fo.cy, show (3 : Int) - 2 = 1 from rfl, Fo.cx_21]
      exact foldE 2 x y 2 z u v _ _ b _ _ (by omega) (by omega) hx hy
    · refine beyond2 x y t z u v _ _ b _ _ _ (torusN 2 x y t z u v _ _ b h1 h2 _ _ ?_) w
      rw [Fo.cx_2 h1, Fo.cy, Fo.cx_2 (by omega)]
      exact foldE 2 x y t z u v _ _ b _ _ (by omega) (by omega) hx hy
  · have h12 : t = 1 ∨ t = 2 := (Fo.gl_of ht ok (by omega)).klein rfl
    rcases h12 with rfl | rfl
    · cases ho : odB (Nm.divZ v y)
      · refine beyond3 x y 1 z u v _ _ b _ _ _ (klein1n 3 x y z u v _ _ b ho _ _ ?_) w
        have h3 : ¬ Nm.divZ v y % 2 = 1 := of_decide_eq_false ho
        rw [Fo.cx_31, if_neg h3, Fo.cy, Fo.cx_3 (by omega)]
        exact foldE 3 x y 1 z u v _ _ b _ _ (by omega) (by omega) hx hy
      · refine beyond3 x y 1 z u v _ _ b _ _ _ (klein1y 3 x y z u v _ _ b ho (by omega) (by omega) (by omega) (by omega) (by omega) (by omega) _ _ ?_) w
        have h3 : Nm.divZ v y % 2 = 1 := of_decide_eq_true ho
        rw [Fo.cx_31, if_pos h3, Fo.cy, Fo.cx_3 (by omega)]
        exact foldE 3 x y 1 z u v _ _ b _ _ (by omega) (by omega) hx hy
    · cases ho : odB (Nm.divZ u x)
      · refine beyond3 x y 2 z u v _ _ b _ _ _ (klein2n 3 x y z u v _ _ b ho _ _ ?_) w
        have h3 : ¬ Nm.divZ u x % 2 = 1 := of_decide_eq_false ho
        rw [Fo.cx_3 (by omega), Fo.cy, show (3 : Int) - 2 = 1 from rfl, Fo.cx_31, if_neg h3]
        exact foldE 3 x y 2 z u v _ _ b _ _ (by omega) (by omega) hx hy
      · refine beyond3 x y 2 z u v _ _ b _ _ _ (klein2y 3 x y z u v _ _ b ho (by omega) (by omega) (by omega) (by omega) (by omega) (by omega) _ _ ?_) w
        have h3 : Nm.divZ u x % 2 = 1 := of_decide_eq_true ho
        rw [Fo.cx_3 (by omega), Fo.cy, show (3 : Int) - 2 = 1 from rfl, Fo.cx_31, if_pos h3]
        exact foldE 3 x y 2 z u v _ _ b _ _ (by omega) (by omega) hx hy
  · cases hj : odB (Nm.divZ v y) <;> cases hi : odB (Nm.divZ u x)
    · have h3 : ¬ Nm.divZ v y % 2 = 1 := of_decide_eq_false hj
      have h4 : ¬ Nm.divZ u x % 2 = 1 := of_decide_eq_false hi
      refine beyond4 x y t z u v _ _ b _ _ _ (cross00 4 x y t z u v _ _ b hj hi _ _ ?_) w
      rw [Fo.cx_4, if_neg h3, Fo.cy, Fo.cx_4, if_neg h4]
      exact foldE 4 x y t z u v _ _ b _ _ (by omega) (by omega) hx hy
    · have h3 : ¬ Nm.divZ v y % 2 = 1 := of_decide_eq_false hj
      have h4 : Nm.divZ u x % 2 = 1 := of_decide_eq_true hi
      refine beyond4 x y t z u v _ _ b _ _ _ (cross01 4 x y t z u v _ _ b hj hi (by omega) (by omega) (by omega) (by omega) _ _ ?_) w
      rw [Fo.cx_4, if_neg h3, Fo.cy, Fo.cx_4, if_pos h4]
      exact foldE 4 x y t z u v _ _ b _ _ (by omega) (by omega) hx hy
    · have h3 : Nm.divZ v y % 2 = 1 := of_decide_eq_true hj
      have h4 : ¬ Nm.divZ u x % 2 = 1 := of_decide_eq_false hi
      refine beyond4 x y t z u v _ _ b _ _ _ (cross10 4 x y t z u v _ _ b hj hi (by omega) (by omega) (by omega) (by omega) _ _ ?_) w
      rw [Fo.cx_4, if_pos h3, Fo.cy, Fo.cx_4, if_neg h4]
      exact foldE 4 x y t z u v _ _ b _ _ (by omega) (by omega) hx hy
    · have h3 : Nm.divZ v y % 2 = 1 := of_decide_eq_true hj
      have h4 : Nm.divZ u x % 2 = 1 := of_decide_eq_true hi
      refine beyond4 x y t z u v _ _ b _ _ _ (cross11 4 x y t z u v _ _ b hj hi (by omega) (by omega) (by omega) (by omega) (by omega) (by omega) (by omega) (by omega) _ _ ?_) w
      rw [Fo.cx_4, if_pos h3, Fo.cy, Fo.cx_4, if_pos h4]
      exact foldE 4 x y t z u v _ _ b _ _ (by omega) (by omega) hx hy
/-- What lies beyond a sphere, and a piece of the plane. -/
theorem beyondB (x y t z u v : Int) (b : Bool) (hx : 0 ≤ x ∧ x ≤ 65536) (hy : 0 ≤ y ∧ y ≤ 65536) (hu : -2199023255552 ≤ u ∧ u ≤ 2199023255552) (hv : -2199023255552 ≤ v ∧ v ≤ 2199023255552) (w : World) :
    Calls Tryz.prog 126 #[.agg #[.int .u8 5, .int .i64 x, .int .i64 y, .int .u8 t, .int .i64 z, .int .i64 (To.fi x), .int .i64 (To.fi y), .int .i64 x, .int .i64 y, .int .i64 u, .int .i64 v, .int .i64 (Nm.divZ u x), .int .i64 (Nm.divZ v y), .bool b]] w fun e w' => e = .returned (.tuple #[.agg #[.int .i64 (Nm.nearZ v 0 (y - 1) + To.fi x), .int .i64 (Nm.nearZ u 0 (x - 1) + To.fi y)], .bool true]) ∧ w.grownBy w' none := by
  have a3 := fi_bd hx
  have a4 := fi_bd hy
  have n1 : -1 ≤ Nm.nearZ v 0 (y - 1) ∧ Nm.nearZ v 0 (y - 1) ≤ 65536 := by unfold Nm.nearZ; repeat' split
                                                                           all_goals omega
  have n2 : -1 ≤ Nm.nearZ u 0 (x - 1) ∧ Nm.nearZ u 0 (x - 1) ≤ 65536 := by unfold Nm.nearZ; repeat' split
                                                                           all_goals omega
  exact beyond5 x y t z u v _ _ b _ _ _ (sphereC 5 x y t z u v _ _ b hx hy _ _ (placeC 5 x y t z _ _ _ _ (by rw [IntKind.wrap_i64]; omega) (by rw [IntKind.wrap_i64]; omega))) w
theorem beyondP (x y t z u v : Int) (b : Bool) (w : World) :
    Calls Tryz.prog 126 #[.agg #[.int .u8 1, .int .i64 x, .int .i64 y, .int .u8 t, .int .i64 z, .int .i64 (To.fi x), .int .i64 (To.fi y), .int .i64 x, .int .i64 y, .int .i64 u, .int .i64 v, .int .i64 (Nm.divZ u x), .int .i64 (Nm.divZ v y), .bool b]] w fun e w' => e = .returned (.tuple #[.agg #[.int .i64 0, .int .i64 0], .bool false]) ∧ w.grownBy w' none :=
  beyond1 x y t z u v _ _ b _ _ _ (planeC 1 x y t z u v _ _ b) w

end Go.Proofs.YthjiiljglgmkpaaGreatDoor.Fd
namespace Go.Proofs.YthjiiljglgmkpaaGreatDoor.Fd
open Go.RowKit
set_option linter.unusedVariables false
set_option linter.unusedSimpArgs false
set_option maxRecDepth 100000

theorem mod_twice {a n : Int} (hn : 1 ≤ n) : (a.tmod n + n).tmod n = a % n := by
  have h1 := Int.mul_tdiv_add_tmod a n
  have h2 := Int.lt_tmod_of_pos a (show (0:Int) < n by omega)
  rw [Int.tmod_eq_emod_of_nonneg (by omega), Int.add_emod_right]
  have h3 : a = a.tmod n + n * a.tdiv n := by omega
  conv => rhs; rw [h3]
  rw [Int.add_mul_emod_self_left]
theorem mod_twice' {a n : Int} (hn : 1 ≤ n) : (a.tmod n + n) % n = a % n := by
  have h2 := Int.lt_tmod_of_pos a (show (0:Int) < n by omega)
  have := mod_twice (a := a) hn
  rw [Int.tmod_eq_emod_of_nonneg (by omega)] at this
  exact this
theorem over_is {a n : Int} (hn : 1 ≤ n) : (a - a % n).tdiv n = a / n := by
  have h1 := Int.mul_ediv_add_emod a n
  rw [show a - a % n = n * (a / n) by omega, Int.mul_tdiv_cancel_left _ (by omega)]

theorem refModC (a n : Int) (h1 : 1 ≤ n) (h2 : n ≤ 65536) (w : World) : Calls Tryz.prog 132 #[.int .i64 a, .int .i64 n] w fun e w' => e = .returned (.int .i64 (a % n)) ∧ w' = w := by
  have HX : Hid ((a.tmod n + n) % n = a % n) := mod_twice' h1
  have hb := Int.lt_tmod_of_pos a (show (0:Int) < n by omega)
  have hc := Int.tmod_lt_of_pos a (show (0:Int) < n by omega)
  have hw : IntKind.i64.wrap (a.tmod n + n) = a.tmod n + n := by rw [IntKind.wrap_i64]; omega
  have hn : ¬ n = 0 := by omega
  go_enter Tryz.func132, Tryz.ntmps132
  go_wp2
  go_ret
  exact ⟨retI HX.out, rfl⟩
theorem refOverC (a n : Int) (h1 : 1 ≤ n) (h2 : n ≤ 65536) (l : -4611686018427387904 ≤ a) (m : a ≤ 4611686018427387904) (w : World) : Calls Tryz.prog 140 #[.int .i64 a, .int .i64 n] w fun e w' => e = .returned (.int .i64 (a / n)) ∧ w' = w := by
  have HX : Hid ((a - a % n).tdiv n = a / n) := over_is h1
  have hb := Int.emod_nonneg a (show n ≠ 0 by omega)
  have hc := Int.emod_lt_of_pos a (show (0:Int) < n by omega)
  have hq := Nm.tdiv_bd (a := a - a % n) (n := n) (l := -9223372036854775808) (h := 9223372036854775807) h1 (by omega) (by omega) (by omega) (by omega)
  have hw : IntKind.i64.wrap (a - a % n) = a - a % n := by rw [IntKind.wrap_i64]; omega
  have hw2 : IntKind.i64.wrap ((a - a % n).tdiv n) = (a - a % n).tdiv n := by rw [IntKind.wrap_i64]; omega
  have hn : ¬ n = 0 := by omega
  have hm := refModC a n h1 h2
  go_enter Tryz.func140, Tryz.ntmps140
  go_wp2_with (first | (go_at_call 132; refine (hm _).mono ?_; rintro e w' ⟨rfl, hw'⟩; subst w'))
  all_goals try (go_quiet (first | (go_at_call 132; refine Calls.quiet_of_same (hm _))); go_wp2)
  go_ret
  exact ⟨retI HX.out, rfl⟩
theorem refTileC (a n : Int) (h1 : 0 ≤ n) (h2 : n ≤ 65536) (l : -4611686018427387904 ≤ a) (m : a ≤ 4611686018427387904) (w : World) : Calls Tryz.prog 130 #[.int .i64 a, .int .i64 n] w fun e w' => e = .returned (.int .i64 (Nm.divZ a n)) ∧ w' = w := by
  cases h0 : (n == 0)
  · have h3 : 1 ≤ n := by have := beq_eq_false_iff_ne.1 h0; omega
    have hm := refOverC a n h3 h2 l m
    have HX : Hid (a / n = Nm.divZ a n) := (Nm.divZ_yes h3).symm
    go_enter Tryz.func130, Tryz.ntmps130
    go_wp2_with (first | (go_at_call 140; refine (hm _).mono ?_; rintro e w' ⟨rfl, hw'⟩; subst w'))
    go_ret
    exact ⟨retI HX.out, rfl⟩
  · have HX : Hid (Nm.divZ a n = 0) := by have := beq_iff_eq.1 h0; exact Nm.divZ_no (by omega)
    go_enter Tryz.func130, Tryz.ntmps130
    go_wp2
    go_ret
    exact ⟨retI HX.out.symm, rfl⟩
theorem refWithinC (a n : Int) (h1 : 0 ≤ n) (h2 : n ≤ 65536) (w : World) : Calls Tryz.prog 131 #[.int .i64 a, .int .i64 n] w fun e w' => e = .returned (.int .i64 (Fo.wi a n)) ∧ w' = w := by
  cases h0 : (n == 0)
  · have h3 : 1 ≤ n := by have := beq_eq_false_iff_ne.1 h0; omega
    have hm := refModC a n h3 h2
    have HX : Hid (a % n = Fo.wi a n) := (Fo.wi_pos h3).symm
    go_enter Tryz.func131, Tryz.ntmps131
    go_wp2_with (first | (go_at_call 132; refine (hm _).mono ?_; rintro e w' ⟨rfl, hw'⟩; subst w'))
    go_ret
    exact ⟨retI HX.out, rfl⟩
  · have HX : Hid (Fo.wi a n = a) := by have := beq_iff_eq.1 h0; subst this; exact Fo.wi_zero a
    go_enter Tryz.func131, Tryz.ntmps131
    go_wp2
    go_ret
    exact ⟨retI HX.out.symm, rfl⟩
theorem refOddC (a : Int) (w : World) : Calls Tryz.prog 133 #[.int .i64 a] w fun e w' => e = .returned (.bool (odB a)) ∧ w' = w := by
  have hm := refModC a 2 (by omega) (by omega)
  have HX : Hid ((a % 2 == 1) = odB a) := by
    unfold Hid odB
    by_cases q : a % 2 = 1
    · rw [decide_eq_true q]; exact beq_iff_eq.2 q
    · rw [decide_eq_false q]; exact beq_eq_false_iff_ne.2 q
  go_enter Tryz.func133, Tryz.ntmps133
  go_wp2_with (first | (go_at_call 132; refine (hm _).mono ?_; rintro e w' ⟨rfl, hw'⟩; subst w'))
  go_ret
  exact ⟨retB HX.out, rfl⟩
theorem refFirstC (n : Int) (h0 : 0 ≤ n) (h1 : n ≤ 65536) (w : World) : Calls Tryz.prog 103 #[.int .i64 n] w fun e w' => e = .returned (.int .i64 (To.fi n)) ∧ w' = w := by
  have h2 := To.half_is h0
  have h3 : IntKind.i64.wrap (-(n / 2)) = -(n / 2) := by rw [IntKind.wrap_i64]; omega
  have h4 : IntKind.i64.wrap (n / 2) = n / 2 := by rw [IntKind.wrap_i64]; omega
  go_enter Tryz.func103, Tryz.ntmps103
  go_wp2
  go_ret
  exact ⟨retI (by first | rfl | (unfold To.fi; omega)), rfl⟩
theorem refNear6 (n : Int) (w : World) : Calls Tryz.prog 116 #[.int .i64 n] w fun e w' => e = .returned (.bool (!To.frB n)) ∧ w' = w := by
  by_cases h1 : -1099511627776 ≤ n <;> by_cases h2 : n ≤ 1099511627776
  all_goals
    go_enter Tryz.func116, Tryz.ntmps116
    go_wp2
    all_goals go_ret
    all_goals refine ⟨retB ?_, rfl⟩
    all_goals unfold To.frB
    all_goals first
      | (rw [decide_eq_false (by omega : ¬ n < -1099511627776), decide_eq_false (by omega : ¬ 1099511627776 < n)]; first | rfl | (simp; omega))
      | (rw [decide_eq_false (by omega : ¬ n < -1099511627776), decide_eq_true (by omega : 1099511627776 < n)]; first | rfl | (simp; omega))
      | (rw [decide_eq_true (by omega : n < -1099511627776)]; first | rfl | (simp; omega))

/-- Is it a kind that is glued? -/
def glB (k : Int) : Bool := decide (k = 2 ∨ k = 3 ∨ k = 4)

theorem refGluedC (k x y t z : Int) (w : World) : Calls Tryz.prog 117 #[.agg #[.int .u8 k, .int .i64 x, .int .i64 y, .int .u8 t, .int .i64 z]] w fun e w' => e = .returned (.bool (glB k)) ∧ w.grownBy w' none := by
  obtain ⟨W1, hW1, sz1, g1, B1⟩ := boxn w #[.int .u8 k, .int .i64 x, .int .i64 y, .int .u8 t, .int .i64 z] 30
  have b1_1_0 := B1.cell 0 (v := .int .u8 k) rfl
  have b1_1_1 := B1.cell 1 (v := .int .i64 x) rfl
  have b1_1_2 := B1.cell 2 (v := .int .i64 y) rfl
  have b1_1_3 := B1.cell 3 (v := .int .u8 t) rfl
  have b1_1_4 := B1.cell 4 (v := .int .i64 z) rfl
  cases h1 : (k == 2) <;> cases h2 : (k == 3) <;> cases h3 : (k == 4)
  all_goals
    have HX : Hid (k = 2 ↔ (k == 2) = true) := beq_iff_eq.symm
    have HY : Hid (k = 3 ↔ (k == 3) = true) := beq_iff_eq.symm
    have HZ : Hid (k = 4 ↔ (k == 4) = true) := beq_iff_eq.symm
    go_enter Tryz.func117, Tryz.ntmps117
    go_wp2
    go_ret
    refine ⟨retB ?_, g1⟩
    unfold glB
    have a1 := HX.out
    have a2 := HY.out
    have a3 := HZ.out
    rw [h1] at a1
    rw [h2] at a2
    rw [h3] at a3
    first | (symm; exact decide_eq_true (by simp only [a1, a2, a3]; simp)) | (symm; exact decide_eq_false (by simp only [a1, a2, a3]; simp))

/-- Does a home number lie on the side, with so many places more at both ends? -/
def inB (u l n : Int) : Bool := decide (l = 0) || (decide (-n ≤ u) && decide (u < l + n))
theorem refInsideC (u l n : Int) (h1 : 0 ≤ l) (h2 : l ≤ 65536) (h3 : 0 ≤ n) (h4 : n ≤ 1) (w : World) : Calls Tryz.prog 104 #[.int .i64 u, .int .i64 l, .int .i64 n] w fun e w' => e = .returned (.bool (inB u l n)) ∧ w' = w := by
  have w1 : IntKind.i64.wrap (-n) = -n := by rw [IntKind.wrap_i64]; omega
  have w2 : IntKind.i64.wrap (l + n) = l + n := by rw [IntKind.wrap_i64]; omega
  cases h0 : (l == 0)
  · have e0 : decide (l = 0) = false := decide_eq_false (beq_eq_false_iff_ne.1 h0)
    by_cases q1 : -n ≤ u <;> by_cases q2 : u < l + n
    all_goals
      go_enter Tryz.func104, Tryz.ntmps104
      go_wp2
      all_goals go_ret
      all_goals refine ⟨retB ?_, rfl⟩
      all_goals unfold inB
      all_goals try rw [h0]
      all_goals rw [e0]
      all_goals first | (rw [decide_eq_true q1, decide_eq_true q2]; done) | (rw [decide_eq_true q1, decide_eq_false (by omega : ¬ u < l + n)]; done) | (rw [decide_eq_false (by omega : ¬ -n ≤ u)]; done) | (rw [decide_eq_true (by omega : -n ≤ u), decide_eq_true (by omega : u < l + n)]; rfl) | (rw [decide_eq_true (by omega : -n ≤ u), decide_eq_false (by omega : ¬ u < l + n)]; rfl) | (rw [decide_eq_false (by omega : ¬ -n ≤ u)]; rfl)
  · have e0 : decide (l = 0) = true := decide_eq_true (beq_iff_eq.1 h0)
    go_enter Tryz.func104, Tryz.ntmps104
    go_wp2
    go_ret
    refine ⟨retB ?_, rfl⟩
    unfold inB
    rw [e0]; rfl
end Go.Proofs.YthjiiljglgmkpaaGreatDoor.Fd
namespace Go.Proofs.YthjiiljglgmkpaaGreatDoor.Fd
open Go.RowKit
set_option linter.unusedVariables false
set_option linter.unusedSimpArgs false
set_option maxRecDepth 100000

set_option maxHeartbeats 1000000 in
theorem ringX (k x y t z a b E : Int) (hE : (E == 0) = false) (hl : ∀ w, Calls Tryz.prog 124 #[.agg #[.int .u8 k, .int .i64 x, .int .i64 y, .int .u8 t, .int .i64 z], .agg #[.int .i64 a, .int .i64 b]] w fun e w' => e = .returned (.tuple #[.agg #[.int .u8 0, .int .i64 0, .int .i64 0, .int .u8 0, .int .i64 0, .int .i64 0, .int .i64 0, .int .i64 0, .int .i64 0, .int .i64 0, .int .i64 0, .int .i64 0, .int .i64 0, .bool false], .int .i64 E]) ∧ w.grownBy w' none) (w : World) : Calls Tryz.prog 112 #[.agg #[.int .u8 k, .int .i64 x, .int .i64 y, .int .u8 t, .int .i64 z], .agg #[.int .i64 a, .int .i64 b]] w fun e w' => e = .returned (.tuple #[.agg #[.int .i64 0, .int .i64 0], .bool false, .int .i64 E]) ∧ w.grownBy w' none := by
  obtain ⟨fs, hfs⟩ := underP
  obtain ⟨W1, hW1, sz1, g1, B1⟩ := boxn w #[.int .u8 k, .int .i64 x, .int .i64 y, .int .u8 t, .int .i64 z] 30
  obtain ⟨W2, hW2, sz2, g2, B2⟩ := boxn W1 #[.int .i64 a, .int .i64 b] 135
  have G2 := gb_trans g1 g2
  have B1x := B1.kept g2 (by simp)
  obtain ⟨W3, hW3, sz3, g3, B3⟩ := boxn W2 #[.int .i64 0, .int .i64 0] 135
  have G3 := gb_trans G2 g3
  have B1xx := B1x.kept g3 (by simp)
  have B2x := B2.kept g3 (by simp)
  have b1_3_0 := B1xx.cell 0 (v := .int .u8 k) rfl
  have b1_3_1 := B1xx.cell 1 (v := .int .i64 x) rfl
  have b1_3_2 := B1xx.cell 2 (v := .int .i64 y) rfl
  have b1_3_3 := B1xx.cell 3 (v := .int .u8 t) rfl
  have b1_3_4 := B1xx.cell 4 (v := .int .i64 z) rfl
  have b2_3_0 := B2x.cell 0 (v := .int .i64 a) rfl
  have b2_3_1 := B2x.cell 1 (v := .int .i64 b) rfl
  have b3_3_0 := B3.cell 0 (v := .int .i64 0) rfl
  have b3_3_1 := B3.cell 1 (v := .int .i64 0) rfl
  have zb3_3_0 := B3.frozen 0
  have zb3_3_1 := B3.frozen 1
  go_enter Tryz.func112, Tryz.ntmps112
  go_wp2_with (first | (go_at_call 124; (fail_if_success (guard_hyp g4)); refine (hl _).mono ?_; rintro e w4 ⟨rfl, g4⟩; have G4 := gb_trans G3 g4; have B1xxx := B1xx.kept g4 (by simp); have B2xx := B2x.kept g4 (by simp); have B3x := B3.kept g4 (by simp); obtain ⟨W5, hW5, sz5, g5, B5⟩ := boxn w4 #[.int .u8 0, .int .i64 0, .int .i64 0, .int .u8 0, .int .i64 0, .int .i64 0, .int .i64 0, .int .i64 0, .int .i64 0, .int .i64 0, .int .i64 0, .int .i64 0, .int .i64 0, .bool false] 200; have G5 := gb_trans G4 g5; have B1xxxx := B1xxx.kept g5 (by simp); have B2xxx := B2xx.kept g5 (by simp); have B3xx := B3x.kept g5 (by simp); have sm5_0 := Bo.same B5 0 (v := .int .u8 0) rfl; have sm5_1 := Bo.same B5 1 (v := .int .i64 0) rfl; have sm5_2 := Bo.same B5 2 (v := .int .i64 0) rfl; have sm5_3 := Bo.same B5 3 (v := .int .u8 0) rfl; have sm5_4 := Bo.same B5 4 (v := .int .i64 0) rfl; have sm5_5 := Bo.same B5 5 (v := .int .i64 0) rfl; have sm5_6 := Bo.same B5 6 (v := .int .i64 0) rfl; have sm5_7 := Bo.same B5 7 (v := .int .i64 0) rfl; have sm5_8 := Bo.same B5 8 (v := .int .i64 0) rfl; have sm5_9 := Bo.same B5 9 (v := .int .i64 0) rfl; have sm5_10 := Bo.same B5 10 (v := .int .i64 0) rfl; have sm5_11 := Bo.same B5 11 (v := .int .i64 0) rfl; have sm5_12 := Bo.same B5 12 (v := .int .i64 0) rfl; have sm5_13 := Bo.same B5 13 (v := .bool false) rfl; have fz5_0 := B5.frozen 0; have fz5_1 := B5.frozen 1; have fz5_2 := B5.frozen 2; have fz5_3 := B5.frozen 3; have fz5_4 := B5.frozen 4; have fz5_5 := B5.frozen 5; have fz5_6 := B5.frozen 6; have fz5_7 := B5.frozen 7; have fz5_8 := B5.frozen 8; have fz5_9 := B5.frozen 9; have fz5_10 := B5.frozen 10; have fz5_11 := B5.frozen 11; have fz5_12 := B5.frozen 12; have fz5_13 := B5.frozen 13; clear b1_3_0 b1_3_1 b1_3_2 b1_3_3 b1_3_4 b2_3_0 b2_3_1 b3_3_0 b3_3_1 zb3_3_0 zb3_3_1; have b1_5_0 := B1xxxx.cell 0 (v := .int .u8 k) rfl; have b1_5_1 := B1xxxx.cell 1 (v := .int .i64 x) rfl; have b1_5_2 := B1xxxx.cell 2 (v := .int .i64 y) rfl; have b1_5_3 := B1xxxx.cell 3 (v := .int .u8 t) rfl; have b1_5_4 := B1xxxx.cell 4 (v := .int .i64 z) rfl; have b2_5_0 := B2xxx.cell 0 (v := .int .i64 a) rfl; have b2_5_1 := B2xxx.cell 1 (v := .int .i64 b) rfl; have b3_5_0 := B3xx.cell 0 (v := .int .i64 0) rfl; have b3_5_1 := B3xx.cell 1 (v := .int .i64 0) rfl; have zb3_5_0 := B3xx.frozen 0; have zb3_5_1 := B3xx.frozen 1; have b5_5_0 := B5.cell 0 (v := .int .u8 0) rfl; have b5_5_1 := B5.cell 1 (v := .int .i64 0) rfl; have b5_5_2 := B5.cell 2 (v := .int .i64 0) rfl; have b5_5_3 := B5.cell 3 (v := .int .u8 0) rfl; have b5_5_4 := B5.cell 4 (v := .int .i64 0) rfl; have b5_5_5 := B5.cell 5 (v := .int .i64 0) rfl; have b5_5_6 := B5.cell 6 (v := .int .i64 0) rfl; have b5_5_7 := B5.cell 7 (v := .int .i64 0) rfl; have b5_5_8 := B5.cell 8 (v := .int .i64 0) rfl; have b5_5_9 := B5.cell 9 (v := .int .i64 0) rfl; have b5_5_10 := B5.cell 10 (v := .int .i64 0) rfl; have b5_5_11 := B5.cell 11 (v := .int .i64 0) rfl; have b5_5_12 := B5.cell 12 (v := .int .i64 0) rfl; have b5_5_13 := B5.cell 13 (v := .bool false) rfl))
  refine ret_c3 (g := W2.heap.size) (cs := #[.int .i64 0, .int .i64 0]) rfl hfs infoP rfl (bo2 B3xx) rfl ⟨rfl, gb2 G5 G2.size⟩

set_option maxHeartbeats 1000000 in
theorem ringIn (k x y t z a b : Int) (u v i j : Int) (hl : ∀ w, Calls Tryz.prog 124 #[.agg #[.int .u8 k, .int .i64 x, .int .i64 y, .int .u8 t, .int .i64 z], .agg #[.int .i64 a, .int .i64 b]] w fun e w' => e = .returned (.tuple #[.agg #[.int .u8 k, .int .i64 x, .int .i64 y, .int .u8 t, .int .i64 z, .int .i64 (To.fi x), .int .i64 (To.fi y), .int .i64 x, .int .i64 y, .int .i64 u, .int .i64 v, .int .i64 i, .int .i64 j, .bool true], .int .i64 0]) ∧ w.grownBy w' none) (w : World) : Calls Tryz.prog 112 #[.agg #[.int .u8 k, .int .i64 x, .int .i64 y, .int .u8 t, .int .i64 z], .agg #[.int .i64 a, .int .i64 b]] w fun e w' => e = .returned (.tuple #[.agg #[.int .i64 a, .int .i64 b], .bool true, .int .i64 0]) ∧ w.grownBy w' none := by
  obtain ⟨fs, hfs⟩ := underP
  obtain ⟨W1, hW1, sz1, g1, B1⟩ := boxn w #[.int .u8 k, .int .i64 x, .int .i64 y, .int .u8 t, .int .i64 z] 30
  obtain ⟨W2, hW2, sz2, g2, B2⟩ := boxn W1 #[.int .i64 a, .int .i64 b] 135
  have G2 := gb_trans g1 g2
  have B1x := B1.kept g2 (by simp)
  obtain ⟨W3, hW3, sz3, g3, B3⟩ := boxn W2 #[.int .i64 0, .int .i64 0] 135
  have G3 := gb_trans G2 g3
  have B1xx := B1x.kept g3 (by simp)
  have B2x := B2.kept g3 (by simp)
  have b1_3_0 := B1xx.cell 0 (v := .int .u8 k) rfl
  have b1_3_1 := B1xx.cell 1 (v := .int .i64 x) rfl
  have b1_3_2 := B1xx.cell 2 (v := .int .i64 y) rfl
  have b1_3_3 := B1xx.cell 3 (v := .int .u8 t) rfl
  have b1_3_4 := B1xx.cell 4 (v := .int .i64 z) rfl
  have b2_3_0 := B2x.cell 0 (v := .int .i64 a) rfl
  have b2_3_1 := B2x.cell 1 (v := .int .i64 b) rfl
  have b3_3_0 := B3.cell 0 (v := .int .i64 0) rfl
  have b3_3_1 := B3.cell 1 (v := .int .i64 0) rfl
  have zb3_3_0 := B3.frozen 0
  have zb3_3_1 := B3.frozen 1
  go_enter Tryz.func112, Tryz.ntmps112
  go_wp2_with (first | (go_at_call 124; (fail_if_success (guard_hyp g4)); refine (hl _).mono ?_; rintro e w4 ⟨rfl, g4⟩; have G4 := gb_trans G3 g4; have B1xxx := B1xx.kept g4 (by simp); have B2xx := B2x.kept g4 (by simp); have B3x := B3.kept g4 (by simp); obtain ⟨W5, hW5, sz5, g5, B5⟩ := boxn w4 #[.int .u8 k, .int .i64 x, .int .i64 y, .int .u8 t, .int .i64 z, .int .i64 (To.fi x), .int .i64 (To.fi y), .int .i64 x, .int .i64 y, .int .i64 u, .int .i64 v, .int .i64 i, .int .i64 j, .bool true] 200; have G5 := gb_trans G4 g5; have B1xxxx := B1xxx.kept g5 (by simp); have B2xxx := B2xx.kept g5 (by simp); have B3xx := B3x.kept g5 (by simp); clear b1_3_0 b1_3_1 b1_3_2 b1_3_3 b1_3_4 b2_3_0 b2_3_1 b3_3_0 b3_3_1 zb3_3_0 zb3_3_1; have b1_5_0 := B1xxxx.cell 0 (v := .int .u8 k) rfl; have b1_5_1 := B1xxxx.cell 1 (v := .int .i64 x) rfl; have b1_5_2 := B1xxxx.cell 2 (v := .int .i64 y) rfl; have b1_5_3 := B1xxxx.cell 3 (v := .int .u8 t) rfl; have b1_5_4 := B1xxxx.cell 4 (v := .int .i64 z) rfl; have b2_5_0 := B2xxx.cell 0 (v := .int .i64 a) rfl; have b2_5_1 := B2xxx.cell 1 (v := .int .i64 b) rfl; have b3_5_0 := B3xx.cell 0 (v := .int .i64 0) rfl; have b3_5_1 := B3xx.cell 1 (v := .int .i64 0) rfl; have zb3_5_0 := B3xx.frozen 0; have zb3_5_1 := B3xx.frozen 1; have b5_5_0 := B5.cell 0 (v := .int .u8 k) rfl; have b5_5_1 := B5.cell 1 (v := .int .i64 x) rfl; have b5_5_2 := B5.cell 2 (v := .int .i64 y) rfl; have b5_5_3 := B5.cell 3 (v := .int .u8 t) rfl; have b5_5_4 := B5.cell 4 (v := .int .i64 z) rfl; have b5_5_5 := B5.cell 5 (v := .int .i64 (To.fi x)) rfl; have b5_5_6 := B5.cell 6 (v := .int .i64 (To.fi y)) rfl; have b5_5_7 := B5.cell 7 (v := .int .i64 x) rfl; have b5_5_8 := B5.cell 8 (v := .int .i64 y) rfl; have b5_5_9 := B5.cell 9 (v := .int .i64 u) rfl; have b5_5_10 := B5.cell 10 (v := .int .i64 v) rfl; have b5_5_11 := B5.cell 11 (v := .int .i64 i) rfl; have b5_5_12 := B5.cell 12 (v := .int .i64 j) rfl; have b5_5_13 := B5.cell 13 (v := .bool true) rfl))
  refine ret_c3 (g := W2.heap.size) (cs := #[.int .i64 a, .int .i64 b]) rfl hfs infoP rfl (bo2 B3xx) rfl ⟨rfl, gb2 G5 G2.size⟩

set_option maxHeartbeats 1000000 in
theorem ringOut (k x y t z a b : Int) (u v i j : Int) (hl : ∀ w, Calls Tryz.prog 124 #[.agg #[.int .u8 k, .int .i64 x, .int .i64 y, .int .u8 t, .int .i64 z], .agg #[.int .i64 a, .int .i64 b]] w fun e w' => e = .returned (.tuple #[.agg #[.int .u8 k, .int .i64 x, .int .i64 y, .int .u8 t, .int .i64 z, .int .i64 (To.fi x), .int .i64 (To.fi y), .int .i64 x, .int .i64 y, .int .i64 u, .int .i64 v, .int .i64 i, .int .i64 j, .bool false], .int .i64 0]) ∧ w.grownBy w' none) (h : (toB u x && toB v y) = false) (w : World) : Calls Tryz.prog 112 #[.agg #[.int .u8 k, .int .i64 x, .int .i64 y, .int .u8 t, .int .i64 z], .agg #[.int .i64 a, .int .i64 b]] w fun e w' => e = .returned (.tuple #[.agg #[.int .i64 0, .int .i64 0], .bool false, .int .i64 60]) ∧ w.grownBy w' none := by
  obtain ⟨fs, hfs⟩ := underP
  have hn := isNearC k x y t z u v i j false
  rw [h] at hn
  clear h
  obtain ⟨W1, hW1, sz1, g1, B1⟩ := boxn w #[.int .u8 k, .int .i64 x, .int .i64 y, .int .u8 t, .int .i64 z] 30
  obtain ⟨W2, hW2, sz2, g2, B2⟩ := boxn W1 #[.int .i64 a, .int .i64 b] 135
  have G2 := gb_trans g1 g2
  have B1x := B1.kept g2 (by simp)
  obtain ⟨W3, hW3, sz3, g3, B3⟩ := boxn W2 #[.int .i64 0, .int .i64 0] 135
  have G3 := gb_trans G2 g3
  have B1xx := B1x.kept g3 (by simp)
  have B2x := B2.kept g3 (by simp)
  have b1_3_0 := B1xx.cell 0 (v := .int .u8 k) rfl
  have b1_3_1 := B1xx.cell 1 (v := .int .i64 x) rfl
  have b1_3_2 := B1xx.cell 2 (v := .int .i64 y) rfl
  have b1_3_3 := B1xx.cell 3 (v := .int .u8 t) rfl
  have b1_3_4 := B1xx.cell 4 (v := .int .i64 z) rfl
  have b2_3_0 := B2x.cell 0 (v := .int .i64 a) rfl
  have b2_3_1 := B2x.cell 1 (v := .int .i64 b) rfl
  have b3_3_0 := B3.cell 0 (v := .int .i64 0) rfl
  have b3_3_1 := B3.cell 1 (v := .int .i64 0) rfl
  have zb3_3_0 := B3.frozen 0
  have zb3_3_1 := B3.frozen 1
  go_enter Tryz.func112, Tryz.ntmps112
  go_wp2_with (first | (go_at_call 124; (fail_if_success (guard_hyp g4)); refine (hl _).mono ?_; rintro e w4 ⟨rfl, g4⟩; have G4 := gb_trans G3 g4; have B1xxx := B1xx.kept g4 (by simp); have B2xx := B2x.kept g4 (by simp); have B3x := B3.kept g4 (by simp); obtain ⟨W5, hW5, sz5, g5, B5⟩ := boxn w4 #[.int .u8 k, .int .i64 x, .int .i64 y, .int .u8 t, .int .i64 z, .int .i64 (To.fi x), .int .i64 (To.fi y), .int .i64 x, .int .i64 y, .int .i64 u, .int .i64 v, .int .i64 i, .int .i64 j, .bool false] 200; have G5 := gb_trans G4 g5; have B1xxxx := B1xxx.kept g5 (by simp); have B2xxx := B2xx.kept g5 (by simp); have B3xx := B3x.kept g5 (by simp); have sm5_0 := Bo.same B5 0 (v := .int .u8 k) rfl; have sm5_1 := Bo.same B5 1 (v := .int .i64 x) rfl; have sm5_2 := Bo.same B5 2 (v := .int .i64 y) rfl; have sm5_3 := Bo.same B5 3 (v := .int .u8 t) rfl; have sm5_4 := Bo.same B5 4 (v := .int .i64 z) rfl; have sm5_5 := Bo.same B5 5 (v := .int .i64 (To.fi x)) rfl; have sm5_6 := Bo.same B5 6 (v := .int .i64 (To.fi y)) rfl; have sm5_7 := Bo.same B5 7 (v := .int .i64 x) rfl; have sm5_8 := Bo.same B5 8 (v := .int .i64 y) rfl; have sm5_9 := Bo.same B5 9 (v := .int .i64 u) rfl; have sm5_10 := Bo.same B5 10 (v := .int .i64 v) rfl; have sm5_11 := Bo.same B5 11 (v := .int .i64 i) rfl; have sm5_12 := Bo.same B5 12 (v := .int .i64 j) rfl; have sm5_13 := Bo.same B5 13 (v := .bool false) rfl; have fz5_0 := B5.frozen 0; have fz5_1 := B5.frozen 1; have fz5_2 := B5.frozen 2; have fz5_3 := B5.frozen 3; have fz5_4 := B5.frozen 4; have fz5_5 := B5.frozen 5; have fz5_6 := B5.frozen 6; have fz5_7 := B5.frozen 7; have fz5_8 := B5.frozen 8; have fz5_9 := B5.frozen 9; have fz5_10 := B5.frozen 10; have fz5_11 := B5.frozen 11; have fz5_12 := B5.frozen 12; have fz5_13 := B5.frozen 13; clear b1_3_0 b1_3_1 b1_3_2 b1_3_3 b1_3_4 b2_3_0 b2_3_1 b3_3_0 b3_3_1 zb3_3_0 zb3_3_1; have b1_5_0 := B1xxxx.cell 0 (v := .int .u8 k) rfl; have b1_5_1 := B1xxxx.cell 1 (v := .int .i64 x) rfl; have b1_5_2 := B1xxxx.cell 2 (v := .int .i64 y) rfl; have b1_5_3 := B1xxxx.cell 3 (v := .int .u8 t) rfl; have b1_5_4 := B1xxxx.cell 4 (v := .int .i64 z) rfl; have b2_5_0 := B2xxx.cell 0 (v := .int .i64 a) rfl; have b2_5_1 := B2xxx.cell 1 (v := .int .i64 b) rfl; have b3_5_0 := B3xx.cell 0 (v := .int .i64 0) rfl; have b3_5_1 := B3xx.cell 1 (v := .int .i64 0) rfl; have zb3_5_0 := B3xx.frozen 0; have zb3_5_1 := B3xx.frozen 1; have b5_5_0 := B5.cell 0 (v := .int .u8 k) rfl; have b5_5_1 := B5.cell 1 (v := .int .i64 x) rfl; have b5_5_2 := B5.cell 2 (v := .int .i64 y) rfl; have b5_5_3 := B5.cell 3 (v := .int .u8 t) rfl; have b5_5_4 := B5.cell 4 (v := .int .i64 z) rfl; have b5_5_5 := B5.cell 5 (v := .int .i64 (To.fi x)) rfl; have b5_5_6 := B5.cell 6 (v := .int .i64 (To.fi y)) rfl; have b5_5_7 := B5.cell 7 (v := .int .i64 x) rfl; have b5_5_8 := B5.cell 8 (v := .int .i64 y) rfl; have b5_5_9 := B5.cell 9 (v := .int .i64 u) rfl; have b5_5_10 := B5.cell 10 (v := .int .i64 v) rfl; have b5_5_11 := B5.cell 11 (v := .int .i64 i) rfl; have b5_5_12 := B5.cell 12 (v := .int .i64 j) rfl; have b5_5_13 := B5.cell 13 (v := .bool false) rfl) | (go_at_call 125; (fail_if_success (guard_hyp g6)); refine (hn _).mono ?_; rintro e w6 ⟨rfl, g6⟩; have G6 := gb_trans G5 g6; have B1xxxxx := B1xxxx.kept g6 (by simp); have B2xxxx := B2xxx.kept g6 (by simp); have B3xxx := B3xx.kept g6 (by simp); have B5x := B5.kept g6 (by simp); clear b1_5_0 b1_5_1 b1_5_2 b1_5_3 b1_5_4 b2_5_0 b2_5_1 b3_5_0 b3_5_1 zb3_5_0 zb3_5_1 b5_5_0 b5_5_1 b5_5_2 b5_5_3 b5_5_4 b5_5_5 b5_5_6 b5_5_7 b5_5_8 b5_5_9 b5_5_10 b5_5_11 b5_5_12 b5_5_13; have b1_6_0 := B1xxxxx.cell 0 (v := .int .u8 k) rfl; have b1_6_1 := B1xxxxx.cell 1 (v := .int .i64 x) rfl; have b1_6_2 := B1xxxxx.cell 2 (v := .int .i64 y) rfl; have b1_6_3 := B1xxxxx.cell 3 (v := .int .u8 t) rfl; have b1_6_4 := B1xxxxx.cell 4 (v := .int .i64 z) rfl; have b2_6_0 := B2xxxx.cell 0 (v := .int .i64 a) rfl; have b2_6_1 := B2xxxx.cell 1 (v := .int .i64 b) rfl; have b3_6_0 := B3xxx.cell 0 (v := .int .i64 0) rfl; have b3_6_1 := B3xxx.cell 1 (v := .int .i64 0) rfl; have zb3_6_0 := B3xxx.frozen 0; have zb3_6_1 := B3xxx.frozen 1; have b5_6_0 := B5x.cell 0 (v := .int .u8 k) rfl; have b5_6_1 := B5x.cell 1 (v := .int .i64 x) rfl; have b5_6_2 := B5x.cell 2 (v := .int .i64 y) rfl; have b5_6_3 := B5x.cell 3 (v := .int .u8 t) rfl; have b5_6_4 := B5x.cell 4 (v := .int .i64 z) rfl; have b5_6_5 := B5x.cell 5 (v := .int .i64 (To.fi x)) rfl; have b5_6_6 := B5x.cell 6 (v := .int .i64 (To.fi y)) rfl; have b5_6_7 := B5x.cell 7 (v := .int .i64 x) rfl; have b5_6_8 := B5x.cell 8 (v := .int .i64 y) rfl; have b5_6_9 := B5x.cell 9 (v := .int .i64 u) rfl; have b5_6_10 := B5x.cell 10 (v := .int .i64 v) rfl; have b5_6_11 := B5x.cell 11 (v := .int .i64 i) rfl; have b5_6_12 := B5x.cell 12 (v := .int .i64 j) rfl; have b5_6_13 := B5x.cell 13 (v := .bool false) rfl))
  refine ret_c3 (g := W2.heap.size) (cs := #[.int .i64 0, .int .i64 0]) rfl hfs infoP rfl (bo2 B3xxx) rfl ⟨rfl, gb2 G6 G2.size⟩

set_option maxHeartbeats 1000000 in
theorem ringB (k x y t z a b : Int) (u v i j : Int) (hl : ∀ w, Calls Tryz.prog 124 #[.agg #[.int .u8 k, .int .i64 x, .int .i64 y, .int .u8 t, .int .i64 z], .agg #[.int .i64 a, .int .i64 b]] w fun e w' => e = .returned (.tuple #[.agg #[.int .u8 k, .int .i64 x, .int .i64 y, .int .u8 t, .int .i64 z, .int .i64 (To.fi x), .int .i64 (To.fi y), .int .i64 x, .int .i64 y, .int .i64 u, .int .i64 v, .int .i64 i, .int .i64 j, .bool false], .int .i64 0]) ∧ w.grownBy w' none) (h : (toB u x && toB v y) = true) (P Q : Int) (B : Bool) (hb : ∀ w, Calls Tryz.prog 126 #[.agg #[.int .u8 k, .int .i64 x, .int .i64 y, .int .u8 t, .int .i64 z, .int .i64 (To.fi x), .int .i64 (To.fi y), .int .i64 x, .int .i64 y, .int .i64 u, .int .i64 v, .int .i64 i, .int .i64 j, .bool false]] w fun e w' => e = .returned (.tuple #[.agg #[.int .i64 P, .int .i64 Q], .bool B]) ∧ w.grownBy w' none) (w : World) : Calls Tryz.prog 112 #[.agg #[.int .u8 k, .int .i64 x, .int .i64 y, .int .u8 t, .int .i64 z], .agg #[.int .i64 a, .int .i64 b]] w fun e w' => e = .returned (.tuple #[.agg #[.int .i64 P, .int .i64 Q], .bool B, .int .i64 0]) ∧ w.grownBy w' none := by
  obtain ⟨fs, hfs⟩ := underP
  have hn := isNearC k x y t z u v i j false
  rw [h] at hn
  clear h
  obtain ⟨W1, hW1, sz1, g1, B1⟩ := boxn w #[.int .u8 k, .int .i64 x, .int .i64 y, .int .u8 t, .int .i64 z] 30
  obtain ⟨W2, hW2, sz2, g2, B2⟩ := boxn W1 #[.int .i64 a, .int .i64 b] 135
  have G2 := gb_trans g1 g2
  have B1x := B1.kept g2 (by simp)
  obtain ⟨W3, hW3, sz3, g3, B3⟩ := boxn W2 #[.int .i64 0, .int .i64 0] 135
  have G3 := gb_trans G2 g3
  have B1xx := B1x.kept g3 (by simp)
  have B2x := B2.kept g3 (by simp)
  have b1_3_0 := B1xx.cell 0 (v := .int .u8 k) rfl
  have b1_3_1 := B1xx.cell 1 (v := .int .i64 x) rfl
  have b1_3_2 := B1xx.cell 2 (v := .int .i64 y) rfl
  have b1_3_3 := B1xx.cell 3 (v := .int .u8 t) rfl
  have b1_3_4 := B1xx.cell 4 (v := .int .i64 z) rfl
  have b2_3_0 := B2x.cell 0 (v := .int .i64 a) rfl
  have b2_3_1 := B2x.cell 1 (v := .int .i64 b) rfl
  have b3_3_0 := B3.cell 0 (v := .int .i64 0) rfl
  have b3_3_1 := B3.cell 1 (v := .int .i64 0) rfl
  have zb3_3_0 := B3.frozen 0
  have zb3_3_1 := B3.frozen 1
  go_enter Tryz.func112, Tryz.ntmps112
  go_wp2_with (first | (go_at_call 124; (fail_if_success (guard_hyp g4)); refine (hl _).mono ?_; rintro e w4 ⟨rfl, g4⟩; have G4 := gb_trans G3 g4; have B1xxx := B1xx.kept g4 (by simp); have B2xx := B2x.kept g4 (by simp); have B3x := B3.kept g4 (by simp); obtain ⟨W5, hW5, sz5, g5, B5⟩ := boxn w4 #[.int .u8 k, .int .i64 x, .int .i64 y, .int .u8 t, .int .i64 z, .int .i64 (To.fi x), .int .i64 (To.fi y), .int .i64 x, .int .i64 y, .int .i64 u, .int .i64 v, .int .i64 i, .int .i64 j, .bool false] 200; have G5 := gb_trans G4 g5; have B1xxxx := B1xxx.kept g5 (by simp); have B2xxx := B2xx.kept g5 (by simp); have B3xx := B3x.kept g5 (by simp); have sm5_0 := Bo.same B5 0 (v := .int .u8 k) rfl; have sm5_1 := Bo.same B5 1 (v := .int .i64 x) rfl; have sm5_2 := Bo.same B5 2 (v := .int .i64 y) rfl; have sm5_3 := Bo.same B5 3 (v := .int .u8 t) rfl; have sm5_4 := Bo.same B5 4 (v := .int .i64 z) rfl; have sm5_5 := Bo.same B5 5 (v := .int .i64 (To.fi x)) rfl; have sm5_6 := Bo.same B5 6 (v := .int .i64 (To.fi y)) rfl; have sm5_7 := Bo.same B5 7 (v := .int .i64 x) rfl; have sm5_8 := Bo.same B5 8 (v := .int .i64 y) rfl; have sm5_9 := Bo.same B5 9 (v := .int .i64 u) rfl; have sm5_10 := Bo.same B5 10 (v := .int .i64 v) rfl; have sm5_11 := Bo.same B5 11 (v := .int .i64 i) rfl; have sm5_12 := Bo.same B5 12 (v := .int .i64 j) rfl; have sm5_13 := Bo.same B5 13 (v := .bool false) rfl; have fz5_0 := B5.frozen 0; have fz5_1 := B5.frozen 1; have fz5_2 := B5.frozen 2; have fz5_3 := B5.frozen 3; have fz5_4 := B5.frozen 4; have fz5_5 := B5.frozen 5; have fz5_6 := B5.frozen 6; have fz5_7 := B5.frozen 7; have fz5_8 := B5.frozen 8; have fz5_9 := B5.frozen 9; have fz5_10 := B5.frozen 10; have fz5_11 := B5.frozen 11; have fz5_12 := B5.frozen 12; have fz5_13 := B5.frozen 13; clear b1_3_0 b1_3_1 b1_3_2 b1_3_3 b1_3_4 b2_3_0 b2_3_1 b3_3_0 b3_3_1 zb3_3_0 zb3_3_1; have b1_5_0 := B1xxxx.cell 0 (v := .int .u8 k) rfl; have b1_5_1 := B1xxxx.cell 1 (v := .int .i64 x) rfl; have b1_5_2 := B1xxxx.cell 2 (v := .int .i64 y) rfl; have b1_5_3 := B1xxxx.cell 3 (v := .int .u8 t) rfl; have b1_5_4 := B1xxxx.cell 4 (v := .int .i64 z) rfl; have b2_5_0 := B2xxx.cell 0 (v := .int .i64 a) rfl; have b2_5_1 := B2xxx.cell 1 (v := .int .i64 b) rfl; have b3_5_0 := B3xx.cell 0 (v := .int .i64 0) rfl; have b3_5_1 := B3xx.cell 1 (v := .int .i64 0) rfl; have zb3_5_0 := B3xx.frozen 0; have zb3_5_1 := B3xx.frozen 1; have b5_5_0 := B5.cell 0 (v := .int .u8 k) rfl; have b5_5_1 := B5.cell 1 (v := .int .i64 x) rfl; have b5_5_2 := B5.cell 2 (v := .int .i64 y) rfl; have b5_5_3 := B5.cell 3 (v := .int .u8 t) rfl; have b5_5_4 := B5.cell 4 (v := .int .i64 z) rfl; have b5_5_5 := B5.cell 5 (v := .int .i64 (To.fi x)) rfl; have b5_5_6 := B5.cell 6 (v := .int .i64 (To.fi y)) rfl; have b5_5_7 := B5.cell 7 (v := .int .i64 x) rfl; have b5_5_8 := B5.cell 8 (v := .int .i64 y) rfl; have b5_5_9 := B5.cell 9 (v := .int .i64 u) rfl; have b5_5_10 := B5.cell 10 (v := .int .i64 v) rfl; have b5_5_11 := B5.cell 11 (v := .int .i64 i) rfl; have b5_5_12 := B5.cell 12 (v := .int .i64 j) rfl; have b5_5_13 := B5.cell 13 (v := .bool false) rfl) | (go_at_call 125; (fail_if_success (guard_hyp g6)); refine (hn _).mono ?_; rintro e w6 ⟨rfl, g6⟩; have G6 := gb_trans G5 g6; have B1xxxxx := B1xxxx.kept g6 (by simp); have B2xxxx := B2xxx.kept g6 (by simp); have B3xxx := B3xx.kept g6 (by simp); have B5x := B5.kept g6 (by simp); clear b1_5_0 b1_5_1 b1_5_2 b1_5_3 b1_5_4 b2_5_0 b2_5_1 b3_5_0 b3_5_1 zb3_5_0 zb3_5_1 b5_5_0 b5_5_1 b5_5_2 b5_5_3 b5_5_4 b5_5_5 b5_5_6 b5_5_7 b5_5_8 b5_5_9 b5_5_10 b5_5_11 b5_5_12 b5_5_13; have b1_6_0 := B1xxxxx.cell 0 (v := .int .u8 k) rfl; have b1_6_1 := B1xxxxx.cell 1 (v := .int .i64 x) rfl; have b1_6_2 := B1xxxxx.cell 2 (v := .int .i64 y) rfl; have b1_6_3 := B1xxxxx.cell 3 (v := .int .u8 t) rfl; have b1_6_4 := B1xxxxx.cell 4 (v := .int .i64 z) rfl; have b2_6_0 := B2xxxx.cell 0 (v := .int .i64 a) rfl; have b2_6_1 := B2xxxx.cell 1 (v := .int .i64 b) rfl; have b3_6_0 := B3xxx.cell 0 (v := .int .i64 0) rfl; have b3_6_1 := B3xxx.cell 1 (v := .int .i64 0) rfl; have zb3_6_0 := B3xxx.frozen 0; have zb3_6_1 := B3xxx.frozen 1; have b5_6_0 := B5x.cell 0 (v := .int .u8 k) rfl; have b5_6_1 := B5x.cell 1 (v := .int .i64 x) rfl; have b5_6_2 := B5x.cell 2 (v := .int .i64 y) rfl; have b5_6_3 := B5x.cell 3 (v := .int .u8 t) rfl; have b5_6_4 := B5x.cell 4 (v := .int .i64 z) rfl; have b5_6_5 := B5x.cell 5 (v := .int .i64 (To.fi x)) rfl; have b5_6_6 := B5x.cell 6 (v := .int .i64 (To.fi y)) rfl; have b5_6_7 := B5x.cell 7 (v := .int .i64 x) rfl; have b5_6_8 := B5x.cell 8 (v := .int .i64 y) rfl; have b5_6_9 := B5x.cell 9 (v := .int .i64 u) rfl; have b5_6_10 := B5x.cell 10 (v := .int .i64 v) rfl; have b5_6_11 := B5x.cell 11 (v := .int .i64 i) rfl; have b5_6_12 := B5x.cell 12 (v := .int .i64 j) rfl; have b5_6_13 := B5x.cell 13 (v := .bool false) rfl) | (go_at_call 126; (fail_if_success (guard_hyp g7)); refine (hb _).mono ?_; rintro e w7 ⟨rfl, g7⟩; have G7 := gb_trans G6 g7; have B1xxxxxx := B1xxxxx.kept g7 (by simp); have B2xxxxx := B2xxxx.kept g7 (by simp); have B3xxxx := B3xxx.kept g7 (by simp); have B5xx := B5x.kept g7 (by simp); obtain ⟨W8, hW8, sz8, g8, B8⟩ := boxn w7 #[.int .i64 P, .int .i64 Q] 135; have G8 := gb_trans G7 g8; have B1xxxxxxx := B1xxxxxx.kept g8 (by simp); have B2xxxxxx := B2xxxxx.kept g8 (by simp); have B3xxxxx := B3xxxx.kept g8 (by simp); have B5xxx := B5xx.kept g8 (by simp); have sm8_0 := Bo.same B8 0 (v := .int .i64 P) rfl; have sm8_1 := Bo.same B8 1 (v := .int .i64 Q) rfl; have fz8_0 := B8.frozen 0; have fz8_1 := B8.frozen 1; clear b1_6_0 b1_6_1 b1_6_2 b1_6_3 b1_6_4 b2_6_0 b2_6_1 b3_6_0 b3_6_1 zb3_6_0 zb3_6_1 b5_6_0 b5_6_1 b5_6_2 b5_6_3 b5_6_4 b5_6_5 b5_6_6 b5_6_7 b5_6_8 b5_6_9 b5_6_10 b5_6_11 b5_6_12 b5_6_13; have b1_8_0 := B1xxxxxxx.cell 0 (v := .int .u8 k) rfl; have b1_8_1 := B1xxxxxxx.cell 1 (v := .int .i64 x) rfl; have b1_8_2 := B1xxxxxxx.cell 2 (v := .int .i64 y) rfl; have b1_8_3 := B1xxxxxxx.cell 3 (v := .int .u8 t) rfl; have b1_8_4 := B1xxxxxxx.cell 4 (v := .int .i64 z) rfl; have b2_8_0 := B2xxxxxx.cell 0 (v := .int .i64 a) rfl; have b2_8_1 := B2xxxxxx.cell 1 (v := .int .i64 b) rfl; have b3_8_0 := B3xxxxx.cell 0 (v := .int .i64 0) rfl; have b3_8_1 := B3xxxxx.cell 1 (v := .int .i64 0) rfl; have zb3_8_0 := B3xxxxx.frozen 0; have zb3_8_1 := B3xxxxx.frozen 1; have b5_8_0 := B5xxx.cell 0 (v := .int .u8 k) rfl; have b5_8_1 := B5xxx.cell 1 (v := .int .i64 x) rfl; have b5_8_2 := B5xxx.cell 2 (v := .int .i64 y) rfl; have b5_8_3 := B5xxx.cell 3 (v := .int .u8 t) rfl; have b5_8_4 := B5xxx.cell 4 (v := .int .i64 z) rfl; have b5_8_5 := B5xxx.cell 5 (v := .int .i64 (To.fi x)) rfl; have b5_8_6 := B5xxx.cell 6 (v := .int .i64 (To.fi y)) rfl; have b5_8_7 := B5xxx.cell 7 (v := .int .i64 x) rfl; have b5_8_8 := B5xxx.cell 8 (v := .int .i64 y) rfl; have b5_8_9 := B5xxx.cell 9 (v := .int .i64 u) rfl; have b5_8_10 := B5xxx.cell 10 (v := .int .i64 v) rfl; have b5_8_11 := B5xxx.cell 11 (v := .int .i64 i) rfl; have b5_8_12 := B5xxx.cell 12 (v := .int .i64 j) rfl; have b5_8_13 := B5xxx.cell 13 (v := .bool false) rfl; have b8_8_0 := B8.cell 0 (v := .int .i64 P) rfl; have b8_8_1 := B8.cell 1 (v := .int .i64 Q) rfl))
  refine ret_c3 (g := W2.heap.size) (cs := #[.int .i64 P, .int .i64 Q]) rfl hfs infoP rfl (bo2 B3xxxxx) rfl ⟨rfl, gb2 G8 G2.size⟩
end Go.Proofs.YthjiiljglgmkpaaGreatDoor.Fd
namespace Go.Proofs.YthjiiljglgmkpaaGreatDoor.Fd
open Go.RowKit
set_option linter.unusedVariables false
set_option linter.unusedSimpArgs false
set_option maxRecDepth 100000

/-- Is a place one of the grid? -/
def giB (x y a b : Int) : Bool := To.liB a x && To.liB b y
/-- What Cell answers: the error, and the place. -/
def ceE (k x y t z a b : Int) : Int := if Tp.chk k x y t z = 0 then (if (To.frB a || To.frB b) = true then 5 else if glB k = false ∧ giB x y a b = false then 60 else 0) else 9
def ceX (k x y t z a b : Int) : Int := if glB k then Fo.cx k x y t z (a - To.fi x) (b - To.fi y) + To.fi x else a
def ceY (k x y t z a b : Int) : Int := if glB k then Fo.cy k x y t z (a - To.fi x) (b - To.fi y) + To.fi y else b
def ceV (k x y t z a b : Int) : Array Value := if ceE k x y t z a b = 0 then #[.int .i64 (ceX k x y t z a b), .int .i64 (ceY k x y t z a b)] else #[.int .i64 0, .int .i64 0]
theorem li_iff {n l : Int} : To.liB n l = true ↔ l = 0 ∨ (0 ≤ n - To.fi l ∧ n - To.fi l < l) := by
  unfold To.liB
  simp only [Bool.or_eq_true, Bool.and_eq_true, decide_eq_true_eq]
  omega
theorem gl_iff {k : Int} : glB k = true ↔ k = 2 ∨ k = 3 ∨ k = 4 := by unfold glB; exact decide_eq_true_iff
theorem fr_bd {a : Int} (h : To.frB a = false) : -1099511627776 ≤ a ∧ a ≤ 1099511627776 := by unfold To.frB at h; simp at h; omega
theorem ce_zero {k x y t z a b : Int} (h : ceE k x y t z a b ≠ 0) : ceV k x y t z a b = #[.int .i64 0, .int .i64 0] := if_neg h
theorem ce_yes {k x y t z a b : Int} (h : ceE k x y t z a b = 0) : ceV k x y t z a b = #[.int .i64 (ceX k x y t z a b), .int .i64 (ceY k x y t z a b)] := if_pos h
theorem lookE (k x y t z a b : Int) (ht : 0 ≤ t) (h : Tp.chk k x y t z = 0) (h1 : To.frB a = false) (h2 : To.frB b = false) (w : World) :
    Calls Tryz.prog 124 #[.agg #[.int .u8 k, .int .i64 x, .int .i64 y, .int .u8 t, .int .i64 z], .agg #[.int .i64 a, .int .i64 b]] w fun e w' => e = .returned (.tuple #[.agg #[.int .u8 k, .int .i64 x, .int .i64 y, .int .u8 t, .int .i64 z, .int .i64 (To.fi x), .int .i64 (To.fi y), .int .i64 x, .int .i64 y, .int .i64 (a - To.fi x), .int .i64 (b - To.fi y), .int .i64 (Nm.divZ (a - To.fi x) x), .int .i64 (Nm.divZ (b - To.fi y) y), .bool (giB x y a b)], .int .i64 0]) ∧ w.grownBy w' none := lookYes k x y t z a b ht h h1 h2 _ _ rfl rfl w
theorem lookF (k x y t z a b : Int) (ht : 0 ≤ t) (h : Tp.chk k x y t z = 0) (h1 : (To.frB a || To.frB b) = true) (w : World) :
    Calls Tryz.prog 124 #[.agg #[.int .u8 k, .int .i64 x, .int .i64 y, .int .u8 t, .int .i64 z], .agg #[.int .i64 a, .int .i64 b]] w fun e w' => e = .returned (.tuple #[.agg #[.int .u8 0, .int .i64 0, .int .i64 0, .int .u8 0, .int .i64 0, .int .i64 0, .int .i64 0, .int .i64 0, .int .i64 0, .int .i64 0, .int .i64 0, .int .i64 0, .int .i64 0, .bool false], .int .i64 5]) ∧ w.grownBy w' none := lookFar k x y t z a b ht h h1 w
/-- What Same answers: the error, and whether. -/
def saE (k x y t z a b a2 b2 : Int) : Int := if Tp.chk k x y t z = 0 then (if (To.frB a || To.frB b) = true then 5 else if (To.frB a2 || To.frB b2) = true then 5 else if ceE k x y t z a b = 0 then ceE k x y t z a2 b2 else ceE k x y t z a b) else 9
def saB (k x y t z a b a2 b2 : Int) : Bool := decide (saE k x y t z a b a2 b2 = 0) && (decide (ceX k x y t z a b = ceX k x y t z a2 b2) && decide (ceY k x y t z a b = ceY k x y t z a2 b2))
/-- What Ring answers: the error, whether it is a cell, the place. -/
def riN (x y a b : Int) : Bool := toB (a - To.fi x) x && toB (b - To.fi y) y
def riE (k x y t z a b : Int) : Int := if Tp.chk k x y t z = 0 then (if (To.frB a || To.frB b) = true then 5 else if giB x y a b = true then 0 else if riN x y a b = true then 0 else 60) else 9
def riB (k x y t z a b : Int) : Bool := decide (riE k x y t z a b = 0) && (giB x y a b || decide (k ≠ 1))
def riX (k x y t z a b : Int) : Int := if giB x y a b then a else if k = 5 then Nm.nearZ (b - To.fi y) 0 (y - 1) + To.fi x else Fo.cx k x y t z (a - To.fi x) (b - To.fi y) + To.fi x
def riY (k x y t z a b : Int) : Int := if giB x y a b then b else if k = 5 then Nm.nearZ (a - To.fi x) 0 (x - 1) + To.fi y else Fo.cy k x y t z (a - To.fi x) (b - To.fi y) + To.fi y
def riV (k x y t z a b : Int) : Array Value := if riB k x y t z a b then #[.int .i64 (riX k x y t z a b), .int .i64 (riY k x y t z a b)] else #[.int .i64 0, .int .i64 0]
theorem riV_no {k x y t z a b : Int} (h : riB k x y t z a b = false) : riV k x y t z a b = #[.int .i64 0, .int .i64 0] := by unfold riV; rw [h]; rfl
theorem riV_yes {k x y t z a b : Int} (h : riB k x y t z a b = true) : riV k x y t z a b = #[.int .i64 (riX k x y t z a b), .int .i64 (riY k x y t z a b)] := by unfold riV; rw [h]; rfl
theorem ringC (k x y t z a b : Int) (ht : 0 ≤ t) (w : World) : Calls Tryz.prog 112 #[.agg #[.int .u8 k, .int .i64 x, .int .i64 y, .int .u8 t, .int .i64 z], .agg #[.int .i64 a, .int .i64 b]] w fun e w' => e = .returned (.tuple #[.agg (riV k x y t z a b), .bool (riB k x y t z a b), .int .i64 (riE k x y t z a b)]) ∧ w.grownBy w' none := by
  by_cases h : Tp.chk k x y t z = 0
  · cases hf : (To.frB a || To.frB b)
    · have h1 := Bool.or_eq_false_iff.1 hf
      have ok := Tp.ok_of h
      have hx := ok.wide
      have hy := ok.high
      have bx := fi_bd hx
      have by' := fi_bd hy
      have ba := fr_bd h1.1
      have bb := fr_bd h1.2
      have hkk := ok.kind
      have l1 := lookE k x y t z a b ht h h1.1 h1.2
      have e0 : riE k x y t z a b = if giB x y a b = true then 0 else if riN x y a b = true then 0 else 60 := by unfold riE; rw [if_pos h, if_neg (by rw [hf]; decide)]
      cases hg : giB x y a b
      · rw [hg] at e0 l1
        rw [if_neg (by decide)] at e0
        cases hr : riN x y a b
        · rw [hr, if_neg (by decide)] at e0
          have e1 : riB k x y t z a b = false := by unfold riB; rw [e0]; rfl
          rw [riV_no e1, e1, e0]
          exact ringOut k x y t z a b _ _ _ _ l1 hr w
        · rw [hr, if_pos rfl] at e0
          by_cases k1 : k = 1
          · subst k1
            have e1 : riB 1 x y t z a b = false := by unfold riB; rw [hg]; simp
            rw [riV_no e1, e1, e0]
            exact ringB 1 x y t z a b _ _ _ _ l1 hr _ _ _ (beyondP x y t z _ _ false) w
          · have e1 : riB k x y t z a b = true := by unfold riB; rw [e0]; simp [k1]
            rw [riV_yes e1, e1, e0]
            unfold riX riY
            rw [hg]
            simp only [Bool.false_eq_true, if_false]
            by_cases k5 : k = 5
            · subst k5
              rw [if_pos rfl, if_pos rfl]
              exact ringB 5 x y t z a b _ _ _ _ l1 hr _ _ _ (beyondB x y t z _ _ false hx hy (by omega) (by omega)) w
            · rw [if_neg k5, if_neg k5]
              exact ringB k x y t z a b _ _ _ _ l1 hr _ _ _ (beyondG k x y t z _ _ false ht ok (by omega) (by omega) (by omega)) w
      · rw [hg] at e0 l1
        rw [if_pos rfl] at e0
        have e1 : riB k x y t z a b = true := by unfold riB; rw [e0, hg]; simp
        rw [riV_yes e1, e1, e0]
        unfold riX riY
        rw [hg, if_pos rfl, if_pos rfl]
        exact ringIn k x y t z a b _ _ _ _ l1 w
    · have e0 : riE k x y t z a b = 5 := by unfold riE; rw [if_pos h, if_pos hf]
      have e1 : riB k x y t z a b = false := by unfold riB; rw [e0]; rfl
      rw [riV_no e1, e1, e0]
      exact ringX k x y t z a b 5 rfl (lookF k x y t z a b ht h hf) w
  · have e0 : riE k x y t z a b = 9 := by unfold riE; rw [if_neg h]
    have e1 : riB k x y t z a b = false := by unfold riB; rw [e0]; rfl
    rw [riV_no e1, e1, e0]
    exact ringX k x y t z a b 9 rfl (lookNo k x y t z a b ht h) w
end Go.Proofs.YthjiiljglgmkpaaGreatDoor.Fd
