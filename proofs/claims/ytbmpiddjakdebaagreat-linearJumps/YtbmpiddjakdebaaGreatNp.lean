/- The document's mod, div, Place. -/
import Derived.Test.YtbmpiddjakdebaaGreatNk
namespace Go.Proofs.YtbmpiddjakdebaaGreat
open Go.RowKit
set_option linter.unusedVariables false
set_option linter.unusedSimpArgs false
set_option maxRecDepth 100000

namespace Ln
theorem tmod_up {a n : Int} (hn : 1 ≤ n) : Int.tmod (Int.tmod a n + n) n = a % n := by
  have h1 := Int.tmod_lt_of_pos a (show 0 < n by omega)
  have h2 := Int.lt_tmod_of_pos a (show 0 < n by omega)
  rw [Int.tmod_eq_emod_of_nonneg (by omega), Int.add_emod_right]
  have e := Int.tmod_add_mul_tdiv a n
  conv => rhs; rw [← e]
  rw [Int.add_mul_emod_self_left]
theorem modC (a n : Int) (hn : 1 ≤ n ∧ n ≤ 65536) (w : World) : Calls Tryz.prog 49 #[.int .i64 a, .int .i64 n] w fun e w' => e = .returned (.int .i64 (a % n)) ∧ w' = w := by
  have h1 := Int.tmod_lt_of_pos a (show 0 < n by omega)
  have h2 := Int.lt_tmod_of_pos a (show 0 < n by omega)
  have h3 := tmod_up (a := a) hn.1
  obtain ⟨r, hr⟩ : ∃ r, Int.tmod a n = r := ⟨_, rfl⟩
  rw [hr] at h1 h2 h3
  have w1 : IntKind.i64.wrap (r + n) = r + n := by rw [IntKind.wrap_i64]; omega
  obtain ⟨q, hq⟩ : ∃ q, a % n = q := ⟨_, rfl⟩
  rw [hq] at h3 ⊢
  have hn0 : (n == 0) = false := by simp; omega
  have hn1 : ¬ n = 0 := by omega
  clear hq
  go_enter Tryz.func49, Tryz.ntmps49
  go_wp2
  go_ret
  exact ⟨rfl, rfl⟩
theorem divC (a n : Int) (hn : 1 ≤ n ∧ n ≤ 65536) (ha : -4611686018427387904 ≤ a ∧ a ≤ 4611686018427387904) (w : World) : Calls Tryz.prog 48 #[.int .i64 a, .int .i64 n] w fun e w' => e = .returned (.int .i64 (a / n)) ∧ w' = w := by
  have kM := modC a n hn
  have e := Int.emod_add_mul_ediv a n
  have b1 := Int.emod_nonneg a (show n ≠ 0 by omega)
  have b2 := Int.emod_lt_of_pos a (show 0 < n by omega)
  have hd : Int.tdiv (a - a % n) n = a / n := by
    rw [show a - a % n = n * (a / n) by omega, Int.mul_tdiv_cancel_left _ (by omega)]
  obtain ⟨m, hm⟩ : ∃ m, a % n = m := ⟨_, rfl⟩
  obtain ⟨q, hq⟩ : ∃ q, a / n = q := ⟨_, rfl⟩
  rw [hm] at kM b1 b2 hd
  rw [hq] at hd ⊢
  have w1 : IntKind.i64.wrap (a - m) = a - m := by rw [IntKind.wrap_i64]; omega
  have hqb : -4611686018427387904 ≤ q ∧ q ≤ 4611686018427387904 := by
    rw [← hq, ← divZ_pos hn.1]
    exact Nm.divZ_bd ha.1 ha.2 (by omega) (by omega)
  have w2 : IntKind.i64.wrap q = q := by rw [IntKind.wrap_i64]; omega
  have hn0 : (n == 0) = false := by simp; omega
  have hn1 : ¬ n = 0 := by omega
  have kM' := fun w1 => kM w1
  clear hm hq e
  go_enter Tryz.func48, Tryz.ntmps48
  go_wp2_with (first | (go_at_call 49; refine (kM' _).mono ?_; rintro e w' ⟨rfl, hw'⟩; subst w') | go_in)
  go_ret
  exact ⟨rfl, rfl⟩
/-- The number of a place's cell, by rows. -/
def plU (x y t z a b : Int) : Int := if t = 1 then a + x / 2 - (b + y / 2) / y * z else a + x / 2
def plV (x y t z a b : Int) : Int := if t = 2 then b + y / 2 - (a + x / 2) / x * z else b + y / 2
def plN (x y t z a b : Int) : Int := plV x y t z a b % y * x + plU x y t z a b % x
/-- What Place asks for: small numbers. -/
structure PlOk (x y t z a b : Int) : Prop where
  hx : 1 ≤ x ∧ x ≤ 65536
  hy : 1 ≤ y ∧ y ≤ 65536
  ha : -2199023255552 ≤ a ∧ a ≤ 2199023255552
  hb : -2199023255552 ≤ b ∧ b ≤ 2199023255552
  tn : t = 0 ∨ t = 1 ∨ t = 2
  m1 : -1152921504606846976 ≤ (b + y / 2) / y * z ∧ (b + y / 2) / y * z ≤ 1152921504606846976
  m2 : -1152921504606846976 ≤ (a + x / 2) / x * z ∧ (a + x / 2) / x * z ≤ 1152921504606846976
set_option maxHeartbeats 2000000 in
theorem placeC (k x y t z a b : Int) (h : PlOk x y t z a b) (w : World) : Calls Tryz.prog 25 #[.agg #[.int .u8 k, .int .i64 x, .int .i64 y, .int .u8 t, .int .i64 z], .int .i64 a, .int .i64 b] w fun e w' => e = .returned (.int .i64 (plN x y t z a b)) ∧ w.grownBy w' none := by
  obtain ⟨hx, hy, ha, hb, tn, m1, m2⟩ := h
  obtain ⟨W1, hW1, sz1, g1, B1⟩ := boxn w #[.int .u8 k, .int .i64 x, .int .i64 y, .int .u8 t, .int .i64 z] 23
  have q1 : Int.tdiv x 2 = x / 2 := Int.tdiv_eq_ediv_of_nonneg (by omega)
  have q2 : Int.tdiv y 2 = y / 2 := Int.tdiv_eq_ediv_of_nonneg (by omega)
  obtain ⟨u, hu⟩ : ∃ u, a + x / 2 = u := ⟨_, rfl⟩
  obtain ⟨v, hv⟩ : ∃ v, b + y / 2 = v := ⟨_, rfl⟩
  have hub : -2199023255552 ≤ u ∧ u ≤ 2199023288320 := by omega
  have hvb : -2199023255552 ≤ v ∧ v ≤ 2199023288320 := by omega
  have wh1 : IntKind.i64.wrap (x / 2) = x / 2 := by rw [IntKind.wrap_i64]; omega
  have wh2 : IntKind.i64.wrap (y / 2) = y / 2 := by rw [IntKind.wrap_i64]; omega
  have wu : IntKind.i64.wrap (a + x / 2) = u := by rw [hu, IntKind.wrap_i64]; omega
  have wv : IntKind.i64.wrap (b + y / 2) = v := by rw [hv, IntKind.wrap_i64]; omega
  unfold plN plU plV
  rw [hu, hv]
  rw [hv] at m1
  rw [hu] at m2
  clear hu hv
  have kd1 := fun w1 => divC v y hy (by omega) w1
  have kd2 := fun w1 => divC u x hx (by omega) w1
  have kmx := fun (c : Int) w1 => modC c x hx w1
  have kmy := fun (c : Int) w1 => modC c y hy w1
  obtain ⟨d1, hd1⟩ : ∃ d, v / y = d := ⟨_, rfl⟩
  obtain ⟨d2, hd2⟩ : ∃ d, u / x = d := ⟨_, rfl⟩
  rw [hd1] at kd1 m1
  rw [hd2] at kd2 m2
  rw [hd1, hd2]
  clear hd1 hd2
  rcases tn with rfl | rfl | rfl
  · rw [if_neg (by omega), if_neg (by omega)]
    have hU : u = u := rfl
    have hV : v = v := rfl
    have b1 := Int.emod_nonneg v (show y ≠ 0 by omega)
    have b2 := Int.emod_lt_of_pos v (show 0 < y by omega)
    have b3 := Int.emod_nonneg u (show x ≠ 0 by omega)
    have b4 := Int.emod_lt_of_pos u (show 0 < x by omega)
    have k1 := kmy v
    have k2 := kmx u
    obtain ⟨r1, hr1⟩ : ∃ r, v % y = r := ⟨_, rfl⟩
    obtain ⟨r2, hr2⟩ : ∃ r, u % x = r := ⟨_, rfl⟩
    rw [hr1] at b1 b2 k1 ⊢
    rw [hr2] at b3 b4 k2 ⊢
    have hmul : 0 ≤ r1 * x ∧ r1 * x ≤ 65536 * 65536 := ⟨Int.mul_nonneg b1 (by omega), Int.mul_le_mul (by omega) hx.2 (by omega) (by omega)⟩
    have w3 : IntKind.i64.wrap (r1 * x) = r1 * x := by rw [IntKind.wrap_i64]; omega
    have w4 : IntKind.i64.wrap (r1 * x + r2) = r1 * x + r2 := by rw [IntKind.wrap_i64]; omega
    clear hr1 hr2 kmx kmy
    have c0 := B1.cell 0 (v := .int .u8 k) rfl; have c1 := B1.cell 1 (v := .int .i64 x) rfl; have c2 := B1.cell 2 (v := .int .i64 y) rfl; have c3 := B1.cell 3 (v := .int .u8 0) rfl; have c4 := B1.cell 4 (v := .int .i64 z) rfl
    go_enter Tryz.func25, Tryz.ntmps25
    go_wp2
    go_quiet (fail)
    have Bd := B1.kept (gb_drewN (World.grownBy.refl W1 none) nq) (by simp)
    have gd := gb_drewN g1 nq
    generalize W1.drewN nq = wd at Bd gd ⊢
    have m0 := Bd.cell 0 (v := .int .u8 k) rfl; have m1 := Bd.cell 1 (v := .int .i64 x) rfl; have m2 := Bd.cell 2 (v := .int .i64 y) rfl; have m3 := Bd.cell 3 (v := .int .u8 0) rfl; have m4 := Bd.cell 4 (v := .int .i64 z) rfl
    go_wp2
    go_region_held2 (fun w' => w'.cell? ⟨w.heap.size, 0, none⟩ = some (.int .u8 k) ∧ w'.cell? ⟨w.heap.size, 1, none⟩ = some (.int .i64 x) ∧ w'.cell? ⟨w.heap.size, 2, none⟩ = some (.int .i64 y) ∧ w'.cell? ⟨w.heap.size, 3, none⟩ = some (.int .u8 0) ∧ w'.cell? ⟨w.heap.size, 4, none⟩ = some (.int .i64 z)) (go_keep) (first | (go_at_call 49; (fail_if_success (guard_hyp mk)); refine (k1 _).mono ?_; rintro e w' ⟨rfl, hw'⟩; subst w'; have mk : True := trivial) | (go_at_call 49; refine (k2 _).mono ?_; rintro e w' ⟨rfl, hw'⟩; subst w'))
    all_goals go_wp2
    all_goals go_ret
    all_goals exact ⟨rfl, by first | exact gb_drew gd | exact gd | exact gb_drew ge | exact ge | exact gb_drewN gd _⟩
  · rw [if_neg (by omega), if_pos rfl]
    obtain ⟨u1, hu1⟩ : ∃ c, u - d1 * z = c := ⟨_, rfl⟩
    have hw5 : IntKind.i64.wrap (d1 * z) = d1 * z := by rw [IntKind.wrap_i64]; omega
    have hw6 : IntKind.i64.wrap (u - d1 * z) = u1 := by rw [IntKind.wrap_i64]; omega
    rw [hu1]
    clear hu1
    have b1 := Int.emod_nonneg v (show y ≠ 0 by omega)
    have b2 := Int.emod_lt_of_pos v (show 0 < y by omega)
    have b3 := Int.emod_nonneg u1 (show x ≠ 0 by omega)
    have b4 := Int.emod_lt_of_pos u1 (show 0 < x by omega)
    have k1 := kmy v
    have k2 := kmx u1
    obtain ⟨r1, hr1⟩ : ∃ r, v % y = r := ⟨_, rfl⟩
    obtain ⟨r2, hr2⟩ : ∃ r, u1 % x = r := ⟨_, rfl⟩
    rw [hr1] at b1 b2 k1 ⊢
    rw [hr2] at b3 b4 k2 ⊢
    have hmul : 0 ≤ r1 * x ∧ r1 * x ≤ 65536 * 65536 := ⟨Int.mul_nonneg b1 (by omega), Int.mul_le_mul (by omega) hx.2 (by omega) (by omega)⟩
    have w3 : IntKind.i64.wrap (r1 * x) = r1 * x := by rw [IntKind.wrap_i64]; omega
    have w4 : IntKind.i64.wrap (r1 * x + r2) = r1 * x + r2 := by rw [IntKind.wrap_i64]; omega
    clear hr1 hr2 kmx kmy
    have c0 := B1.cell 0 (v := .int .u8 k) rfl; have c1 := B1.cell 1 (v := .int .i64 x) rfl; have c2 := B1.cell 2 (v := .int .i64 y) rfl; have c3 := B1.cell 3 (v := .int .u8 1) rfl; have c4 := B1.cell 4 (v := .int .i64 z) rfl
    go_enter Tryz.func25, Tryz.ntmps25
    go_wp2
    go_quiet (fail)
    have Bd := B1.kept (gb_drewN (World.grownBy.refl W1 none) nq) (by simp)
    have gd := gb_drewN g1 nq
    generalize W1.drewN nq = wd at Bd gd ⊢
    have m0 := Bd.cell 0 (v := .int .u8 k) rfl; have m1 := Bd.cell 1 (v := .int .i64 x) rfl; have m2 := Bd.cell 2 (v := .int .i64 y) rfl; have m3 := Bd.cell 3 (v := .int .u8 1) rfl; have m4 := Bd.cell 4 (v := .int .i64 z) rfl
    go_wp2
    go_region_held2 (fun w' => w'.cell? ⟨w.heap.size, 0, none⟩ = some (.int .u8 k) ∧ w'.cell? ⟨w.heap.size, 1, none⟩ = some (.int .i64 x) ∧ w'.cell? ⟨w.heap.size, 2, none⟩ = some (.int .i64 y) ∧ w'.cell? ⟨w.heap.size, 3, none⟩ = some (.int .u8 1) ∧ w'.cell? ⟨w.heap.size, 4, none⟩ = some (.int .i64 z)) (go_keep) (first | (go_at_call 48; refine (kd1 _).mono ?_; rintro e w' ⟨rfl, hw'⟩; subst w'))
    have Be := Bd.dr
    have ge := gb_drew gd
    generalize wd.drew = wd2 at Be ge ⊢
    have x0 := Be.cell 0 (v := .int .u8 k) rfl; have x1 := Be.cell 1 (v := .int .i64 x) rfl; have x2 := Be.cell 2 (v := .int .i64 y) rfl; have x3 := Be.cell 3 (v := .int .u8 1) rfl; have x4 := Be.cell 4 (v := .int .i64 z) rfl
    go_wp2
    go_region_held2 (fun w' => w'.cell? ⟨w.heap.size, 0, none⟩ = some (.int .u8 k) ∧ w'.cell? ⟨w.heap.size, 1, none⟩ = some (.int .i64 x) ∧ w'.cell? ⟨w.heap.size, 2, none⟩ = some (.int .i64 y) ∧ w'.cell? ⟨w.heap.size, 3, none⟩ = some (.int .u8 1) ∧ w'.cell? ⟨w.heap.size, 4, none⟩ = some (.int .i64 z)) (go_keep) (first | (go_at_call 49; (fail_if_success (guard_hyp mk)); refine (k1 _).mono ?_; rintro e w' ⟨rfl, hw'⟩; subst w'; have mk : True := trivial) | (go_at_call 49; refine (k2 _).mono ?_; rintro e w' ⟨rfl, hw'⟩; subst w'))
    all_goals go_wp2
    all_goals go_ret
    all_goals exact ⟨rfl, by first | exact gb_drew gd | exact gd | exact gb_drew ge | exact ge | exact gb_drewN gd _⟩
  · rw [if_pos rfl, if_neg (by omega)]
    obtain ⟨v1, hv1⟩ : ∃ c, v - d2 * z = c := ⟨_, rfl⟩
    have hw5 : IntKind.i64.wrap (d2 * z) = d2 * z := by rw [IntKind.wrap_i64]; omega
    have hw6 : IntKind.i64.wrap (v - d2 * z) = v1 := by rw [IntKind.wrap_i64]; omega
    rw [hv1]
    clear hv1
    have b1 := Int.emod_nonneg v1 (show y ≠ 0 by omega)
    have b2 := Int.emod_lt_of_pos v1 (show 0 < y by omega)
    have b3 := Int.emod_nonneg u (show x ≠ 0 by omega)
    have b4 := Int.emod_lt_of_pos u (show 0 < x by omega)
    have k1 := kmy v1
    have k2 := kmx u
    obtain ⟨r1, hr1⟩ : ∃ r, v1 % y = r := ⟨_, rfl⟩
    obtain ⟨r2, hr2⟩ : ∃ r, u % x = r := ⟨_, rfl⟩
    rw [hr1] at b1 b2 k1 ⊢
    rw [hr2] at b3 b4 k2 ⊢
    have hmul : 0 ≤ r1 * x ∧ r1 * x ≤ 65536 * 65536 := ⟨Int.mul_nonneg b1 (by omega), Int.mul_le_mul (by omega) hx.2 (by omega) (by omega)⟩
    have w3 : IntKind.i64.wrap (r1 * x) = r1 * x := by rw [IntKind.wrap_i64]; omega
    have w4 : IntKind.i64.wrap (r1 * x + r2) = r1 * x + r2 := by rw [IntKind.wrap_i64]; omega
    clear hr1 hr2 kmx kmy
    have c0 := B1.cell 0 (v := .int .u8 k) rfl; have c1 := B1.cell 1 (v := .int .i64 x) rfl; have c2 := B1.cell 2 (v := .int .i64 y) rfl; have c3 := B1.cell 3 (v := .int .u8 2) rfl; have c4 := B1.cell 4 (v := .int .i64 z) rfl
    go_enter Tryz.func25, Tryz.ntmps25
    go_wp2
    go_quiet (fail)
    have Bd := B1.kept (gb_drewN (World.grownBy.refl W1 none) nq) (by simp)
    have gd := gb_drewN g1 nq
    generalize W1.drewN nq = wd at Bd gd ⊢
    have m0 := Bd.cell 0 (v := .int .u8 k) rfl; have m1 := Bd.cell 1 (v := .int .i64 x) rfl; have m2 := Bd.cell 2 (v := .int .i64 y) rfl; have m3 := Bd.cell 3 (v := .int .u8 2) rfl; have m4 := Bd.cell 4 (v := .int .i64 z) rfl
    go_wp2
    go_region_held2 (fun w' => w'.cell? ⟨w.heap.size, 0, none⟩ = some (.int .u8 k) ∧ w'.cell? ⟨w.heap.size, 1, none⟩ = some (.int .i64 x) ∧ w'.cell? ⟨w.heap.size, 2, none⟩ = some (.int .i64 y) ∧ w'.cell? ⟨w.heap.size, 3, none⟩ = some (.int .u8 2) ∧ w'.cell? ⟨w.heap.size, 4, none⟩ = some (.int .i64 z)) (go_keep) (first | (go_at_call 48; refine (kd2 _).mono ?_; rintro e w' ⟨rfl, hw'⟩; subst w'))
    have Be := Bd.dr
    have ge := gb_drew gd
    generalize wd.drew = wd2 at Be ge ⊢
    have x0 := Be.cell 0 (v := .int .u8 k) rfl; have x1 := Be.cell 1 (v := .int .i64 x) rfl; have x2 := Be.cell 2 (v := .int .i64 y) rfl; have x3 := Be.cell 3 (v := .int .u8 2) rfl; have x4 := Be.cell 4 (v := .int .i64 z) rfl
    go_wp2
    go_region_held2 (fun w' => w'.cell? ⟨w.heap.size, 0, none⟩ = some (.int .u8 k) ∧ w'.cell? ⟨w.heap.size, 1, none⟩ = some (.int .i64 x) ∧ w'.cell? ⟨w.heap.size, 2, none⟩ = some (.int .i64 y) ∧ w'.cell? ⟨w.heap.size, 3, none⟩ = some (.int .u8 2) ∧ w'.cell? ⟨w.heap.size, 4, none⟩ = some (.int .i64 z)) (go_keep) (first | (go_at_call 49; (fail_if_success (guard_hyp mk)); refine (k1 _).mono ?_; rintro e w' ⟨rfl, hw'⟩; subst w'; have mk : True := trivial) | (go_at_call 49; refine (k2 _).mono ?_; rintro e w' ⟨rfl, hw'⟩; subst w'))
    all_goals go_wp2
    all_goals go_ret
    all_goals exact ⟨rfl, by first | exact gb_drew gd | exact gd | exact gb_drew ge | exact ge | exact gb_drewN gd _⟩
end Ln
end Go.Proofs.YtbmpiddjakdebaaGreat
namespace Go.Proofs.YtbmpiddjakdebaaGreat
open Go.RowKit
set_option linter.unusedVariables false
set_option linter.unusedSimpArgs false
set_option maxRecDepth 100000

namespace Ln
/-- The place of a number. -/
def atP (x y : Int) (n : Nat) : Pt := ((n : Int) % x - x / 2, (n : Int) / x - y / 2)
theorem underPt : ∃ fs, Tryz.prog.underlying 40 = some (.struct fs) := by
  have h : (match Tryz.prog.underlying 40 with | some (.struct _) => true | _ => false) = true := by kernel_rfl
  split at h
  · rename_i fs hfs; exact ⟨fs, hfs⟩
  · cases h
theorem infoPt2 : (Tryz.prog.info? 40).map (·.size) = some 2 := by kernel_rfl
set_option maxHeartbeats 1000000 in
theorem atC (k x y t z : Int) (n : Nat) (hx : 1 ≤ x ∧ x ≤ 65536) (hy : 1 ≤ y ∧ y ≤ 65536) (hn : n ≤ 1048576) (w : World) : Calls Tryz.prog 46 #[.agg #[.int .u8 k, .int .i64 x, .int .i64 y, .int .u8 t, .int .i64 z], .int .i64 n] w fun e w' => e = .returned (.agg #[.int .i64 (atP x y n).1, .int .i64 (atP x y n).2]) ∧ w.grownBy w' none := by
  obtain ⟨fs, hfs⟩ := underPt
  have q1 : Int.tdiv x 2 = x / 2 := Int.tdiv_eq_ediv_of_nonneg (by omega)
  have q2 : Int.tdiv y 2 = y / 2 := Int.tdiv_eq_ediv_of_nonneg (by omega)
  have q3 : Int.tmod (n : Int) x = (n : Int) % x := Int.tmod_eq_emod_of_nonneg (by omega)
  have q4 : Int.tdiv (n : Int) x = (n : Int) / x := Int.tdiv_eq_ediv_of_nonneg (by omega)
  have b1 := Int.emod_nonneg (n : Int) (show x ≠ 0 by omega)
  have b2 := Int.emod_lt_of_pos (n : Int) (show 0 < x by omega)
  have b3 : (n : Int) / x ≤ n := Int.ediv_le_self x (by omega)
  have b4 : 0 ≤ (n : Int) / x := Int.ediv_nonneg (by omega) (by omega)
  unfold atP
  simp only
  obtain ⟨d, hd⟩ : ∃ d, (n : Int) / x = d := ⟨_, rfl⟩
  obtain ⟨m, hm⟩ : ∃ m, (n : Int) % x = m := ⟨_, rfl⟩
  rw [hd] at q4 b3 b4 ⊢
  rw [hm] at q3 b1 b2 ⊢
  have w1 : IntKind.i64.wrap (x / 2) = x / 2 := by rw [IntKind.wrap_i64]; omega
  have w2 : IntKind.i64.wrap (y / 2) = y / 2 := by rw [IntKind.wrap_i64]; omega
  have w3 : IntKind.i64.wrap d = d := by rw [IntKind.wrap_i64]; omega
  have w4 : IntKind.i64.wrap (m - x / 2) = m - x / 2 := by rw [IntKind.wrap_i64]; omega
  have w5 : IntKind.i64.wrap (d - y / 2) = d - y / 2 := by rw [IntKind.wrap_i64]; omega
  have hx0 : (x == 0) = false := by simp; omega
  have hx1 : ¬ x = 0 := by omega
  clear hd hm
  obtain ⟨W1, hW1, sz1, g1, B1⟩ := boxn w #[.int .u8 k, .int .i64 x, .int .i64 y, .int .u8 t, .int .i64 z] 23
  obtain ⟨W2, hW2, sz2, g2, B2⟩ := boxn W1 #[.int .i64 0, .int .i64 0] 40
  have B12 := B1.kept g2 (by simp)
  have c0 := B12.cell 0 (v := .int .u8 k) rfl; have c1 := B12.cell 1 (v := .int .i64 x) rfl; have c2 := B12.cell 2 (v := .int .i64 y) rfl; have c3 := B12.cell 3 (v := .int .u8 t) rfl; have c4 := B12.cell 4 (v := .int .i64 z) rfl
  have e0 := B2.cell 0 (v := .int .i64 0) rfl; have e1 := B2.cell 1 (v := .int .i64 0) rfl; have f0 := B2.frozen 0; have f1 := B2.frozen 1
  have hl := B1.lt
  have hne : w.heap.size ≠ W1.heap.size := by omega
  have B1d := B12.dr
  have B2d := B2.dr
  have m0 := B1d.cell 0 (v := .int .u8 k) rfl; have m1 := B1d.cell 1 (v := .int .i64 x) rfl; have m2 := B1d.cell 2 (v := .int .i64 y) rfl; have m3 := B1d.cell 3 (v := .int .u8 t) rfl; have m4 := B1d.cell 4 (v := .int .i64 z) rfl
  have p0 := B2d.cell 0 (v := .int .i64 0) rfl; have p1 := B2d.cell 1 (v := .int .i64 0) rfl; have r0 := B2d.frozen 0; have r1 := B2d.frozen 1
  have HG : Hid (w.grownBy W2 none) := gb_trans g1 g2
  have hb2 : Bo ((W2.drew.setCell ⟨W1.heap.size, 0, none⟩ (.int .i64 (m - x / 2))).setCell ⟨W1.heap.size, 1, none⟩ (.int .i64 (d - y / 2))) W1.heap.size 40 #[.int .i64 (m - x / 2), .int .i64 (d - y / 2)] := by simpa using (B2d.set 0 (.int .i64 (m - x / 2))).set 1 (.int .i64 (d - y / 2))
  have hb3 : Bo ((W2.setCell ⟨W1.heap.size, 0, none⟩ (.int .i64 (m - x / 2))).setCell ⟨W1.heap.size, 1, none⟩ (.int .i64 (d - y / 2))) W1.heap.size 40 #[.int .i64 (m - x / 2), .int .i64 (d - y / 2)] := by simpa using (B2.set 0 (.int .i64 (m - x / 2))).set 1 (.int .i64 (d - y / 2))
  have s1 := g1.size
  have gg2 : w.grownBy ((W2.setCell ⟨W1.heap.size, 0, none⟩ (.int .i64 (m - x / 2))).setCell ⟨W1.heap.size, 1, none⟩ (.int .i64 (d - y / 2))) none := gb_new (gb_new HG.out (a := ⟨W1.heap.size, 0, none⟩) s1 _) (a := ⟨W1.heap.size, 1, none⟩) s1 _
  have hne2 : W1.heap.size ≠ w.heap.size := by omega
  have B1z : Bo ((W2.setCell ⟨W1.heap.size, 0, none⟩ (.int .i64 (m - x / 2))).setCell ⟨W1.heap.size, 1, none⟩ (.int .i64 (d - y / 2))).drew w.heap.size 23 #[.int .u8 k, .int .i64 x, .int .i64 y, .int .u8 t, .int .i64 z] := ((B12.set2 hne2).set2 hne2).dr
  have zz0 := B1z.cell 0 (v := .int .u8 k) rfl; have zz1 := B1z.cell 1 (v := .int .i64 x) rfl; have zz2 := B1z.cell 2 (v := .int .i64 y) rfl; have zz3 := B1z.cell 3 (v := .int .u8 t) rfl; have zz4 := B1z.cell 4 (v := .int .i64 z) rfl
  go_enter Tryz.func46, Tryz.ntmps46
  go_wp2
  go_region_held2 (fun w' => w'.cell? ⟨w.heap.size, 0, none⟩ = some (.int .u8 k) ∧ w'.cell? ⟨w.heap.size, 1, none⟩ = some (.int .i64 x) ∧ w'.cell? ⟨w.heap.size, 2, none⟩ = some (.int .i64 y) ∧ w'.cell? ⟨w.heap.size, 3, none⟩ = some (.int .u8 t) ∧ w'.cell? ⟨w.heap.size, 4, none⟩ = some (.int .i64 z)) (go_keep) (fail)
  all_goals go_wp2
  all_goals first | refine ret_c1 (g := W1.heap.size) (cs := #[.int .i64 (m - x / 2), .int .i64 (d - y / 2)]) rfl hfs infoPt2 rfl hb2 rfl ⟨rfl, gb_drew gg2⟩ | refine ret_c1 (g := W1.heap.size) (cs := #[.int .i64 (m - x / 2), .int .i64 (d - y / 2)]) rfl hfs infoPt2 rfl hb3 rfl ⟨rfl, gg2⟩ | refine ret_c1 (g := W1.heap.size) (cs := #[.int .i64 (m - x / 2), .int .i64 (d - y / 2)]) rfl hfs infoPt2 rfl hb3.dr rfl ⟨rfl, gb_drew gg2⟩
end Ln
end Go.Proofs.YtbmpiddjakdebaaGreat
namespace Go.Proofs.YtbmpiddjakdebaaGreat
open Go.RowKit
set_option linter.unusedVariables false
set_option linter.unusedSimpArgs false
set_option maxRecDepth 100000

namespace Ln
/-- Truth values that can be read. -/
def Bs (w : World) (sp : Option Addr) (n : Nat) (F : Nat → Bool) : Prop := ∀ i, i < n → ∃ q o, sp = some ⟨q, o, none⟩ ∧ w.cell? ⟨q, o + i, none⟩ = some (.bool (F i))
theorem Bs.kept {w w' : World} {sp : Option Addr} {n : Nat} {F : Nat → Bool} {r : Option Nat} (h : Bs w sp n F) (hg : w.grownBy w' r) (hne : ∀ a, sp = some a → some a.block ≠ r) : Bs w' sp n F := fun k hk => by
  obtain ⟨q, o, h1, h2⟩ := h k hk
  exact ⟨q, o, h1, hg.cell h2 (hne ⟨q, o, none⟩ h1)⟩
/-- The cells of a set. -/
def lsT (x y : Int) (F : Nat → Bool) : Nat → List Pt
  | 0 => []
  | n + 1 => lsT x y F n ++ (if F n = true then [atP x y n] else [])
theorem lsT_len (x y : Int) (F : Nat → Bool) : ∀ n, (lsT x y F n).length ≤ n
  | 0 => Nat.le_refl _
  | n + 1 => by
    have := lsT_len x y F n
    show (lsT x y F n ++ _).length ≤ _
    rw [List.length_append]
    split
    · simp only [List.length_cons, List.length_nil]; omega
    · simp only [List.length_nil]; omega
set_option maxHeartbeats 2000000 in
theorem listD (k x y t z : Int) (hx : 1 ≤ x ∧ x ≤ 65536) (hy : 1 ≤ y ∧ y ≤ 65536) (sp : Option Addr) (n c : Nat) (F : Nat → Bool) (hn : n ≤ 1048576) (w : World) (H : Bs w sp n F) : Calls Tryz.prog 23 #[.agg #[.int .u8 k, .int .i64 x, .int .i64 y, .int .u8 t, .int .i64 z], .slice sp n c] w fun e w' => ∃ v, e = .returned v ∧ w'.ownsRow w.heap.size 40 2 v (lsT x y F n).length (fl (lsT x y F n)) ∧ w.grownBy w' none := by
  obtain ⟨i0, HI⟩ : ∃ i, Hid (Tryz.prog.info? 40 = some i ∧ i.zero = some (.agg #[.int .i64 0, .int .i64 0]) ∧ i.size = 2 ∧ i.bytes = 16) := by
    obtain ⟨i, h1, h2, h3, h4⟩ := info_parts infoK
    exact ⟨i, h1, h2, h3, h4⟩
  obtain ⟨W1, hW1, sz1, g1, B1⟩ := boxn w #[.int .u8 k, .int .i64 x, .int .i64 y, .int .u8 t, .int .i64 z] 23
  have hb1 := B1.lt
  have s1 := g1.size
  go_enter Tryz.func23, Tryz.ntmps23
  go_wp2
  go_loopw [5, 6] (fun u v wr => ∃ (i nO : Nat) (ov : Value), i ≤ n ∧ u = ov ∧ v = .int .i64 i ∧ Hid ((lsT x y F i).length = nO) ∧ nO ≤ i ∧ wr.ownsRow W1.heap.size 40 2 ov nO (fl (lsT x y F i)) ∧ W1.grownBy wr none) (fun _ v _ => n - (intOf v).toNat)
  case atStart => exact ⟨0, 0, _, Nat.zero_le _, rfl, rfl, rfl, Nat.le_refl _, World.ownsRow_nil _ _ _ _, World.grownBy.refl _ _⟩
  case round =>
    obtain ⟨i, nO, ov, hi, hov, rfl, HL, hnO, own, gi⟩ := hrel
    subst hov
    by_cases hlt : i < n
    · have hlt' : (i : Int) < (n : Int) := by omega
      obtain ⟨q, o, rfl, c0⟩ := ((H.kept g1 (by simp)).kept gi (by simp)) i hlt
      have Bi := B1.kept gi (by simp)
      have b0 := Bi.cell 0 (v := .int .u8 k) rfl; have b1 := Bi.cell 1 (v := .int .i64 x) rfl; have b2 := Bi.cell 2 (v := .int .i64 y) rfl; have b3 := Bi.cell 3 (v := .int .u8 t) rfl; have b4 := Bi.cell 4 (v := .int .i64 z) rfl
      have HT : Hid (lsT x y F (i + 1) = lsT x y F i ++ (if F i = true then [atP x y i] else [])) := rfl
      obtain ⟨fb, hfb⟩ : ∃ b, F i = b := ⟨_, rfl⟩
      rw [hfb] at c0 HT
      clear hfb
      cases fb with
      | false =>
        have HT1 : Hid (lsT x y F (i + 1) = lsT x y F i) := by unfold Hid; rw [HT.out]; simp
        go_wp2
        first | go_roundw | (go_quiet (fail); go_wp2; go_roundw)
        case rel => exact ⟨i + 1, nO, _, by omega, rfl, by go_num, by unfold Hid; rw [HT1.out]; exact HL.out, by omega, by rw [HT1.out]; exact own, gi⟩
        case measure => simp [intOf]; omega
      | true =>
        have kA := atC k x y t z i hx hy (by omega) wr
        obtain ⟨pp, hpp⟩ : ∃ p, atP x y i = p := ⟨_, rfl⟩
        have HT1 : Hid (lsT x y F (i + 1) = lsT x y F i ++ [pp]) := by unfold Hid; rw [HT.out, hpp]; simp
        rw [hpp] at kA
        obtain ⟨pa, pb⟩ := pp
        simp only at kA
        have HX : Hid (fl (lsT x y F i) ++ [.int .i64 pa, .int .i64 pb] = fl (lsT x y F (i + 1))) := by unfold Hid; rw [HT1.out, fl_app]; rfl
        have HL1 : Hid ((lsT x y F (i + 1)).length = nO + 1) := by unfold Hid; rw [HT1.out, List.length_append, HL.out]; rfl
        clear hpp HT
        go_wp2_with (first | (go_at_call 46; refine kA.mono ?_; rintro e w2 ⟨rfl, g2⟩; clear kA; obtain ⟨W5, hW5, sz5, g5, B5⟩ := boxn w2 #[.int .i64 pa, .int .i64 pb] 40; have d0 := B5.cell 0 (v := .int .i64 pa) rfl; have d1 := B5.cell 1 (v := .int .i64 pb) rfl; obtain ⟨W3, hW3⟩ : ∃ W3, W5.alloc (.cells #[.int .i64 pa, .int .i64 pb] 40) = W3 := ⟨_, rfl⟩; have g3 : W5.grownBy W3 none := (by rw [← hW3]; exact World.grownBy_alloc _ _ _); have nX : ∀ l u, [Value.int .i64 pa, .int .i64 pb][l]? = some u → W3.cell? ((⟨W5.heap.size, 0, none⟩ : Addr).add l) = some u := (by rw [← hW3]; exact World.news_of_block (heap_alloc_new _ _)); have own3 := ((own.kept g2 (Classical.em _)).kept g5 (Classical.em _)).kept g3 (Classical.em _); have G3 := gb_trans gi (gb_trans g2 (gb_trans g5 g3)); have hb3 := G3.size; have how := (fun gg e => own3.lt gg e)) | (at_builtin; refine wpList_append_lies _ rfl _ _ 24 rfl W1.heap.size 40 i0 (.agg #[.int .i64 0, .int .i64 0]) 2 16 underPS HI.out.1 HI.out.2.1 HI.out.2.2.1 HI.out.2.2.2 rfl (by decide) _ nO _ rfl own3 ⟨W5.heap.size, 0, none⟩ 1 1 [.int .i64 pa, .int .i64 pb] rfl rfl nX (by intro u hu; simp at hu; rcases hu with rfl | rfl <;> rfl) (by decide) (by unfold maxLen; omega) (by omega) hb3 _ rfl ?_; intro g6 c6 w6 own6 gg6 at6 lt6) | go_in)
        go_roundw
        case rel => exact ⟨i + 1, nO + 1, _, by omega, rfl, by go_num, HL1.out, by omega, by rw [← HX.out]; exact own6, G3.andThen gg6 (fun j hj => .inl (how j hj).1)⟩
        case measure => simp [intOf]; omega
    · have hin : i = n := by omega
      subst hin
      have hlt' : ¬ (i : Int) < (i : Int) := by omega
      have HNO := HL.out
      subst HNO
      go_wp2
      go_ret
      exact ⟨_, rfl, own_less own (by omega), gb_trans g1 gi⟩
end Ln
end Go.Proofs.YtbmpiddjakdebaaGreat
namespace Go.Proofs.YtbmpiddjakdebaaGreat
open Go.RowKit
set_option linter.unusedVariables false
set_option linter.unusedSimpArgs false
set_option maxRecDepth 100000

namespace Ln
theorem numberD (g : Int) (w : World) : Calls Tryz.prog 22 #[.int .i64 g] w fun e w' => e = .returned (.int .i64 (ckG g)) ∧ w' = w := by
  unfold ckG
  by_cases h1 : g < 0
  · simp only [h1, if_true, ite_true]
    go_enter Tryz.func22, Tryz.ntmps22
    go_wp2
    go_ret
    exact ⟨rfl, rfl⟩
  · by_cases h2 : 1125899906842624 < g
    · simp only [h1, h2, if_true, if_false, ite_true, ite_false]
      go_enter Tryz.func22, Tryz.ntmps22
      go_wp2
      go_ret
      exact ⟨rfl, rfl⟩
    · simp only [h1, h2, if_true, if_false, ite_true, ite_false]
      go_enter Tryz.func22, Tryz.ntmps22
      go_wp2
      go_ret
      exact ⟨rfl, rfl⟩
set_option maxHeartbeats 2000000 in
theorem torusD0 (x y : Int) (hx : 1 ≤ x ∧ x ≤ 65536) (hy : 1 ≤ y ∧ y ≤ 65536) (w : World) : Calls Tryz.prog 43 #[.agg #[.int .u8 2, .int .i64 x, .int .i64 y, .int .u8 0, .int .i64 0]] w fun e w' => e = .returned (.int .i64 0) ∧ w.grownBy w' none := by
  obtain ⟨W1, hW1, sz1, g1, B1⟩ := boxn w #[.int .u8 2, .int .i64 x, .int .i64 y, .int .u8 0, .int .i64 0] 23
  have b0 := B1.cell 0 (v := .int .u8 2) rfl; have b1 := B1.cell 1 (v := .int .i64 x) rfl; have b2 := B1.cell 2 (v := .int .i64 y) rfl; have b3 := B1.cell 3 (v := .int .u8 0) rfl; have b4 := B1.cell 4 (v := .int .i64 0) rfl
  have hb1 := B1.lt
  have x0 : (x == 0) = false := by simp; omega
  have y0 : (y == 0) = false := by simp; omega
  have x1 : ¬ x = 0 := by omega
  have y1 : ¬ y = 0 := by omega
  have xl : ¬ x < 0 := by omega
  have yl : ¬ y < 0 := by omega
  have xg : 0 ≤ x := by omega
  have yg : 0 ≤ y := by omega
  have xh := hx.2
  have yh := hy.2
  have nw : IntKind.i64.wrap (-x) = -x := by rw [IntKind.wrap_i64]; omega
  have s1 : (0:Int) < x := (by omega); have s2 : -x < 0 := (by omega)
  go_enter Tryz.func43, Tryz.ntmps43
  go_wp2
  go_ret
  exact ⟨rfl, g1⟩
set_option maxHeartbeats 2000000 in
theorem torusD1 (x y z : Int) (hx : 1 ≤ x ∧ x ≤ 65536) (hy : 1 ≤ y ∧ y ≤ 65536) (hz : z ≠ 0 ∧ z < x ∧ -x < z) (w : World) : Calls Tryz.prog 43 #[.agg #[.int .u8 2, .int .i64 x, .int .i64 y, .int .u8 1, .int .i64 z]] w fun e w' => e = .returned (.int .i64 0) ∧ w.grownBy w' none := by
  obtain ⟨W1, hW1, sz1, g1, B1⟩ := boxn w #[.int .u8 2, .int .i64 x, .int .i64 y, .int .u8 1, .int .i64 z] 23
  have b0 := B1.cell 0 (v := .int .u8 2) rfl; have b1 := B1.cell 1 (v := .int .i64 x) rfl; have b2 := B1.cell 2 (v := .int .i64 y) rfl; have b3 := B1.cell 3 (v := .int .u8 1) rfl; have b4 := B1.cell 4 (v := .int .i64 z) rfl
  have hb1 := B1.lt
  have x0 : (x == 0) = false := by simp; omega
  have y0 : (y == 0) = false := by simp; omega
  have x1 : ¬ x = 0 := by omega
  have y1 : ¬ y = 0 := by omega
  have xl : ¬ x < 0 := by omega
  have yl : ¬ y < 0 := by omega
  have xg : 0 ≤ x := by omega
  have yg : 0 ≤ y := by omega
  have xh := hx.2
  have yh := hy.2
  have nw : IntKind.i64.wrap (-x) = -x := by rw [IntKind.wrap_i64]; omega
  have s1 : z < x := (by omega); have s2 : -x < z := (by omega); have z0 : (z == 0) = false := (by simp; omega); have z2 : (z != 0) = true := (by simp; omega); have z1 : ¬ z = 0 := (by omega)
  go_enter Tryz.func43, Tryz.ntmps43
  go_wp2
  go_ret
  exact ⟨rfl, g1⟩
set_option maxHeartbeats 2000000 in
theorem torusD2 (x y z : Int) (hx : 1 ≤ x ∧ x ≤ 65536) (hy : 1 ≤ y ∧ y ≤ 65536) (hz : z ≠ 0 ∧ z < y ∧ -y < z) (w : World) : Calls Tryz.prog 43 #[.agg #[.int .u8 2, .int .i64 x, .int .i64 y, .int .u8 2, .int .i64 z]] w fun e w' => e = .returned (.int .i64 0) ∧ w.grownBy w' none := by
  obtain ⟨W1, hW1, sz1, g1, B1⟩ := boxn w #[.int .u8 2, .int .i64 x, .int .i64 y, .int .u8 2, .int .i64 z] 23
  have b0 := B1.cell 0 (v := .int .u8 2) rfl; have b1 := B1.cell 1 (v := .int .i64 x) rfl; have b2 := B1.cell 2 (v := .int .i64 y) rfl; have b3 := B1.cell 3 (v := .int .u8 2) rfl; have b4 := B1.cell 4 (v := .int .i64 z) rfl
  have hb1 := B1.lt
  have x0 : (x == 0) = false := by simp; omega
  have y0 : (y == 0) = false := by simp; omega
  have x1 : ¬ x = 0 := by omega
  have y1 : ¬ y = 0 := by omega
  have xl : ¬ x < 0 := by omega
  have yl : ¬ y < 0 := by omega
  have xg : 0 ≤ x := by omega
  have yg : 0 ≤ y := by omega
  have xh := hx.2
  have yh := hy.2
  have nw : IntKind.i64.wrap (-y) = -y := by rw [IntKind.wrap_i64]; omega
  have s1 : z < y := (by omega); have s2 : -y < z := (by omega); have z0 : (z == 0) = false := (by simp; omega); have z2 : (z != 0) = true := (by simp; omega); have z1 : ¬ z = 0 := (by omega)
  go_enter Tryz.func43, Tryz.ntmps43
  go_wp2
  go_ret
  exact ⟨rfl, g1⟩

/-- The document's torus, where nothing is wrong. -/
theorem torusD (k x y t z : Int) (ht : 0 ≤ t) (hc : Tp.chk k x y t z = 0) (hk : k = 2) (hx : 1 ≤ x ∧ x ≤ 65536) (hy : 1 ≤ y ∧ y ≤ 65536) (w : World) : Calls Tryz.prog 43 #[.agg #[.int .u8 k, .int .i64 x, .int .i64 y, .int .u8 t, .int .i64 z]] w fun e w' => e = .returned (.int .i64 0) ∧ w.grownBy w' none := by
  have ok := Tp.ok_of hc
  subst hk
  have h2 := ok.turn
  have hn := ok.near
  unfold Tp.sd at hn
  rcases (show t = 0 ∨ t = 1 ∨ t = 2 by omega) with rfl | rfl | rfl
  · have hz := ok.none rfl
    subst hz
    exact torusD0 x y hx hy w
  · have hz := ok.torus (by omega) rfl
    have hn := hn (by omega)
    rw [if_neg (by omega)] at hn
    exact torusD1 x y z hx hy ⟨hz.1, hn.1, hn.2⟩ w
  · have hz := ok.torus (by omega) rfl
    have hn := hn (by omega)
    rw [if_pos rfl] at hn
    exact torusD2 x y z hx hy ⟨hz.1, hn.1, hn.2⟩ w
end Ln
end Go.Proofs.YtbmpiddjakdebaaGreat
namespace Go.Proofs.YtbmpiddjakdebaaGreat
open Go.RowKit
set_option linter.unusedVariables false
set_option linter.unusedSimpArgs false
set_option maxRecDepth 100000

namespace Ln
set_option maxHeartbeats 4000000 in
theorem torusX2 (k x y z : Int) (h : k < 1 ∨ 5 < k ∨ x < 0 ∨ 65536 < x ∨ y < 0 ∨ 65536 < y) (w : World) : Calls Tryz.prog 43 #[.agg #[.int .u8 k, .int .i64 x, .int .i64 y, .int .u8 2, .int .i64 z]] w fun e w' => e = .returned (.int .i64 9) ∧ w.grownBy w' none := by
  obtain ⟨W1, hW1, sz1, g1, B1⟩ := boxn w #[.int .u8 k, .int .i64 x, .int .i64 y, .int .u8 2, .int .i64 z] 23
  have b0 := B1.cell 0 (v := .int .u8 k) rfl; have b1 := B1.cell 1 (v := .int .i64 x) rfl; have b2 := B1.cell 2 (v := .int .i64 y) rfl; have b3 := B1.cell 3 (v := .int .u8 2) rfl; have b4 := B1.cell 4 (v := .int .i64 z) rfl
  have hb1 := B1.lt
  by_cases d0 : 1 ≤ k
  case neg =>
    go_enter Tryz.func43, Tryz.ntmps43
    go_wp2
    go_ret
    exact ⟨rfl, g1⟩
  by_cases d1 : k ≤ 5
  case neg =>
    go_enter Tryz.func43, Tryz.ntmps43
    go_wp2
    go_ret
    exact ⟨rfl, g1⟩
  by_cases d2 : 0 ≤ x
  case neg =>
    go_enter Tryz.func43, Tryz.ntmps43
    go_wp2
    go_ret
    exact ⟨rfl, g1⟩
  by_cases d3 : x ≤ 65536
  case neg =>
    go_enter Tryz.func43, Tryz.ntmps43
    go_wp2
    go_ret
    exact ⟨rfl, g1⟩
  by_cases d4 : 0 ≤ y
  case neg =>
    go_enter Tryz.func43, Tryz.ntmps43
    go_wp2
    go_ret
    exact ⟨rfl, g1⟩
  by_cases d5 : y ≤ 65536
  case neg =>
    go_enter Tryz.func43, Tryz.ntmps43
    go_wp2
    go_ret
    exact ⟨rfl, g1⟩
  omega
set_option maxHeartbeats 4000000 in
theorem torusX1 (k x y t z : Int) (ht : 0 ≤ t) (e1 : ¬ t = 2) (h : k < 1 ∨ 5 < k ∨ x < 0 ∨ 65536 < x ∨ y < 0 ∨ 65536 < y ∨ 2 < t) (w : World) : Calls Tryz.prog 43 #[.agg #[.int .u8 k, .int .i64 x, .int .i64 y, .int .u8 t, .int .i64 z]] w fun e w' => e = .returned (.int .i64 9) ∧ w.grownBy w' none := by
  obtain ⟨W1, hW1, sz1, g1, B1⟩ := boxn w #[.int .u8 k, .int .i64 x, .int .i64 y, .int .u8 t, .int .i64 z] 23
  have b0 := B1.cell 0 (v := .int .u8 k) rfl; have b1 := B1.cell 1 (v := .int .i64 x) rfl; have b2 := B1.cell 2 (v := .int .i64 y) rfl; have b3 := B1.cell 3 (v := .int .u8 t) rfl; have b4 := B1.cell 4 (v := .int .i64 z) rfl
  have hb1 := B1.lt
  have e2 : (t == 2) = false := by simp [e1]
  by_cases d0 : 1 ≤ k
  case neg =>
    go_enter Tryz.func43, Tryz.ntmps43
    go_wp2
    go_ret
    exact ⟨rfl, g1⟩
  by_cases d1 : k ≤ 5
  case neg =>
    go_enter Tryz.func43, Tryz.ntmps43
    go_wp2
    go_ret
    exact ⟨rfl, g1⟩
  by_cases d2 : 0 ≤ x
  case neg =>
    go_enter Tryz.func43, Tryz.ntmps43
    go_wp2
    go_ret
    exact ⟨rfl, g1⟩
  by_cases d3 : x ≤ 65536
  case neg =>
    go_enter Tryz.func43, Tryz.ntmps43
    go_wp2
    go_ret
    exact ⟨rfl, g1⟩
  by_cases d4 : 0 ≤ y
  case neg =>
    go_enter Tryz.func43, Tryz.ntmps43
    go_wp2
    go_ret
    exact ⟨rfl, g1⟩
  by_cases d5 : y ≤ 65536
  case neg =>
    go_enter Tryz.func43, Tryz.ntmps43
    go_wp2
    go_ret
    exact ⟨rfl, g1⟩
  by_cases d6 : t ≤ 2
  case neg =>
    go_enter Tryz.func43, Tryz.ntmps43
    go_wp2
    go_ret
    exact ⟨rfl, g1⟩
  omega
/-- The document's torus, where a number is out of bounds. -/
theorem torusX (k x y t z : Int) (ht : 0 ≤ t) (h : k < 1 ∨ 5 < k ∨ x < 0 ∨ 65536 < x ∨ y < 0 ∨ 65536 < y ∨ 2 < t) (w : World) : Calls Tryz.prog 43 #[.agg #[.int .u8 k, .int .i64 x, .int .i64 y, .int .u8 t, .int .i64 z]] w fun e w' => e = .returned (.int .i64 9) ∧ w.grownBy w' none := by
  by_cases e : t = 2
  · subst e
    exact torusX2 k x y z (by omega) w
  · exact torusX1 k x y t z ht e h w
end Ln
end Go.Proofs.YtbmpiddjakdebaaGreat
namespace Go.Proofs.YtbmpiddjakdebaaGreat
open Go.RowKit
set_option linter.unusedVariables false
set_option linter.unusedSimpArgs false
set_option maxRecDepth 100000

namespace Ln
theorem toE9 {k x y t z : Int} (hc : Tp.chk k x y t z ≠ 0) : toE k x y t z = 9 := by unfold toE; rw [if_pos hc]
theorem toE40 {k x y t z : Int} (hc : Tp.chk k x y t z = 0) (hk : k ≠ 2) : toE k x y t z = 40 := by unfold toE; rw [if_neg (by rw [hc]; simp), if_pos hk]
theorem toE42 {k x y t z : Int} (hc : Tp.chk k x y t z = 0) (hk : k = 2) (h : x = 0 ∨ y = 0) : toE k x y t z = 42 := by
  unfold toE To.enB
  rw [if_neg (by rw [hc]; simp), if_neg (by simp [hk]), if_pos (by rw [hc]; simpa using h)]
theorem toE0 {k x y t z : Int} (hc : Tp.chk k x y t z = 0) (hk : k = 2) (hx : x ≠ 0) (hy : y ≠ 0) : toE k x y t z = 0 := by
  unfold toE To.enB
  rw [if_neg (by rw [hc]; simp), if_neg (by simp [hk]), if_neg (by rw [hc]; simp [hx, hy])]
end Ln
end Go.Proofs.YtbmpiddjakdebaaGreat
