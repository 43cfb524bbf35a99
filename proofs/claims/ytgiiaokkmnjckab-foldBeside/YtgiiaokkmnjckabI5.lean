/- Where a place comes to; maps one behind the other; the way back; whether two maps do the same; how often a part must be done. -/
import Derived.Test.YtgiiaokkmnjckabI4
namespace Go.Proofs.Ytgiiaokkmnjckab
open Go.RowKit
open Fl
set_option linter.unusedVariables false
set_option linter.unusedSimpArgs false
set_option maxRecDepth 100000

theorem underP : ∃ fs, Try.prog.underlying 33 = some (.struct fs) := by
  first | exact ⟨_, Try.underlying33⟩ | exact ⟨_, by kernel_rfl⟩
theorem infoP : (Try.prog.info? 33).map (·.size) = some 2 := by kernel_rfl
theorem bo2 {w : World} {g : Nat} {t : TypeId} {x y u v : Value} (h : Bo w g t #[x, y]) : Bo ((w.setCell ⟨g, 0, none⟩ u).setCell ⟨g, 1, none⟩ v) g t #[u, v] := (h.set 0 u).set 1 v
theorem gb2 {w w' : World} (h : w.grownBy w' none) {b : Nat} (hb : w.heap.size ≤ b) {u v : Value} : w.grownBy ((w'.setCell ⟨b, 0, none⟩ u).setCell ⟨b, 1, none⟩ v) none := gb_new (gb_new h hb _) hb _

theorem atNo (a b : Nat) (f : Bool) (c d : Nat) (X Y : Int) (h : vB a b c d = false) (w : World) : Calls Try.prog 18 #[.agg (mv a b f c d), .agg #[.int .i64 X, .int .i64 Y]] w fun e w' => e = .returned (.tuple #[.agg #[.int .i64 0, .int .i64 0], .int .i64 50]) ∧ w.grownBy w' none := by
  obtain ⟨fs, hfs⟩ := underP
  obtain ⟨W1, hW1, sz1, g1, B1⟩ := boxn w (mv a b f c d) 48
  obtain ⟨W2, hW2, sz2, g2, B2⟩ := boxn W1 #[.int .i64 X, .int .i64 Y] 33
  obtain ⟨W3, hW3, sz3, g3, B3⟩ := boxn W2 #[.int .i64 0, .int .i64 0] 33
  have A3 := (B1.kept g2 (by simp)).kept g3 (by simp)
  have P3 := B2.kept g3 (by simp)
  have G3 := gb_trans (gb_trans g1 g2) g3
  have le := (gb_trans g1 g2).size
  have k0 := A3.cell 0 (v := .complex .f64 a b) rfl; have k1 := A3.cell 1 (v := .bool f) rfl; have k2 := A3.cell 2 (v := .complex .f64 c d) rfl
  have hv := validC a b f c d
  rw [h] at hv
  go_enter Try.func18, Try.ntmps18
  go_wp2_with (first | (go_at_call 37; refine (hv _).mono ?_; rintro e w4 ⟨rfl, g4⟩; have A4 := A3.kept g4 (by simp); have P4 := P3.kept g4 (by simp); have B4 := B3.kept g4 (by simp); have G4 := gb_trans G3 g4; have l0 := A4.cell 0 (v := .complex .f64 a b) rfl; have l1 := A4.cell 1 (v := .bool f) rfl; have l2 := A4.cell 2 (v := .complex .f64 c d) rfl; have p0 := P4.cell 0 (v := .int .i64 X) rfl; have p1 := P4.cell 1 (v := .int .i64 Y) rfl; have z0 := B4.cell 0 (v := .int .i64 0) rfl; have z1 := B4.cell 1 (v := .int .i64 0) rfl; have y0 := B4.frozen 0; have y1 := B4.frozen 1))
  refine ret_c2 (g := W2.heap.size) (cs := #[.int .i64 0, .int .i64 0]) rfl hfs infoP rfl (bo2 B4) rfl ⟨rfl, gb2 G4 le⟩
theorem atFar (a b : Nat) (f : Bool) (c d : Nat) (X Y : Int) (h : vB a b c d = true) (hn : (nearB X && nearB Y) = false) (w : World) : Calls Try.prog 18 #[.agg (mv a b f c d), .agg #[.int .i64 X, .int .i64 Y]] w fun e w' => e = .returned (.tuple #[.agg #[.int .i64 0, .int .i64 0], .int .i64 5]) ∧ w.grownBy w' none := by
  obtain ⟨fs, hfs⟩ := underP
  obtain ⟨W1, hW1, sz1, g1, B1⟩ := boxn w (mv a b f c d) 48
  obtain ⟨W2, hW2, sz2, g2, B2⟩ := boxn W1 #[.int .i64 X, .int .i64 Y] 33
  obtain ⟨W3, hW3, sz3, g3, B3⟩ := boxn W2 #[.int .i64 0, .int .i64 0] 33
  have A3 := (B1.kept g2 (by simp)).kept g3 (by simp)
  have P3 := B2.kept g3 (by simp)
  have G3 := gb_trans (gb_trans g1 g2) g3
  have le := (gb_trans g1 g2).size
  have k0 := A3.cell 0 (v := .complex .f64 a b) rfl; have k1 := A3.cell 1 (v := .bool f) rfl; have k2 := A3.cell 2 (v := .complex .f64 c d) rfl
  have hv := validC a b f c d
  rw [h] at hv
  have hi := fun n => isFarC n
  simp only [far_near] at hi
  cases hx : nearB X
  · clear hn
    go_enter Try.func18, Try.ntmps18
    go_wp2_with (first | (go_at_call 37; refine (hv _).mono ?_; rintro e w4 ⟨rfl, g4⟩; have A4 := A3.kept g4 (by simp); have P4 := P3.kept g4 (by simp); have B4 := B3.kept g4 (by simp); have G4 := gb_trans G3 g4; have l0 := A4.cell 0 (v := .complex .f64 a b) rfl; have l1 := A4.cell 1 (v := .bool f) rfl; have l2 := A4.cell 2 (v := .complex .f64 c d) rfl; have p0 := P4.cell 0 (v := .int .i64 X) rfl; have p1 := P4.cell 1 (v := .int .i64 Y) rfl; have z0 := B4.cell 0 (v := .int .i64 0) rfl; have z1 := B4.cell 1 (v := .int .i64 0) rfl; have y0 := B4.frozen 0; have y1 := B4.frozen 1) | (go_at_call 41; refine (hi _ _).mono ?_; rintro e w' ⟨rfl, hw'⟩; subst w'))
    refine ret_c2 (g := W2.heap.size) (cs := #[.int .i64 0, .int .i64 0]) rfl hfs infoP rfl (bo2 B4) rfl ⟨rfl, gb2 G4 le⟩
  · have hy : nearB Y = false := by rw [hx] at hn; exact hn
    clear hn
    go_enter Try.func18, Try.ntmps18
    go_wp2_with (first | (go_at_call 37; refine (hv _).mono ?_; rintro e w4 ⟨rfl, g4⟩; have A4 := A3.kept g4 (by simp); have P4 := P3.kept g4 (by simp); have B4 := B3.kept g4 (by simp); have G4 := gb_trans G3 g4; have l0 := A4.cell 0 (v := .complex .f64 a b) rfl; have l1 := A4.cell 1 (v := .bool f) rfl; have l2 := A4.cell 2 (v := .complex .f64 c d) rfl; have p0 := P4.cell 0 (v := .int .i64 X) rfl; have p1 := P4.cell 1 (v := .int .i64 Y) rfl; have z0 := B4.cell 0 (v := .int .i64 0) rfl; have z1 := B4.cell 1 (v := .int .i64 0) rfl; have y0 := B4.frozen 0; have y1 := B4.frozen 1) | (go_at_call 41; refine (hi _ _).mono ?_; rintro e w' ⟨rfl, hw'⟩; subst w'))
    refine ret_c2 (g := W2.heap.size) (cs := #[.int .i64 0, .int .i64 0]) rfl hfs infoP rfl (bo2 B4) rfl ⟨rfl, gb2 G4 le⟩
theorem convF {b : Nat} {n : Int} (h : Is b n) (hn : nearB n = true) (w : World) : (convert 84 3 (.float .f64 b)).run Try.prog w = .ok (.int .i64 n) w :=
  run_convert_float_int w 84 3 .f64 .i64 b n (by kernel_rfl) (by kernel_rfl) (is_toInt h hn)
theorem at_core (a b : Nat) (f : Bool) (c d : Nat) (X Y : Int) {k : Nat} {x y : Int} (h : May a b f c d k x y) (hx : nearB X = true) (hy : nearB Y = true) (w : World) :
    Calls Try.prog 18 #[.agg (mv a b f c d), .agg #[.int .i64 X, .int .i64 Y]] w fun e w' => e = .returned (.tuple #[.agg (if nearB (lx k X Y + x) && nearB (ly k X Y + y) then #[.int .i64 (lx k X Y + x), .int .i64 (ly k X Y + y)] else #[.int .i64 0, .int .i64 0]), .int .i64 (if nearB (lx k X Y + x) && nearB (ly k X Y + y) then 0 else 5)]) ∧ w.grownBy w' none := by
  obtain ⟨fs, hfs⟩ := underP
  obtain ⟨W1, hW1, sz1, g1, B1⟩ := boxn w (mv a b f c d) 48
  obtain ⟨W2, hW2, sz2, g2, B2⟩ := boxn W1 #[.int .i64 X, .int .i64 Y] 33
  obtain ⟨W3, hW3, sz3, g3, B3⟩ := boxn W2 #[.int .i64 0, .int .i64 0] 33
  have A3 := (B1.kept g2 (by simp)).kept g3 (by simp)
  have P3 := B2.kept g3 (by simp)
  have G3 := gb_trans (gb_trans g1 g2) g3
  have le := (gb_trans g1 g2).size
  have k0 := A3.cell 0 (v := .complex .f64 a b) rfl; have k1 := A3.cell 1 (v := .bool f) rfl; have k2 := A3.cell 2 (v := .complex .f64 c d) rfl
  have hv := validC a b f c d
  rw [h.v] at hv
  have hi := fun n => isFarC n
  simp only [far_near] at hi
  have hu := unit_t k
  have n1 := near_of hx
  have n2 := near_of hy
  have n3 := near_of h.n1
  have n4 := near_of h.n2
  have hM := movedC a b f c d (floatOfInt .f64 X) (floatOfInt .f64 Y) h.t1 h.t2 (is_fl (by omega)) (is_fl (by omega)) h.m1 h.m2 hu.1 hu.2.1 (by omega) (by omega) (by omega) (by omega)
  have e1 : tx k * X - ty k * cj f Y + x = lx k X Y + x := by rw [h.fl]; rfl
  have e2 : tx k * cj f Y + ty k * X + y = ly k X Y + y := by rw [h.fl]; rfl
  rw [e1, e2] at hM
  clear hu n1 n2 n3 n4 e1 e2 h
  generalize lx k X Y + x = u at *
  generalize ly k X Y + y = v at *
  have hP := isPlaceC
  have hN := numberC
  cases hnu : nearB u
  · go_enter Try.func18, Try.ntmps18
    go_wp2_with (first | (go_at_call 37; refine (hv _).mono ?_; rintro e w4 ⟨rfl, g4⟩; have A4 := A3.kept g4 (by simp); have P4 := P3.kept g4 (by simp); have B4 := B3.kept g4 (by simp); have G4 := gb_trans G3 g4; have l0 := A4.cell 0 (v := .complex .f64 a b) rfl; have l1 := A4.cell 1 (v := .bool f) rfl; have l2 := A4.cell 2 (v := .complex .f64 c d) rfl; have p0 := P4.cell 0 (v := .int .i64 X) rfl; have p1 := P4.cell 1 (v := .int .i64 Y) rfl; have z0 := B4.cell 0 (v := .int .i64 0) rfl; have z1 := B4.cell 1 (v := .int .i64 0) rfl; have y0 := B4.frozen 0; have y1 := B4.frozen 1) | (go_at_call 41; refine (hi _ _).mono ?_; rintro e w' ⟨rfl, hw'⟩; subst w'))
    go_region_held2 (fun w' => w'.cell? ⟨w.heap.size, 0, none⟩ = some (.complex .f64 a b) ∧ w'.cell? ⟨w.heap.size, 1, none⟩ = some (.bool f) ∧ w'.cell? ⟨w.heap.size, 2, none⟩ = some (.complex .f64 c d) ∧ w'.cell? ⟨W1.heap.size, 0, none⟩ = some (.int .i64 X) ∧ w'.cell? ⟨W1.heap.size, 1, none⟩ = some (.int .i64 Y)) (go_keep) (first | (go_at_call 43; refine (hN _ _ _).mono ?_; rintro e w' ⟨rfl, hw'⟩; subst w') | (go_at_call 42; refine (hM _).mono ?_; rintro e w5 ⟨re, im, rfl, i1, i2, g5⟩; have B5 := B4.dr.kept g5 (by simp); have A5 := A4.dr.kept g5 (by simp); have P5 := P4.dr.kept g5 (by simp); have G5 := gb_trans (gb_drew G4) g5; have m0 := A5.cell 0 (v := .complex .f64 a b) rfl; have m1 := A5.cell 1 (v := .bool f) rfl; have m2 := A5.cell 2 (v := .complex .f64 c d) rfl; have q0 := P5.cell 0 (v := .int .i64 X) rfl; have q1 := P5.cell 1 (v := .int .i64 Y) rfl; have r0 := B5.cell 0 (v := .int .i64 0) rfl; have r1 := B5.cell 1 (v := .int .i64 0) rfl; have s0 := B5.frozen 0; have s1 := B5.frozen 1; have wu := whB_is i1; have wv := whB_is i2))
    all_goals go_wp2_with (first | (go_at_call 44; refine (hP _ _ _).mono ?_; rintro e w' ⟨rfl, hw'⟩; subst w'))
    all_goals refine ret_c2 (g := W2.heap.size) (cs := #[.int .i64 0, .int .i64 0]) rfl hfs infoP rfl (bo2 B5) rfl ⟨rfl, gb2 G5 le⟩
  · cases hnv : nearB v
    · go_enter Try.func18, Try.ntmps18
      go_wp2_with (first | (go_at_call 37; refine (hv _).mono ?_; rintro e w4 ⟨rfl, g4⟩; have A4 := A3.kept g4 (by simp); have P4 := P3.kept g4 (by simp); have B4 := B3.kept g4 (by simp); have G4 := gb_trans G3 g4; have l0 := A4.cell 0 (v := .complex .f64 a b) rfl; have l1 := A4.cell 1 (v := .bool f) rfl; have l2 := A4.cell 2 (v := .complex .f64 c d) rfl; have p0 := P4.cell 0 (v := .int .i64 X) rfl; have p1 := P4.cell 1 (v := .int .i64 Y) rfl; have z0 := B4.cell 0 (v := .int .i64 0) rfl; have z1 := B4.cell 1 (v := .int .i64 0) rfl; have y0 := B4.frozen 0; have y1 := B4.frozen 1) | (go_at_call 41; refine (hi _ _).mono ?_; rintro e w' ⟨rfl, hw'⟩; subst w'))
      go_region_held2 (fun w' => w'.cell? ⟨w.heap.size, 0, none⟩ = some (.complex .f64 a b) ∧ w'.cell? ⟨w.heap.size, 1, none⟩ = some (.bool f) ∧ w'.cell? ⟨w.heap.size, 2, none⟩ = some (.complex .f64 c d) ∧ w'.cell? ⟨W1.heap.size, 0, none⟩ = some (.int .i64 X) ∧ w'.cell? ⟨W1.heap.size, 1, none⟩ = some (.int .i64 Y)) (go_keep) (first | (go_at_call 43; refine (hN _ _ _).mono ?_; rintro e w' ⟨rfl, hw'⟩; subst w') | (go_at_call 42; refine (hM _).mono ?_; rintro e w5 ⟨re, im, rfl, i1, i2, g5⟩; have B5 := B4.dr.kept g5 (by simp); have A5 := A4.dr.kept g5 (by simp); have P5 := P4.dr.kept g5 (by simp); have G5 := gb_trans (gb_drew G4) g5; have m0 := A5.cell 0 (v := .complex .f64 a b) rfl; have m1 := A5.cell 1 (v := .bool f) rfl; have m2 := A5.cell 2 (v := .complex .f64 c d) rfl; have q0 := P5.cell 0 (v := .int .i64 X) rfl; have q1 := P5.cell 1 (v := .int .i64 Y) rfl; have r0 := B5.cell 0 (v := .int .i64 0) rfl; have r1 := B5.cell 1 (v := .int .i64 0) rfl; have s0 := B5.frozen 0; have s1 := B5.frozen 1; have wu := whB_is i1; have wv := whB_is i2))
      all_goals go_wp2_with (first | (go_at_call 44; refine (hP _ _ _).mono ?_; rintro e w' ⟨rfl, hw'⟩; subst w'))
      all_goals refine ret_c2 (g := W2.heap.size) (cs := #[.int .i64 0, .int .i64 0]) rfl hfs infoP rfl (bo2 B5) rfl ⟨rfl, gb2 G5 le⟩
    · go_enter Try.func18, Try.ntmps18
      go_wp2_with (first | (go_at_call 37; refine (hv _).mono ?_; rintro e w4 ⟨rfl, g4⟩; have A4 := A3.kept g4 (by simp); have P4 := P3.kept g4 (by simp); have B4 := B3.kept g4 (by simp); have G4 := gb_trans G3 g4; have l0 := A4.cell 0 (v := .complex .f64 a b) rfl; have l1 := A4.cell 1 (v := .bool f) rfl; have l2 := A4.cell 2 (v := .complex .f64 c d) rfl; have p0 := P4.cell 0 (v := .int .i64 X) rfl; have p1 := P4.cell 1 (v := .int .i64 Y) rfl; have z0 := B4.cell 0 (v := .int .i64 0) rfl; have z1 := B4.cell 1 (v := .int .i64 0) rfl; have y0 := B4.frozen 0; have y1 := B4.frozen 1) | (go_at_call 41; refine (hi _ _).mono ?_; rintro e w' ⟨rfl, hw'⟩; subst w'))
      go_region_held2 (fun w' => w'.cell? ⟨w.heap.size, 0, none⟩ = some (.complex .f64 a b) ∧ w'.cell? ⟨w.heap.size, 1, none⟩ = some (.bool f) ∧ w'.cell? ⟨w.heap.size, 2, none⟩ = some (.complex .f64 c d) ∧ w'.cell? ⟨W1.heap.size, 0, none⟩ = some (.int .i64 X) ∧ w'.cell? ⟨W1.heap.size, 1, none⟩ = some (.int .i64 Y)) (go_keep) (first | (go_at_call 43; refine (hN _ _ _).mono ?_; rintro e w' ⟨rfl, hw'⟩; subst w') | (go_at_call 42; refine (hM _).mono ?_; rintro e w5 ⟨re, im, rfl, i1, i2, g5⟩; have B5 := B4.dr.kept g5 (by simp); have A5 := A4.dr.kept g5 (by simp); have P5 := P4.dr.kept g5 (by simp); have G5 := gb_trans (gb_drew G4) g5; have m0 := A5.cell 0 (v := .complex .f64 a b) rfl; have m1 := A5.cell 1 (v := .bool f) rfl; have m2 := A5.cell 2 (v := .complex .f64 c d) rfl; have q0 := P5.cell 0 (v := .int .i64 X) rfl; have q1 := P5.cell 1 (v := .int .i64 Y) rfl; have r0 := B5.cell 0 (v := .int .i64 0) rfl; have r1 := B5.cell 1 (v := .int .i64 0) rfl; have s0 := B5.frozen 0; have s1 := B5.frozen 1; have wu := whB_is i1; have wv := whB_is i2; have cu := convF i1 hnu; have cv := convF i2 hnv))
      all_goals go_wp2_with (first | (go_at_call 44; refine (hP _ _ _).mono ?_; rintro e w' ⟨rfl, hw'⟩; subst w'))
      all_goals refine ret_c2 (g := W2.heap.size) (cs := #[.int .i64 u, .int .i64 v]) rfl hfs infoP rfl (bo2 B5) rfl ⟨rfl, gb2 G5 le⟩

theorem thenNo (a b : Nat) (f : Bool) (c d a2 b2 : Nat) (f2 : Bool) (c2 d2 : Nat) (h : (vB a b c d && vB a2 b2 c2 d2) = false) (w : World) : Calls Try.prog 58 #[.agg (mv a b f c d), .agg (mv a2 b2 f2 c2 d2)] w fun e w' => e = .returned (.tuple #[.agg (mv 0 0 false 0 0), .int .i64 50]) ∧ w.grownBy w' none := by
  obtain ⟨fs, hfs⟩ := underI
  obtain ⟨W1, hW1, sz1, g1, B1⟩ := boxn w (mv a b f c d) 48
  obtain ⟨W2, hW2, sz2, g2, B2⟩ := boxn W1 (mv a2 b2 f2 c2 d2) 48
  have A2 := B1.kept g2 (by simp)
  have G2 := gb_trans g1 g2
  have k0 := A2.cell 0 (v := .complex .f64 a b) rfl; have k1 := A2.cell 1 (v := .bool f) rfl; have k2 := A2.cell 2 (v := .complex .f64 c d) rfl
  have hv := validC a b f c d
  have hw := validC a2 b2 f2 c2 d2
  obtain ⟨W3, hW3, sz3, g3, B3⟩ := boxn W2 #[.complex .f64 0 0, .bool false, .complex .f64 0 0] 48
  have A3 := A2.kept g3 (by simp)
  have C3 := B2.kept g3 (by simp)
  have G3 := gb_trans G2 g3
  have le := G2.size
  have st := stC
  have kk0 := A3.cell 0 (v := .complex .f64 a b) rfl; have kk1 := A3.cell 1 (v := .bool f) rfl; have kk2 := A3.cell 2 (v := .complex .f64 c d) rfl
  cases h1 : vB a b c d
  · clear h
    go_enter Try.func58, Try.ntmps58
    go_wp2_with (first | (go_at_call 37; (fail_if_success (guard_hyp g4)); refine (hv _).mono ?_; rintro e w4 ⟨rfl, g4⟩; have A4 := A3.kept g4 (by simp); have C4 := C3.kept g4 (by simp); have B4 := B3.kept g4 (by simp); have G4 := gb_trans G3 g4; have l0 := A4.cell 0 (v := .complex .f64 a b) rfl; have l1 := A4.cell 1 (v := .bool f) rfl; have l2 := A4.cell 2 (v := .complex .f64 c d) rfl; have m0 := C4.cell 0 (v := (.complex .f64 a2 b2)) rfl; have m1 := C4.cell 1 (v := (.bool f2)) rfl; have m2 := C4.cell 2 (v := (.complex .f64 c2 d2)) rfl; have z0 := B4.cell 0 (v := .complex .f64 0 0) rfl; have z1 := B4.cell 1 (v := .bool false) rfl; have z2 := B4.cell 2 (v := .complex .f64 0 0) rfl; have y0 := B4.frozen 0; have y1 := B4.frozen 1; have y2 := B4.frozen 2) | (go_at_call 37; refine (hw _).mono ?_; rintro e w5 ⟨rfl, g5⟩; have A5 := A4.kept g5 (by simp); have C5 := C4.kept g5 (by simp); have B5 := B4.kept g5 (by simp); have G5 := gb_trans G4 g5; have n0 := A5.cell 0 (v := .complex .f64 a b) rfl; have n1 := A5.cell 1 (v := .bool f) rfl; have n2 := A5.cell 2 (v := .complex .f64 c d) rfl; have o0 := C5.cell 0 (v := (.complex .f64 a2 b2)) rfl; have o1 := C5.cell 1 (v := (.bool f2)) rfl; have o2 := C5.cell 2 (v := (.complex .f64 c2 d2)) rfl; have r0 := B5.cell 0 (v := .complex .f64 0 0) rfl; have r1 := B5.cell 1 (v := .bool false) rfl; have r2 := B5.cell 2 (v := .complex .f64 0 0) rfl; have s0 := B5.frozen 0; have s1 := B5.frozen 1; have s2 := B5.frozen 2))
    refine ret_c2 (g := W2.heap.size) (cs := #[.complex .f64 0 0, .bool false, .complex .f64 0 0]) rfl hfs infoI rfl (bo3 B4) rfl ⟨rfl, gb3 G4 le⟩
  · have h2 : vB a2 b2 c2 d2 = false := by rw [h1] at h; exact h
    clear h
    go_enter Try.func58, Try.ntmps58
    go_wp2_with (first | (go_at_call 37; (fail_if_success (guard_hyp g4)); refine (hv _).mono ?_; rintro e w4 ⟨rfl, g4⟩; have A4 := A3.kept g4 (by simp); have C4 := C3.kept g4 (by simp); have B4 := B3.kept g4 (by simp); have G4 := gb_trans G3 g4; have l0 := A4.cell 0 (v := .complex .f64 a b) rfl; have l1 := A4.cell 1 (v := .bool f) rfl; have l2 := A4.cell 2 (v := .complex .f64 c d) rfl; have m0 := C4.cell 0 (v := (.complex .f64 a2 b2)) rfl; have m1 := C4.cell 1 (v := (.bool f2)) rfl; have m2 := C4.cell 2 (v := (.complex .f64 c2 d2)) rfl; have z0 := B4.cell 0 (v := .complex .f64 0 0) rfl; have z1 := B4.cell 1 (v := .bool false) rfl; have z2 := B4.cell 2 (v := .complex .f64 0 0) rfl; have y0 := B4.frozen 0; have y1 := B4.frozen 1; have y2 := B4.frozen 2) | (go_at_call 37; refine (hw _).mono ?_; rintro e w5 ⟨rfl, g5⟩; have A5 := A4.kept g5 (by simp); have C5 := C4.kept g5 (by simp); have B5 := B4.kept g5 (by simp); have G5 := gb_trans G4 g5; have n0 := A5.cell 0 (v := .complex .f64 a b) rfl; have n1 := A5.cell 1 (v := .bool f) rfl; have n2 := A5.cell 2 (v := .complex .f64 c d) rfl; have o0 := C5.cell 0 (v := (.complex .f64 a2 b2)) rfl; have o1 := C5.cell 1 (v := (.bool f2)) rfl; have o2 := C5.cell 2 (v := (.complex .f64 c2 d2)) rfl; have r0 := B5.cell 0 (v := .complex .f64 0 0) rfl; have r1 := B5.cell 1 (v := .bool false) rfl; have r2 := B5.cell 2 (v := .complex .f64 0 0) rfl; have s0 := B5.frozen 0; have s1 := B5.frozen 1; have s2 := B5.frozen 2))
    refine ret_c2 (g := W2.heap.size) (cs := #[.complex .f64 0 0, .bool false, .complex .f64 0 0]) rfl hfs infoI rfl (bo3 B5) rfl ⟨rfl, gb3 G5 le⟩
theorem then_core (a b : Nat) (f : Bool) (c d a2 b2 : Nat) (f2 : Bool) (c2 d2 : Nat) {k l : Nat} {x y u v : Int} (h1 : May a b f c d k x y) (h2 : May a2 b2 f2 c2 d2 l u v) (w : World) :
    Calls Try.prog 58 #[.agg (mv a b f c d), .agg (mv a2 b2 f2 c2 d2)] w fun e w' => w.grownBy w' none ∧ ((nearB (lx l x y + u) && nearB (ly l x y + v)) = true → ∃ p q r s, e = .returned (.tuple #[.agg (mv p q (f != f2) r s), .int .i64 0]) ∧ May p q (f != f2) r s (both k l) (lx l x y + u) (ly l x y + v) ∧ Cl p q r s (both k l) (lx l x y + u) (ly l x y + v)) ∧ ((nearB (lx l x y + u) && nearB (ly l x y + v)) = false → e = .returned (.tuple #[.agg (mv 0 0 false 0 0), .int .i64 5])) := by
  obtain ⟨fs, hfs⟩ := underI
  obtain ⟨W1, hW1, sz1, g1, B1⟩ := boxn w (mv a b f c d) 48
  obtain ⟨W2, hW2, sz2, g2, B2⟩ := boxn W1 (mv a2 b2 f2 c2 d2) 48
  have A2 := B1.kept g2 (by simp)
  have G2 := gb_trans g1 g2
  have k0 := A2.cell 0 (v := .complex .f64 a b) rfl; have k1 := A2.cell 1 (v := .bool f) rfl; have k2 := A2.cell 2 (v := .complex .f64 c d) rfl
  have hv := validC a b f c d
  have hw := validC a2 b2 f2 c2 d2
  obtain ⟨W3, hW3, sz3, g3, B3⟩ := boxn W2 #[.complex .f64 0 0, .bool false, .complex .f64 0 0] 48
  have A3 := A2.kept g3 (by simp)
  have C3 := B2.kept g3 (by simp)
  have G3 := gb_trans G2 g3
  have le := G2.size
  have st := stC
  have kk0 := A3.cell 0 (v := .complex .f64 a b) rfl; have kk1 := A3.cell 1 (v := .bool f) rfl; have kk2 := A3.cell 2 (v := .complex .f64 c d) rfl
  rw [h1.v] at hv
  rw [h2.v] at hw
  have hJ := joinC a b f c d a2 b2 f2 c2 d2 h1 h2
  have hP := isPlaceC
  clear h1 h2
  cases hc : (nearB (lx l x y + u) && nearB (ly l x y + v))
  · replace hc : Hid _ := hc
    go_enter Try.func58, Try.ntmps58
    go_wp2_with (first | (go_at_call 37; (fail_if_success (guard_hyp g4)); refine (hv _).mono ?_; rintro e w4 ⟨rfl, g4⟩; have A4 := A3.kept g4 (by simp); have C4 := C3.kept g4 (by simp); have B4 := B3.kept g4 (by simp); have G4 := gb_trans G3 g4; have l0 := A4.cell 0 (v := .complex .f64 a b) rfl; have l1 := A4.cell 1 (v := .bool f) rfl; have l2 := A4.cell 2 (v := .complex .f64 c d) rfl; have m0 := C4.cell 0 (v := (.complex .f64 a2 b2)) rfl; have m1 := C4.cell 1 (v := (.bool f2)) rfl; have m2 := C4.cell 2 (v := (.complex .f64 c2 d2)) rfl; have z0 := B4.cell 0 (v := .complex .f64 0 0) rfl; have z1 := B4.cell 1 (v := .bool false) rfl; have z2 := B4.cell 2 (v := .complex .f64 0 0) rfl; have y0 := B4.frozen 0; have y1 := B4.frozen 1; have y2 := B4.frozen 2) | (go_at_call 37; refine (hw _).mono ?_; rintro e w5 ⟨rfl, g5⟩; have A5 := A4.kept g5 (by simp); have C5 := C4.kept g5 (by simp); have B5 := B4.kept g5 (by simp); have G5 := gb_trans G4 g5; have n0 := A5.cell 0 (v := .complex .f64 a b) rfl; have n1 := A5.cell 1 (v := .bool f) rfl; have n2 := A5.cell 2 (v := .complex .f64 c d) rfl; have o0 := C5.cell 0 (v := (.complex .f64 a2 b2)) rfl; have o1 := C5.cell 1 (v := (.bool f2)) rfl; have o2 := C5.cell 2 (v := (.complex .f64 c2 d2)) rfl; have r0 := B5.cell 0 (v := .complex .f64 0 0) rfl; have r1 := B5.cell 1 (v := .bool false) rfl; have r2 := B5.cell 2 (v := .complex .f64 0 0) rfl; have s0 := B5.frozen 0; have s1 := B5.frozen 1; have s2 := B5.frozen 2) | (go_at_call 73; refine (hJ _).mono ?_; rintro e w6 ⟨p, q, r, s, rfl, mp, cl, g6⟩; obtain ⟨W7, hW7, sz7, g7, B7⟩ := boxn w6 (mv p q (f != f2) r s) 48; have R7 := (B5.kept g6 (by simp)).kept g7 (by simp); have G7 := gb_trans (gb_trans G5 g6) g7; have t0 := B7.cell 0 (v := .complex .f64 p q) rfl; have t1 := B7.cell 1 (v := .bool (f != f2)) rfl; have t2 := B7.cell 2 (v := .complex .f64 r s) rfl; have i0 := R7.cell 0 (v := .complex .f64 0 0) rfl; have i1 := R7.cell 1 (v := .bool false) rfl; have i2 := R7.cell 2 (v := .complex .f64 0 0) rfl; have j0 := R7.frozen 0; have j1 := R7.frozen 1; have j2 := R7.frozen 2; have wv : (whB r && whB s) = false := (by rw [whB_is mp.m1, whB_is mp.m2]; exact hc.out)) | (go_at_call 44; refine (hP _ _ _).mono ?_; rintro e w' ⟨rfl, hw'⟩; subst w'))
    refine ret_c2 (g := W2.heap.size) (cs := #[.complex .f64 0 0, .bool false, .complex .f64 0 0]) rfl hfs infoI rfl (bo3 R7) rfl ⟨gb3 G7 le, fun k => absurd k (by decide), fun _ => rfl⟩
  · replace hc : Hid _ := hc
    go_enter Try.func58, Try.ntmps58
    go_wp2_with (first | (go_at_call 37; (fail_if_success (guard_hyp g4)); refine (hv _).mono ?_; rintro e w4 ⟨rfl, g4⟩; have A4 := A3.kept g4 (by simp); have C4 := C3.kept g4 (by simp); have B4 := B3.kept g4 (by simp); have G4 := gb_trans G3 g4; have l0 := A4.cell 0 (v := .complex .f64 a b) rfl; have l1 := A4.cell 1 (v := .bool f) rfl; have l2 := A4.cell 2 (v := .complex .f64 c d) rfl; have m0 := C4.cell 0 (v := (.complex .f64 a2 b2)) rfl; have m1 := C4.cell 1 (v := (.bool f2)) rfl; have m2 := C4.cell 2 (v := (.complex .f64 c2 d2)) rfl; have z0 := B4.cell 0 (v := .complex .f64 0 0) rfl; have z1 := B4.cell 1 (v := .bool false) rfl; have z2 := B4.cell 2 (v := .complex .f64 0 0) rfl; have y0 := B4.frozen 0; have y1 := B4.frozen 1; have y2 := B4.frozen 2) | (go_at_call 37; refine (hw _).mono ?_; rintro e w5 ⟨rfl, g5⟩; have A5 := A4.kept g5 (by simp); have C5 := C4.kept g5 (by simp); have B5 := B4.kept g5 (by simp); have G5 := gb_trans G4 g5; have n0 := A5.cell 0 (v := .complex .f64 a b) rfl; have n1 := A5.cell 1 (v := .bool f) rfl; have n2 := A5.cell 2 (v := .complex .f64 c d) rfl; have o0 := C5.cell 0 (v := (.complex .f64 a2 b2)) rfl; have o1 := C5.cell 1 (v := (.bool f2)) rfl; have o2 := C5.cell 2 (v := (.complex .f64 c2 d2)) rfl; have r0 := B5.cell 0 (v := .complex .f64 0 0) rfl; have r1 := B5.cell 1 (v := .bool false) rfl; have r2 := B5.cell 2 (v := .complex .f64 0 0) rfl; have s0 := B5.frozen 0; have s1 := B5.frozen 1; have s2 := B5.frozen 2) | (go_at_call 73; refine (hJ _).mono ?_; rintro e w6 ⟨p, q, r, s, rfl, mp, cl, g6⟩; obtain ⟨W7, hW7, sz7, g7, B7⟩ := boxn w6 (mv p q (f != f2) r s) 48; have R7 := (B5.kept g6 (by simp)).kept g7 (by simp); have G7 := gb_trans (gb_trans G5 g6) g7; have t0 := B7.cell 0 (v := .complex .f64 p q) rfl; have t1 := B7.cell 1 (v := .bool (f != f2)) rfl; have t2 := B7.cell 2 (v := .complex .f64 r s) rfl; have i0 := R7.cell 0 (v := .complex .f64 0 0) rfl; have i1 := R7.cell 1 (v := .bool false) rfl; have i2 := R7.cell 2 (v := .complex .f64 0 0) rfl; have j0 := R7.frozen 0; have j1 := R7.frozen 1; have j2 := R7.frozen 2; have wv : (whB r && whB s) = true := (by rw [whB_is mp.m1, whB_is mp.m2]; exact hc.out)) | (go_at_call 44; refine (hP _ _ _).mono ?_; rintro e w' ⟨rfl, hw'⟩; subst w'))
    have hc1 := Bool.and_eq_true_iff.1 hc.out
    refine ret_c2 (g := W2.heap.size) (cs := mv p q (f != f2) r s) rfl hfs infoI rfl (bo3 R7) rfl ⟨gb3 G7 le, fun _ => ⟨p, q, r, s, rfl, ⟨mp, hc1.1, hc1.2⟩, cl⟩, fun k => absurd k (by decide)⟩

theorem eqC (d : Nat) (a b c e : Nat) (w : World) : (Op.equalIn (d + 1) 46 (.complex .f64 a b) (.complex .f64 c e)).run Try.prog w = .ok (Op.floatEq .f64 a c && Op.floatEq .f64 b e) w := by
  have h : Try.prog.underlying 46 = some (.complex .f64) := by first | exact Try.underlying46 | kernel_rfl
  simp [Op.equalIn, run_underlying h]
theorem feq {a c : Nat} {n m : Int} (h : Is a n) (g : Is c m) : Op.floatEq .f64 a c = decide (n = m) := by
  unfold Op.floatEq
  have := is_order h g
  have e : FloatKind.f64.format.order a c = some (compare n m) := this
  rw [e]; exact cmp_eq
/-- Do the words of two maps say the same? -/
def eqW (a b : Nat) (f : Bool) (c d a2 b2 : Nat) (f2 : Bool) (c2 d2 : Nat) : Bool := (Op.floatEq .f64 a a2 && Op.floatEq .f64 b b2) && ((f == f2) && (Op.floatEq .f64 c c2 && Op.floatEq .f64 d d2))
theorem part_eq : ∀ k, k < 8 → ∀ l, l < 8 → (tx k = tx l ∧ ty k = ty l ∧ fl4 k = fl4 l ↔ k = l) := by decide
theorem eqW_is {a b : Nat} {f : Bool} {c d a2 b2 : Nat} {f2 : Bool} {c2 d2 k l : Nat} {x y u v : Int} (h : Mp a b f c d k x y) (g : Mp a2 b2 f2 c2 d2 l u v) : eqW a b f c d a2 b2 f2 c2 d2 = decide (k = l ∧ x = u ∧ y = v) := by
  unfold eqW
  rw [feq h.t1 g.t1, feq h.t2 g.t2, feq h.m1 g.m1, feq h.m2 g.m2, h.fl, g.fl]
  have := part_eq k h.lt l g.lt
  by_cases q : k = l
  · subst q; simp
  · have hn : decide (k = l ∧ x = u ∧ y = v) = false := decide_eq_false (fun z => q z.1)
    rw [hn]
    refine Bool.eq_false_iff.2 fun z => q (this.1 ?_)
    simp only [Bool.and_eq_true, decide_eq_true_eq, beq_iff_eq] at z
    exact ⟨z.1.1, z.1.2, z.2.1⟩
end Go.Proofs.Ytgiiaokkmnjckab
