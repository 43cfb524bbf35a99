/- What the document's Valid, Part, Which, Shift, At and Same answer. -/
import Derived.Test.YtmlehegahgijhaaJ2
namespace Go.Proofs.Ytmlehegahgijhaa
open Go.RowKit
open Fl
set_option linter.unusedVariables false
set_option linter.unusedSimpArgs false
set_option maxRecDepth 100000

theorem refValidC (a b : Nat) (f : Bool) (c d : Nat) (w : World) : Calls Try.prog 23 #[.agg (mv a b f c d)] w fun e w' => e = .returned (.bool (vB a b c d)) ∧ w.grownBy w' none := by
  obtain ⟨W1, hW1, sz1, g1, B1⟩ := boxn w (mv a b f c d) 25
  have c0 := B1.cell 0 (v := .complex .f64 a b) rfl; have c1 := B1.cell 1 (v := .bool f) rfl; have c2 := B1.cell 2 (v := .complex .f64 c d) rfl
  cases h : vB a b c d
  · have hh := refPartsNo a b f c d h
    clear h
    go_enter Try.func23, Try.ntmps23
    go_wp2_with (first | (go_at_call 40; refine (hh _).mono ?_; rintro e w2 ⟨rfl, g2⟩))
    go_ret
    exact ⟨rfl, gb_trans g1 g2⟩
  · obtain ⟨k, x, y, my⟩ := may_of f h
    have hh := refPartsYes a b f c d my
    clear h my
    go_enter Try.func23, Try.ntmps23
    go_wp2_with (first | (go_at_call 40; refine (hh _).mono ?_; rintro e w2 ⟨rfl, g2⟩))
    go_ret
    exact ⟨rfl, gb_trans g1 g2⟩
theorem refWhichNo (a b : Nat) (f : Bool) (c d : Nat) (h : vB a b c d = false) (w : World) : Calls Try.prog 20 #[.agg (mv a b f c d)] w fun e w' => e = .returned (.tuple #[.int .i64 0, .int .i64 50]) ∧ w.grownBy w' none := by
  obtain ⟨W1, hW1, sz1, g1, B1⟩ := boxn w (mv a b f c d) 25
  have c0 := B1.cell 0 (v := .complex .f64 a b) rfl; have c1 := B1.cell 1 (v := .bool f) rfl; have c2 := B1.cell 2 (v := .complex .f64 c d) rfl
  have hh := refPartsNo a b f c d h
  clear h
  go_enter Try.func20, Try.ntmps20
  go_wp2_with (first | (go_at_call 40; refine (hh _).mono ?_; rintro e w2 ⟨rfl, g2⟩))
  go_ret2
  exact ⟨rfl, gb_trans g1 g2⟩
theorem refWhichYes (a b : Nat) (f : Bool) (c d : Nat) {k : Nat} {x y : Int} (my : May a b f c d k x y) (w : World) : Calls Try.prog 20 #[.agg (mv a b f c d)] w fun e w' => e = .returned (.tuple #[.int .i64 k, .int .i64 0]) ∧ w.grownBy w' none := by
  obtain ⟨W1, hW1, sz1, g1, B1⟩ := boxn w (mv a b f c d) 25
  have c0 := B1.cell 0 (v := .complex .f64 a b) rfl; have c1 := B1.cell 1 (v := .bool f) rfl; have c2 := B1.cell 2 (v := .complex .f64 c d) rfl
  have hh := refPartsYes a b f c d my
  clear my
  go_enter Try.func20, Try.ntmps20
  go_wp2_with (first | (go_at_call 40; refine (hh _).mono ?_; rintro e w2 ⟨rfl, g2⟩))
  go_ret2
  exact ⟨rfl, gb_trans g1 g2⟩

theorem refPartNo (n : Int) (h : n < 0 ∨ 7 < n) (w : World) : Calls Try.prog 15 #[.int .i64 n] w fun e w' => e = .returned (.tuple #[.agg (mv 0 0 false 0 0), .int .i64 2]) ∧ w.grownBy w' none := by
  obtain ⟨fs, hfs⟩ := underI
  obtain ⟨W1, hW1, sz1, g1, B1⟩ := boxn w #[.complex .f64 0 0, .bool false, .complex .f64 0 0] 25
  have st := stC
  have c0 := B1.cell 0 (v := .complex .f64 0 0) rfl; have c1 := B1.cell 1 (v := .bool false) rfl; have c2 := B1.cell 2 (v := .complex .f64 0 0) rfl
  have y0 := B1.frozen 0; have y1 := B1.frozen 1; have y2 := B1.frozen 2
  rcases h with h | h
  all_goals
    go_enter Try.func15, Try.ntmps15
    go_wp2
    refine ret_c2 (g := w.heap.size) (cs := mv 0 0 false 0 0) rfl hfs infoI rfl (bo3 B1) rfl ⟨rfl, gb3 g1 (Nat.le_refl _)⟩
theorem refPartYes (k : Nat) (h : k < 8) (w : World) : Calls Try.prog 15 #[.int .i64 k] w fun e w' => e = .returned (.tuple #[.agg (mv (pa k) (pb k) (fl4 k) 0 0), .int .i64 0]) ∧ w.grownBy w' none := by
  obtain ⟨fs, hfs⟩ := underI
  obtain ⟨W1, hW1, sz1, g1, B1⟩ := boxn w #[.complex .f64 0 0, .bool false, .complex .f64 0 0] 25
  have st := stC
  have c0 := B1.cell 0 (v := .complex .f64 0 0) rfl; have c1 := B1.cell 1 (v := .bool false) rfl; have c2 := B1.cell 2 (v := .complex .f64 0 0) rfl
  have y0 := B1.frozen 0; have y1 := B1.frozen 1; have y2 := B1.frozen 2
  have hM := refMadeC k h 0 0
  rw [fl0] at hM
  have hk1 : ¬ (k : Int) < 0 := by omega
  have hk2 : ¬ 7 < (k : Int) := by omega
  go_enter Try.func15, Try.ntmps15
  go_wp2_with (first | (go_at_call 36; refine (hM _).mono ?_; rintro e w2 ⟨rfl, g2⟩; have B2 := B1.kept g2 (by simp); have d0 := B2.cell 0 (v := .complex .f64 0 0) rfl; have d1 := B2.cell 1 (v := .bool false) rfl; have d2 := B2.cell 2 (v := .complex .f64 0 0) rfl; have z0 := B2.frozen 0; have z1 := B2.frozen 1; have z2 := B2.frozen 2))
  refine ret_c2 (g := w.heap.size) (cs := mv (pa k) (pb k) (fl4 k) 0 0) rfl hfs infoI rfl (bo3 B2) rfl ⟨rfl, gb3 (gb_trans g1 g2) (Nat.le_refl _)⟩
theorem refShiftNo (x y : Int) (h : (nearB x && nearB y) = false) (w : World) : Calls Try.prog 24 #[.int .i64 x, .int .i64 y] w fun e w' => e = .returned (.tuple #[.agg (mv 0 0 false 0 0), .int .i64 5]) ∧ w.grownBy w' none := by
  obtain ⟨fs, hfs⟩ := underI
  obtain ⟨W1, hW1, sz1, g1, B1⟩ := boxn w #[.complex .f64 0 0, .bool false, .complex .f64 0 0] 25
  have st := stC
  have c0 := B1.cell 0 (v := .complex .f64 0 0) rfl; have c1 := B1.cell 1 (v := .bool false) rfl; have c2 := B1.cell 2 (v := .complex .f64 0 0) rfl
  have y0 := B1.frozen 0; have y1 := B1.frozen 1; have y2 := B1.frozen 2
  have hi := refNearC
  cases hx : nearB x
  · go_enter Try.func24, Try.ntmps24
    go_wp2_with (first | (go_at_call 45; refine (hi _ _).mono ?_; rintro e w' ⟨rfl, hw'⟩; subst w'))
    refine ret_c2 (g := w.heap.size) (cs := mv 0 0 false 0 0) rfl hfs infoI rfl (bo3 B1) rfl ⟨rfl, gb3 g1 (Nat.le_refl _)⟩
  · have hy : nearB y = false := by rw [hx] at h; exact h
    clear h
    go_enter Try.func24, Try.ntmps24
    go_wp2_with (first | (go_at_call 45; refine (hi _ _).mono ?_; rintro e w' ⟨rfl, hw'⟩; subst w'))
    refine ret_c2 (g := w.heap.size) (cs := mv 0 0 false 0 0) rfl hfs infoI rfl (bo3 B1) rfl ⟨rfl, gb3 g1 (Nat.le_refl _)⟩
theorem refShiftYes (x y : Int) (hx : nearB x = true) (hy : nearB y = true) (w : World) : Calls Try.prog 24 #[.int .i64 x, .int .i64 y] w fun e w' => e = .returned (.tuple #[.agg (mv 4607182418800017408 0 false (floatOfInt .f64 x) (floatOfInt .f64 y)), .int .i64 0]) ∧ w.grownBy w' none := by
  obtain ⟨fs, hfs⟩ := underI
  obtain ⟨W1, hW1, sz1, g1, B1⟩ := boxn w #[.complex .f64 0 0, .bool false, .complex .f64 0 0] 25
  have st := stC
  have c0 := B1.cell 0 (v := .complex .f64 0 0) rfl; have c1 := B1.cell 1 (v := .bool false) rfl; have c2 := B1.cell 2 (v := .complex .f64 0 0) rfl
  have y0 := B1.frozen 0; have y1 := B1.frozen 1; have y2 := B1.frozen 2
  have hi := refNearC
  have hM : ∀ w, Calls Try.prog 36 #[.int .i64 0, .int .i64 x, .int .i64 y] w fun e w' => e = .returned (.agg (mv 4607182418800017408 0 false (floatOfInt .f64 x) (floatOfInt .f64 y))) ∧ w.grownBy w' none := refMadeC 0 (by decide) x y
  go_enter Try.func24, Try.ntmps24
  go_wp2_with (first | (go_at_call 45; refine (hi _ _).mono ?_; rintro e w' ⟨rfl, hw'⟩; subst w') | (go_at_call 36; refine (hM _).mono ?_; rintro e w2 ⟨rfl, g2⟩; have B2 := B1.kept g2 (by simp); have d0 := B2.cell 0 (v := .complex .f64 0 0) rfl; have d1 := B2.cell 1 (v := .bool false) rfl; have d2 := B2.cell 2 (v := .complex .f64 0 0) rfl; have z0 := B2.frozen 0; have z1 := B2.frozen 1; have z2 := B2.frozen 2))
  refine ret_c2 (g := w.heap.size) (cs := mv 4607182418800017408 0 false (floatOfInt .f64 x) (floatOfInt .f64 y)) rfl hfs infoI rfl (bo3 B2) rfl ⟨rfl, gb3 (gb_trans g1 g2) (Nat.le_refl _)⟩

theorem refAtNo (a b : Nat) (f : Bool) (c d : Nat) (X Y : Int) (h : vB a b c d = false) (w : World) : Calls Try.prog 25 #[.agg (mv a b f c d), .agg #[.int .i64 X, .int .i64 Y]] w fun e w' => e = .returned (.tuple #[.agg #[.int .i64 0, .int .i64 0], .int .i64 50]) ∧ w.grownBy w' none := by
  obtain ⟨fs, hfs⟩ := underP
  obtain ⟨W1, hW1, sz1, g1, B1⟩ := boxn w (mv a b f c d) 25
  obtain ⟨W2, hW2, sz2, g2, B2⟩ := boxn W1 #[.int .i64 X, .int .i64 Y] 30
  obtain ⟨W3, hW3, sz3, g3, B3⟩ := boxn W2 #[.int .i64 0, .int .i64 0] 30
  have A3 := (B1.kept g2 (by simp)).kept g3 (by simp)
  have P3 := B2.kept g3 (by simp)
  have G3 := gb_trans (gb_trans g1 g2) g3
  have le := (gb_trans g1 g2).size
  have k0 := A3.cell 0 (v := .complex .f64 a b) rfl; have k1 := A3.cell 1 (v := .bool f) rfl; have k2 := A3.cell 2 (v := .complex .f64 c d) rfl
  have hi := refNearC
  have hh := refPartsNo a b f c d h
  clear h
  go_enter Try.func25, Try.ntmps25
  go_wp2_with (first | (go_at_call 40; refine (hh _).mono ?_; rintro e w4 ⟨rfl, g4⟩; have P4 := P3.kept g4 (by simp); have B4 := B3.kept g4 (by simp); have G4 := gb_trans G3 g4; have p0 := P4.cell 0 (v := .int .i64 X) rfl; have p1 := P4.cell 1 (v := .int .i64 Y) rfl; have z0 := B4.cell 0 (v := .int .i64 0) rfl; have z1 := B4.cell 1 (v := .int .i64 0) rfl; have y0 := B4.frozen 0; have y1 := B4.frozen 1) | (go_at_call 45; refine (hi _ _).mono ?_; rintro e w' ⟨rfl, hw'⟩; subst w'))
  refine ret_c2 (g := W2.heap.size) (cs := #[.int .i64 0, .int .i64 0]) rfl hfs infoP rfl (bo2 B4) rfl ⟨rfl, gb2 G4 le⟩
theorem refAtFar (a b : Nat) (f : Bool) (c d : Nat) (X Y : Int) {k : Nat} {x y : Int} (my : May a b f c d k x y) (hn : (nearB X && nearB Y) = false) (w : World) : Calls Try.prog 25 #[.agg (mv a b f c d), .agg #[.int .i64 X, .int .i64 Y]] w fun e w' => e = .returned (.tuple #[.agg #[.int .i64 0, .int .i64 0], .int .i64 5]) ∧ w.grownBy w' none := by
  obtain ⟨fs, hfs⟩ := underP
  obtain ⟨W1, hW1, sz1, g1, B1⟩ := boxn w (mv a b f c d) 25
  obtain ⟨W2, hW2, sz2, g2, B2⟩ := boxn W1 #[.int .i64 X, .int .i64 Y] 30
  obtain ⟨W3, hW3, sz3, g3, B3⟩ := boxn W2 #[.int .i64 0, .int .i64 0] 30
  have A3 := (B1.kept g2 (by simp)).kept g3 (by simp)
  have P3 := B2.kept g3 (by simp)
  have G3 := gb_trans (gb_trans g1 g2) g3
  have le := (gb_trans g1 g2).size
  have k0 := A3.cell 0 (v := .complex .f64 a b) rfl; have k1 := A3.cell 1 (v := .bool f) rfl; have k2 := A3.cell 2 (v := .complex .f64 c d) rfl
  have hi := refNearC
  have hh := refPartsYes a b f c d my
  clear my
  cases hx : nearB X
  · clear hn
    go_enter Try.func25, Try.ntmps25
    go_wp2_with (first | (go_at_call 40; refine (hh _).mono ?_; rintro e w4 ⟨rfl, g4⟩; have P4 := P3.kept g4 (by simp); have B4 := B3.kept g4 (by simp); have G4 := gb_trans G3 g4; have p0 := P4.cell 0 (v := .int .i64 X) rfl; have p1 := P4.cell 1 (v := .int .i64 Y) rfl; have z0 := B4.cell 0 (v := .int .i64 0) rfl; have z1 := B4.cell 1 (v := .int .i64 0) rfl; have y0 := B4.frozen 0; have y1 := B4.frozen 1) | (go_at_call 45; refine (hi _ _).mono ?_; rintro e w' ⟨rfl, hw'⟩; subst w'))
    refine ret_c2 (g := W2.heap.size) (cs := #[.int .i64 0, .int .i64 0]) rfl hfs infoP rfl (bo2 B4) rfl ⟨rfl, gb2 G4 le⟩
  · have hy : nearB Y = false := by rw [hx] at hn; exact hn
    clear hn
    go_enter Try.func25, Try.ntmps25
    go_wp2_with (first | (go_at_call 40; refine (hh _).mono ?_; rintro e w4 ⟨rfl, g4⟩; have P4 := P3.kept g4 (by simp); have B4 := B3.kept g4 (by simp); have G4 := gb_trans G3 g4; have p0 := P4.cell 0 (v := .int .i64 X) rfl; have p1 := P4.cell 1 (v := .int .i64 Y) rfl; have z0 := B4.cell 0 (v := .int .i64 0) rfl; have z1 := B4.cell 1 (v := .int .i64 0) rfl; have y0 := B4.frozen 0; have y1 := B4.frozen 1) | (go_at_call 45; refine (hi _ _).mono ?_; rintro e w' ⟨rfl, hw'⟩; subst w'))
    refine ret_c2 (g := W2.heap.size) (cs := #[.int .i64 0, .int .i64 0]) rfl hfs infoP rfl (bo2 B4) rfl ⟨rfl, gb2 G4 le⟩
theorem refAt_core (a b : Nat) (f : Bool) (c d : Nat) (X Y : Int) {k : Nat} {x y : Int} (my : May a b f c d k x y) (hx : nearB X = true) (hy : nearB Y = true) (U V : Int) (hU : lx k X Y + x = U) (hV : ly k X Y + y = V) (w : World) :
    Calls Try.prog 25 #[.agg (mv a b f c d), .agg #[.int .i64 X, .int .i64 Y]] w fun e w' => e = .returned (.tuple #[.agg (if nearB U && nearB V then #[.int .i64 U, .int .i64 V] else #[.int .i64 0, .int .i64 0]), .int .i64 (if nearB U && nearB V then 0 else 5)]) ∧ w.grownBy w' none := by
  obtain ⟨fs, hfs⟩ := underP
  obtain ⟨W1, hW1, sz1, g1, B1⟩ := boxn w (mv a b f c d) 25
  obtain ⟨W2, hW2, sz2, g2, B2⟩ := boxn W1 #[.int .i64 X, .int .i64 Y] 30
  obtain ⟨W3, hW3, sz3, g3, B3⟩ := boxn W2 #[.int .i64 0, .int .i64 0] 30
  have A3 := (B1.kept g2 (by simp)).kept g3 (by simp)
  have P3 := B2.kept g3 (by simp)
  have G3 := gb_trans (gb_trans g1 g2) g3
  have le := (gb_trans g1 g2).size
  have k0 := A3.cell 0 (v := .complex .f64 a b) rfl; have k1 := A3.cell 1 (v := .bool f) rfl; have k2 := A3.cell 2 (v := .complex .f64 c d) rfl
  have hi := refNearC
  have hh := refPartsYes a b f c d my
  have n1 := near_of hx
  have n2 := near_of hy
  have n3 := near_of my.n1
  have n4 := near_of my.n2
  obtain ⟨l1, l2⟩ := l_abs k X Y
  obtain ⟨u, hu⟩ : ∃ u, lx k X Y = u := ⟨_, rfl⟩
  obtain ⟨v, hv⟩ : ∃ v, ly k X Y = v := ⟨_, rfl⟩
  have hL := refLinC k my.lt X Y (by unfold Mid; omega) (by unfold Mid; omega) u v hu hv
  rw [hu] at hU l1
  rw [hv] at hV l2
  have w1' : IntKind.i64.wrap (u + x) = U := by rw [IntKind.wrap_i64]; omega
  have w2' : IntKind.i64.wrap (v + y) = V := by rw [IntKind.wrap_i64]; omega
  clear my n1 n2 n3 n4 l1 l2 hu hv hU hV
  cases hnu : nearB U
  · go_enter Try.func25, Try.ntmps25
    go_wp2_with (first | (go_at_call 40; refine (hh _).mono ?_; rintro e w4 ⟨rfl, g4⟩; have P4 := P3.kept g4 (by simp); have B4 := B3.kept g4 (by simp); have G4 := gb_trans G3 g4; have p0 := P4.cell 0 (v := .int .i64 X) rfl; have p1 := P4.cell 1 (v := .int .i64 Y) rfl; have z0 := B4.cell 0 (v := .int .i64 0) rfl; have z1 := B4.cell 1 (v := .int .i64 0) rfl; have y0 := B4.frozen 0; have y1 := B4.frozen 1) | (go_at_call 45; refine (hi _ _).mono ?_; rintro e w' ⟨rfl, hw'⟩; subst w') | (go_at_call 44; refine (hL _).mono ?_; rintro e w' ⟨rfl, hw'⟩; subst w'))
    refine ret_c2 (g := W2.heap.size) (cs := #[.int .i64 0, .int .i64 0]) rfl hfs infoP rfl (bo2 B4) rfl ⟨rfl, gb2 G4 le⟩
  · cases hnv : nearB V
    · go_enter Try.func25, Try.ntmps25
      go_wp2_with (first | (go_at_call 40; refine (hh _).mono ?_; rintro e w4 ⟨rfl, g4⟩; have P4 := P3.kept g4 (by simp); have B4 := B3.kept g4 (by simp); have G4 := gb_trans G3 g4; have p0 := P4.cell 0 (v := .int .i64 X) rfl; have p1 := P4.cell 1 (v := .int .i64 Y) rfl; have z0 := B4.cell 0 (v := .int .i64 0) rfl; have z1 := B4.cell 1 (v := .int .i64 0) rfl; have y0 := B4.frozen 0; have y1 := B4.frozen 1) | (go_at_call 45; refine (hi _ _).mono ?_; rintro e w' ⟨rfl, hw'⟩; subst w') | (go_at_call 44; refine (hL _).mono ?_; rintro e w' ⟨rfl, hw'⟩; subst w'))
      refine ret_c2 (g := W2.heap.size) (cs := #[.int .i64 0, .int .i64 0]) rfl hfs infoP rfl (bo2 B4) rfl ⟨rfl, gb2 G4 le⟩
    · go_enter Try.func25, Try.ntmps25
      go_wp2_with (first | (go_at_call 40; refine (hh _).mono ?_; rintro e w4 ⟨rfl, g4⟩; have P4 := P3.kept g4 (by simp); have B4 := B3.kept g4 (by simp); have G4 := gb_trans G3 g4; have p0 := P4.cell 0 (v := .int .i64 X) rfl; have p1 := P4.cell 1 (v := .int .i64 Y) rfl; have z0 := B4.cell 0 (v := .int .i64 0) rfl; have z1 := B4.cell 1 (v := .int .i64 0) rfl; have y0 := B4.frozen 0; have y1 := B4.frozen 1) | (go_at_call 45; refine (hi _ _).mono ?_; rintro e w' ⟨rfl, hw'⟩; subst w') | (go_at_call 44; refine (hL _).mono ?_; rintro e w' ⟨rfl, hw'⟩; subst w'))
      refine ret_c2 (g := W2.heap.size) (cs := #[.int .i64 U, .int .i64 V]) rfl hfs infoP rfl (bo2 B4) rfl ⟨rfl, gb2 G4 le⟩

theorem refSameNo (a b : Nat) (f : Bool) (c d a2 b2 : Nat) (f2 : Bool) (c2 d2 : Nat) (h : (vB a b c d && vB a2 b2 c2 d2) = false) (w : World) : Calls Try.prog 29 #[.agg (mv a b f c d), .agg (mv a2 b2 f2 c2 d2)] w fun e w' => e = .returned (.tuple #[.bool false, .int .i64 50]) ∧ w.grownBy w' none := by
  obtain ⟨W1, hW1, sz1, g1, B1⟩ := boxn w (mv a b f c d) 25
  obtain ⟨W2, hW2, sz2, g2, B2⟩ := boxn W1 (mv a2 b2 f2 c2 d2) 25
  have A2 := B1.kept g2 (by simp)
  have G2 := gb_trans g1 g2
  have k0 := A2.cell 0 (v := .complex .f64 a b) rfl; have k1 := A2.cell 1 (v := .bool f) rfl; have k2 := A2.cell 2 (v := .complex .f64 c d) rfl
  cases h1 : vB a b c d
  · have hh := refPartsNo a b f c d h1
    clear h h1
    cases h2 : vB a2 b2 c2 d2
    · have hg := refPartsNo a2 b2 f2 c2 d2 h2
      clear h2
      go_enter Try.func29, Try.ntmps29
      go_wp2_with (first | (go_at_call 40; (fail_if_success (guard_hyp g4)); refine (hh _).mono ?_; rintro e w4 ⟨rfl, g4⟩; have C4 := B2.kept g4 (by simp); have G4 := gb_trans G2 g4; have m0 := C4.cell 0 (v := (.complex .f64 a2 b2)) rfl; have m1 := C4.cell 1 (v := (.bool f2)) rfl; have m2 := C4.cell 2 (v := (.complex .f64 c2 d2)) rfl) | (go_at_call 40; refine (hg _).mono ?_; rintro e w5 ⟨rfl, g5⟩; have G5 := gb_trans G4 g5))
      go_ret2
      exact ⟨rfl, G5⟩
    · obtain ⟨l, u, v, my⟩ := may_of f2 h2
      have hg := refPartsYes a2 b2 f2 c2 d2 my
      clear h2 my
      go_enter Try.func29, Try.ntmps29
      go_wp2_with (first | (go_at_call 40; (fail_if_success (guard_hyp g4)); refine (hh _).mono ?_; rintro e w4 ⟨rfl, g4⟩; have C4 := B2.kept g4 (by simp); have G4 := gb_trans G2 g4; have m0 := C4.cell 0 (v := (.complex .f64 a2 b2)) rfl; have m1 := C4.cell 1 (v := (.bool f2)) rfl; have m2 := C4.cell 2 (v := (.complex .f64 c2 d2)) rfl) | (go_at_call 40; refine (hg _).mono ?_; rintro e w5 ⟨rfl, g5⟩; have G5 := gb_trans G4 g5))
      go_ret2
      exact ⟨rfl, G5⟩
  · have h2 : vB a2 b2 c2 d2 = false := by rw [h1] at h; exact h
    obtain ⟨l, u, v, my⟩ := may_of f h1
    have hh := refPartsYes a b f c d my
    have hg := refPartsNo a2 b2 f2 c2 d2 h2
    clear h h1 h2 my
    go_enter Try.func29, Try.ntmps29
    go_wp2_with (first | (go_at_call 40; (fail_if_success (guard_hyp g4)); refine (hh _).mono ?_; rintro e w4 ⟨rfl, g4⟩; have C4 := B2.kept g4 (by simp); have G4 := gb_trans G2 g4; have m0 := C4.cell 0 (v := (.complex .f64 a2 b2)) rfl; have m1 := C4.cell 1 (v := (.bool f2)) rfl; have m2 := C4.cell 2 (v := (.complex .f64 c2 d2)) rfl) | (go_at_call 40; refine (hg _).mono ?_; rintro e w5 ⟨rfl, g5⟩; have G5 := gb_trans G4 g5))
    go_ret2
    exact ⟨rfl, G5⟩
theorem refSameYes (a b : Nat) (f : Bool) (c d a2 b2 : Nat) (f2 : Bool) (c2 d2 : Nat) {k l : Nat} {x y u v : Int} (h1 : May a b f c d k x y) (h2 : May a2 b2 f2 c2 d2 l u v) (w : World) : Calls Try.prog 29 #[.agg (mv a b f c d), .agg (mv a2 b2 f2 c2 d2)] w fun e w' => e = .returned (.tuple #[.bool (decide (k = l ∧ x = u ∧ y = v)), .int .i64 0]) ∧ w.grownBy w' none := by
  obtain ⟨W1, hW1, sz1, g1, B1⟩ := boxn w (mv a b f c d) 25
  obtain ⟨W2, hW2, sz2, g2, B2⟩ := boxn W1 (mv a2 b2 f2 c2 d2) 25
  have A2 := B1.kept g2 (by simp)
  have G2 := gb_trans g1 g2
  have k0 := A2.cell 0 (v := .complex .f64 a b) rfl; have k1 := A2.cell 1 (v := .bool f) rfl; have k2 := A2.cell 2 (v := .complex .f64 c d) rfl
  have hh := refPartsYes a b f c d h1
  have hg := refPartsYes a2 b2 f2 c2 d2 h2
  have hd : decide (k = l ∧ x = u ∧ y = v) = (decide ((k : Int) = (l : Int)) && (decide (x = u) && decide (y = v))) := by
    rw [← Bool.decide_and, ← Bool.decide_and]
    exact decide_eq_decide.2 (by omega)
  rw [hd]
  clear h1 h2 hd
  obtain ⟨K, hK⟩ : ∃ K : Int, (k : Int) = K := ⟨_, rfl⟩
  obtain ⟨M, hM⟩ : ∃ M : Int, (l : Int) = M := ⟨_, rfl⟩
  rw [hK] at hh ⊢
  rw [hM] at hg ⊢
  clear hK hM
  by_cases q1 : K = M
  · by_cases q2 : x = u
    · go_enter Try.func29, Try.ntmps29
      go_wp2_with (first | (go_at_call 40; (fail_if_success (guard_hyp g4)); refine (hh _).mono ?_; rintro e w4 ⟨rfl, g4⟩; have C4 := B2.kept g4 (by simp); have G4 := gb_trans G2 g4; have m0 := C4.cell 0 (v := (.complex .f64 a2 b2)) rfl; have m1 := C4.cell 1 (v := (.bool f2)) rfl; have m2 := C4.cell 2 (v := (.complex .f64 c2 d2)) rfl) | (go_at_call 40; refine (hg _).mono ?_; rintro e w5 ⟨rfl, g5⟩; have G5 := gb_trans G4 g5))
      go_ret2
      exact ⟨by first | (simp [q1, q2]; done) | (simp [q1, q2]; rfl), G5⟩
    · go_enter Try.func29, Try.ntmps29
      go_wp2_with (first | (go_at_call 40; (fail_if_success (guard_hyp g4)); refine (hh _).mono ?_; rintro e w4 ⟨rfl, g4⟩; have C4 := B2.kept g4 (by simp); have G4 := gb_trans G2 g4; have m0 := C4.cell 0 (v := (.complex .f64 a2 b2)) rfl; have m1 := C4.cell 1 (v := (.bool f2)) rfl; have m2 := C4.cell 2 (v := (.complex .f64 c2 d2)) rfl) | (go_at_call 40; refine (hg _).mono ?_; rintro e w5 ⟨rfl, g5⟩; have G5 := gb_trans G4 g5))
      go_ret2
      exact ⟨by first | (simp [q1, q2]; done) | (simp [q1, q2]; rfl), G5⟩
  · go_enter Try.func29, Try.ntmps29
    go_wp2_with (first | (go_at_call 40; (fail_if_success (guard_hyp g4)); refine (hh _).mono ?_; rintro e w4 ⟨rfl, g4⟩; have C4 := B2.kept g4 (by simp); have G4 := gb_trans G2 g4; have m0 := C4.cell 0 (v := (.complex .f64 a2 b2)) rfl; have m1 := C4.cell 1 (v := (.bool f2)) rfl; have m2 := C4.cell 2 (v := (.complex .f64 c2 d2)) rfl) | (go_at_call 40; refine (hg _).mono ?_; rintro e w5 ⟨rfl, g5⟩; have G5 := gb_trans G4 g5))
    go_ret2
    exact ⟨by simp [q1], G5⟩
end Go.Proofs.Ytmlehegahgijhaa
