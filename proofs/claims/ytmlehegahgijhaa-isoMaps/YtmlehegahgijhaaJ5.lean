/- What the document's Then, Back and Times answer. -/
import Derived.Test.YtmlehegahgijhaaJ3
import Derived.Test.YtmlehegahgijhaaJ4
namespace Go.Proofs.Ytmlehegahgijhaa
open Go.RowKit
open Fl
set_option linter.unusedVariables false
set_option linter.unusedSimpArgs false
set_option maxRecDepth 100000

theorem refThenNo (a b : Nat) (f : Bool) (c d a2 b2 : Nat) (f2 : Bool) (c2 d2 : Nat) (h : (vB a b c d && vB a2 b2 c2 d2) = false) (w : World) : Calls Try.prog 27 #[.agg (mv a b f c d), .agg (mv a2 b2 f2 c2 d2)] w fun e w' => e = .returned (.tuple #[.agg (mv 0 0 false 0 0), .int .i64 50]) ∧ w.grownBy w' none := by
  obtain ⟨fs, hfs⟩ := underI
  obtain ⟨W1, hW1, sz1, g1, B1⟩ := boxn w (mv a b f c d) 25
  obtain ⟨W2, hW2, sz2, g2, B2⟩ := boxn W1 (mv a2 b2 f2 c2 d2) 25
  obtain ⟨W3, hW3, sz3, g3, B3⟩ := boxn W2 #[.complex .f64 0 0, .bool false, .complex .f64 0 0] 25
  have A3 := (B1.kept g2 (by simp)).kept g3 (by simp)
  have C3 := B2.kept g3 (by simp)
  have G3 := gb_trans (gb_trans g1 g2) g3
  have le := (gb_trans g1 g2).size
  have st := stC
  have k0 := A3.cell 0 (v := .complex .f64 a b) rfl; have k1 := A3.cell 1 (v := .bool f) rfl; have k2 := A3.cell 2 (v := .complex .f64 c d) rfl
  cases h1 : vB a b c d
  · have hh := refPartsNo a b f c d h1
    clear h h1
    cases h2 : vB a2 b2 c2 d2
    · have hg := refPartsNo a2 b2 f2 c2 d2 h2
      clear h2
      go_enter Try.func27, Try.ntmps27
      go_wp2_with (first | (go_at_call 40; (fail_if_success (guard_hyp g4)); refine (hh _).mono ?_; rintro e w4 ⟨rfl, g4⟩; have C4 := C3.kept g4 (by simp); have B4 := B3.kept g4 (by simp); have G4 := gb_trans G3 g4; have m0 := C4.cell 0 (v := (.complex .f64 a2 b2)) rfl; have m1 := C4.cell 1 (v := (.bool f2)) rfl; have m2 := C4.cell 2 (v := (.complex .f64 c2 d2)) rfl) | (go_at_call 40; refine (hg _).mono ?_; rintro e w5 ⟨rfl, g5⟩; have B5 := B4.kept g5 (by simp); have G5 := gb_trans G4 g5; have r0 := B5.cell 0 (v := .complex .f64 0 0) rfl; have r1 := B5.cell 1 (v := .bool false) rfl; have r2 := B5.cell 2 (v := .complex .f64 0 0) rfl; have s0 := B5.frozen 0; have s1 := B5.frozen 1; have s2 := B5.frozen 2))
      refine ret_c2 (g := W2.heap.size) (cs := #[.complex .f64 0 0, .bool false, .complex .f64 0 0]) rfl hfs infoI rfl (bo3 B5) rfl ⟨rfl, gb3 G5 le⟩
    · obtain ⟨l, u, v, my⟩ := may_of f2 h2
      have hg := refPartsYes a2 b2 f2 c2 d2 my
      clear h2 my
      go_enter Try.func27, Try.ntmps27
      go_wp2_with (first | (go_at_call 40; (fail_if_success (guard_hyp g4)); refine (hh _).mono ?_; rintro e w4 ⟨rfl, g4⟩; have C4 := C3.kept g4 (by simp); have B4 := B3.kept g4 (by simp); have G4 := gb_trans G3 g4; have m0 := C4.cell 0 (v := (.complex .f64 a2 b2)) rfl; have m1 := C4.cell 1 (v := (.bool f2)) rfl; have m2 := C4.cell 2 (v := (.complex .f64 c2 d2)) rfl) | (go_at_call 40; refine (hg _).mono ?_; rintro e w5 ⟨rfl, g5⟩; have B5 := B4.kept g5 (by simp); have G5 := gb_trans G4 g5; have r0 := B5.cell 0 (v := .complex .f64 0 0) rfl; have r1 := B5.cell 1 (v := .bool false) rfl; have r2 := B5.cell 2 (v := .complex .f64 0 0) rfl; have s0 := B5.frozen 0; have s1 := B5.frozen 1; have s2 := B5.frozen 2))
      refine ret_c2 (g := W2.heap.size) (cs := #[.complex .f64 0 0, .bool false, .complex .f64 0 0]) rfl hfs infoI rfl (bo3 B5) rfl ⟨rfl, gb3 G5 le⟩
  · have h2 : vB a2 b2 c2 d2 = false := by rw [h1] at h; exact h
    obtain ⟨l, u, v, my⟩ := may_of f h1
    have hh := refPartsYes a b f c d my
    have hg := refPartsNo a2 b2 f2 c2 d2 h2
    clear h h1 h2 my
    go_enter Try.func27, Try.ntmps27
    go_wp2_with (first | (go_at_call 40; (fail_if_success (guard_hyp g4)); refine (hh _).mono ?_; rintro e w4 ⟨rfl, g4⟩; have C4 := C3.kept g4 (by simp); have B4 := B3.kept g4 (by simp); have G4 := gb_trans G3 g4; have m0 := C4.cell 0 (v := (.complex .f64 a2 b2)) rfl; have m1 := C4.cell 1 (v := (.bool f2)) rfl; have m2 := C4.cell 2 (v := (.complex .f64 c2 d2)) rfl) | (go_at_call 40; refine (hg _).mono ?_; rintro e w5 ⟨rfl, g5⟩; have B5 := B4.kept g5 (by simp); have G5 := gb_trans G4 g5; have r0 := B5.cell 0 (v := .complex .f64 0 0) rfl; have r1 := B5.cell 1 (v := .bool false) rfl; have r2 := B5.cell 2 (v := .complex .f64 0 0) rfl; have s0 := B5.frozen 0; have s1 := B5.frozen 1; have s2 := B5.frozen 2))
    refine ret_c2 (g := W2.heap.size) (cs := #[.complex .f64 0 0, .bool false, .complex .f64 0 0]) rfl hfs infoI rfl (bo3 B5) rfl ⟨rfl, gb3 G5 le⟩
theorem refThen_core (a b : Nat) (f : Bool) (c d a2 b2 : Nat) (f2 : Bool) (c2 d2 : Nat) {k l : Nat} {x y u v : Int} (h1 : May a b f c d k x y) (h2 : May a2 b2 f2 c2 d2 l u v) (X Y : Int) (hX : lx l x y + u = X) (hY : ly l x y + v = Y) (w : World) :
    Calls Try.prog 27 #[.agg (mv a b f c d), .agg (mv a2 b2 f2 c2 d2)] w fun e w' => e = .returned (.tuple #[.agg (if nearB X && nearB Y then mv (pa (both k l)) (pb (both k l)) (fl4 (both k l)) (floatOfInt .f64 X) (floatOfInt .f64 Y) else mv 0 0 false 0 0), .int .i64 (if nearB X && nearB Y then 0 else 5)]) ∧ w.grownBy w' none := by
  obtain ⟨fs, hfs⟩ := underI
  obtain ⟨W1, hW1, sz1, g1, B1⟩ := boxn w (mv a b f c d) 25
  obtain ⟨W2, hW2, sz2, g2, B2⟩ := boxn W1 (mv a2 b2 f2 c2 d2) 25
  obtain ⟨W3, hW3, sz3, g3, B3⟩ := boxn W2 #[.complex .f64 0 0, .bool false, .complex .f64 0 0] 25
  have A3 := (B1.kept g2 (by simp)).kept g3 (by simp)
  have C3 := B2.kept g3 (by simp)
  have G3 := gb_trans (gb_trans g1 g2) g3
  have le := (gb_trans g1 g2).size
  have st := stC
  have k0 := A3.cell 0 (v := .complex .f64 a b) rfl; have k1 := A3.cell 1 (v := .bool f) rfl; have k2 := A3.cell 2 (v := .complex .f64 c d) rfl
  have hh := refPartsYes a b f c d h1
  have hg := refPartsYes a2 b2 f2 c2 d2 h2
  have hi := refNearC
  have n1 := near_of h1.n1
  have n2 := near_of h1.n2
  have n3 := near_of h2.n1
  have n4 := near_of h2.n2
  obtain ⟨l1, l2⟩ := l_abs l x y
  obtain ⟨s, hs⟩ : ∃ s, lx l x y = s := ⟨_, rfl⟩
  obtain ⟨t, ht⟩ : ∃ t, ly l x y = t := ⟨_, rfl⟩
  have hL := refLinC l h2.lt x y (by unfold Mid; omega) (by unfold Mid; omega) s t hs ht
  rw [hs] at hX l1
  rw [ht] at hY l2
  have w1' : IntKind.i64.wrap (s + u) = X := by rw [IntKind.wrap_i64]; omega
  have w2' : IntKind.i64.wrap (t + v) = Y := by rw [IntKind.wrap_i64]; omega
  obtain ⟨m, hm⟩ : ∃ m, both k l = m := ⟨_, rfl⟩
  have hB := refBothC k l h1.lt h2.lt m hm
  have hM := refMadeC m (hm ▸ (both_tx k h1.lt l h2.lt).2.2.2) X Y
  rw [hm]
  clear h1 h2 n1 n2 n3 n4 l1 l2 hs ht hX hY hm
  cases hnu : nearB X
  · go_enter Try.func27, Try.ntmps27
    go_wp2_with (first | (go_at_call 40; (fail_if_success (guard_hyp g4)); refine (hh _).mono ?_; rintro e w4 ⟨rfl, g4⟩; have C4 := C3.kept g4 (by simp); have B4 := B3.kept g4 (by simp); have G4 := gb_trans G3 g4; have m0 := C4.cell 0 (v := (.complex .f64 a2 b2)) rfl; have m1 := C4.cell 1 (v := (.bool f2)) rfl; have m2 := C4.cell 2 (v := (.complex .f64 c2 d2)) rfl) | (go_at_call 40; refine (hg _).mono ?_; rintro e w5 ⟨rfl, g5⟩; have B5 := B4.kept g5 (by simp); have G5 := gb_trans G4 g5; have r0 := B5.cell 0 (v := .complex .f64 0 0) rfl; have r1 := B5.cell 1 (v := .bool false) rfl; have r2 := B5.cell 2 (v := .complex .f64 0 0) rfl; have s0 := B5.frozen 0; have s1 := B5.frozen 1; have s2 := B5.frozen 2) | (go_at_call 45; refine (hi _ _).mono ?_; rintro e w' ⟨rfl, hw'⟩; subst w') | (go_at_call 44; refine (hL _).mono ?_; rintro e w' ⟨rfl, hw'⟩; subst w') | (go_at_call 38; refine (hB _).mono ?_; rintro e w' ⟨rfl, hw'⟩; subst w') | (go_at_call 36; refine (hM _).mono ?_; rintro e w6 ⟨rfl, g6⟩; have B6 := B5.kept g6 (by simp); have G6 := gb_trans G5 g6; have i0 := B6.cell 0 (v := .complex .f64 0 0) rfl; have i1 := B6.cell 1 (v := .bool false) rfl; have i2 := B6.cell 2 (v := .complex .f64 0 0) rfl; have j0 := B6.frozen 0; have j1 := B6.frozen 1; have j2 := B6.frozen 2))
    refine ret_c2 (g := W2.heap.size) (cs := #[.complex .f64 0 0, .bool false, .complex .f64 0 0]) rfl hfs infoI rfl (bo3 B5) rfl ⟨rfl, gb3 G5 le⟩
  · cases hnv : nearB Y
    · go_enter Try.func27, Try.ntmps27
      go_wp2_with (first | (go_at_call 40; (fail_if_success (guard_hyp g4)); refine (hh _).mono ?_; rintro e w4 ⟨rfl, g4⟩; have C4 := C3.kept g4 (by simp); have B4 := B3.kept g4 (by simp); have G4 := gb_trans G3 g4; have m0 := C4.cell 0 (v := (.complex .f64 a2 b2)) rfl; have m1 := C4.cell 1 (v := (.bool f2)) rfl; have m2 := C4.cell 2 (v := (.complex .f64 c2 d2)) rfl) | (go_at_call 40; refine (hg _).mono ?_; rintro e w5 ⟨rfl, g5⟩; have B5 := B4.kept g5 (by simp); have G5 := gb_trans G4 g5; have r0 := B5.cell 0 (v := .complex .f64 0 0) rfl; have r1 := B5.cell 1 (v := .bool false) rfl; have r2 := B5.cell 2 (v := .complex .f64 0 0) rfl; have s0 := B5.frozen 0; have s1 := B5.frozen 1; have s2 := B5.frozen 2) | (go_at_call 45; refine (hi _ _).mono ?_; rintro e w' ⟨rfl, hw'⟩; subst w') | (go_at_call 44; refine (hL _).mono ?_; rintro e w' ⟨rfl, hw'⟩; subst w') | (go_at_call 38; refine (hB _).mono ?_; rintro e w' ⟨rfl, hw'⟩; subst w') | (go_at_call 36; refine (hM _).mono ?_; rintro e w6 ⟨rfl, g6⟩; have B6 := B5.kept g6 (by simp); have G6 := gb_trans G5 g6; have i0 := B6.cell 0 (v := .complex .f64 0 0) rfl; have i1 := B6.cell 1 (v := .bool false) rfl; have i2 := B6.cell 2 (v := .complex .f64 0 0) rfl; have j0 := B6.frozen 0; have j1 := B6.frozen 1; have j2 := B6.frozen 2))
      refine ret_c2 (g := W2.heap.size) (cs := #[.complex .f64 0 0, .bool false, .complex .f64 0 0]) rfl hfs infoI rfl (bo3 B5) rfl ⟨rfl, gb3 G5 le⟩
    · go_enter Try.func27, Try.ntmps27
      go_wp2_with (first | (go_at_call 40; (fail_if_success (guard_hyp g4)); refine (hh _).mono ?_; rintro e w4 ⟨rfl, g4⟩; have C4 := C3.kept g4 (by simp); have B4 := B3.kept g4 (by simp); have G4 := gb_trans G3 g4; have m0 := C4.cell 0 (v := (.complex .f64 a2 b2)) rfl; have m1 := C4.cell 1 (v := (.bool f2)) rfl; have m2 := C4.cell 2 (v := (.complex .f64 c2 d2)) rfl) | (go_at_call 40; refine (hg _).mono ?_; rintro e w5 ⟨rfl, g5⟩; have B5 := B4.kept g5 (by simp); have G5 := gb_trans G4 g5; have r0 := B5.cell 0 (v := .complex .f64 0 0) rfl; have r1 := B5.cell 1 (v := .bool false) rfl; have r2 := B5.cell 2 (v := .complex .f64 0 0) rfl; have s0 := B5.frozen 0; have s1 := B5.frozen 1; have s2 := B5.frozen 2) | (go_at_call 45; refine (hi _ _).mono ?_; rintro e w' ⟨rfl, hw'⟩; subst w') | (go_at_call 44; refine (hL _).mono ?_; rintro e w' ⟨rfl, hw'⟩; subst w') | (go_at_call 38; refine (hB _).mono ?_; rintro e w' ⟨rfl, hw'⟩; subst w') | (go_at_call 36; refine (hM _).mono ?_; rintro e w6 ⟨rfl, g6⟩; have B6 := B5.kept g6 (by simp); have G6 := gb_trans G5 g6; have i0 := B6.cell 0 (v := .complex .f64 0 0) rfl; have i1 := B6.cell 1 (v := .bool false) rfl; have i2 := B6.cell 2 (v := .complex .f64 0 0) rfl; have j0 := B6.frozen 0; have j1 := B6.frozen 1; have j2 := B6.frozen 2))
      refine ret_c2 (g := W2.heap.size) (cs := mv (pa m) (pb m) (fl4 m) (floatOfInt .f64 X) (floatOfInt .f64 Y)) rfl hfs infoI rfl (bo3 B6) rfl ⟨rfl, gb3 G6 le⟩

theorem refBackNo (a b : Nat) (f : Bool) (c d : Nat) (h : vB a b c d = false) (w : World) : Calls Try.prog 22 #[.agg (mv a b f c d)] w fun e w' => e = .returned (.tuple #[.agg (mv 0 0 false 0 0), .int .i64 50]) ∧ w.grownBy w' none := by
  obtain ⟨fs, hfs⟩ := underI
  obtain ⟨W1, hW1, sz1, g1, B1⟩ := boxn w (mv a b f c d) 25
  obtain ⟨W2, hW2, sz2, g2, B2⟩ := boxn W1 #[.complex .f64 0 0, .bool false, .complex .f64 0 0] 25
  have A2 := B1.kept g2 (by simp)
  have G2 := gb_trans g1 g2
  have le := g1.size
  have st := stC
  have k0 := A2.cell 0 (v := .complex .f64 a b) rfl; have k1 := A2.cell 1 (v := .bool f) rfl; have k2 := A2.cell 2 (v := .complex .f64 c d) rfl
  have hh := refPartsNo a b f c d h
  clear h
  go_enter Try.func22, Try.ntmps22
  go_wp2_with (first | (go_at_call 40; refine (hh _).mono ?_; rintro e w5 ⟨rfl, g5⟩; have B5 := B2.kept g5 (by simp); have G5 := gb_trans G2 g5; have r0 := B5.cell 0 (v := .complex .f64 0 0) rfl; have r1 := B5.cell 1 (v := .bool false) rfl; have r2 := B5.cell 2 (v := .complex .f64 0 0) rfl; have s0 := B5.frozen 0; have s1 := B5.frozen 1; have s2 := B5.frozen 2))
  refine ret_c2 (g := W1.heap.size) (cs := mv 0 0 false 0 0) rfl hfs infoI rfl (bo3 B5) rfl ⟨rfl, gb3 G5 le⟩

set_option maxHeartbeats 2000000 in
theorem refBack0 (a b : Nat) (f : Bool) (c d : Nat) {x y : Int} (h : May a b f c d 0 x y) (X Y : Int) (hX : -(lx 0 x y) = X) (hY : -(ly 0 x y) = Y) (w : World) : Calls Try.prog 22 #[.agg (mv a b f c d)] w fun e w' => e = .returned (.tuple #[.agg (mv (pa 0) (pb 0) (fl4 0) (floatOfInt .f64 X) (floatOfInt .f64 Y)), .int .i64 0]) ∧ w.grownBy w' none := by
  obtain ⟨fs, hfs⟩ := underI
  obtain ⟨W1, hW1, sz1, g1, B1⟩ := boxn w (mv a b f c d) 25
  obtain ⟨W2, hW2, sz2, g2, B2⟩ := boxn W1 #[.complex .f64 0 0, .bool false, .complex .f64 0 0] 25
  have A2 := B1.kept g2 (by simp)
  have G2 := gb_trans g1 g2
  have le := g1.size
  have st := stC
  have k0 := A2.cell 0 (v := .complex .f64 a b) rfl; have k1 := A2.cell 1 (v := .bool f) rfl; have k2 := A2.cell 2 (v := .complex .f64 c d) rfl
  have hh : ∀ w, Calls Try.prog 40 #[.agg (mv a b f c d)] w fun e w' => e = .returned (.tuple #[.int .i64 0, .int .i64 x, .int .i64 y, .bool true]) ∧ w.grownBy w' none := refPartsYes a b f c d h
  have n1 := near_of h.n1
  have n2 := near_of h.n2
  obtain ⟨l1, l2⟩ := l_abs 0 x y
  obtain ⟨s, hs⟩ : ∃ s, lx 0 x y = s := ⟨_, rfl⟩
  obtain ⟨t, ht⟩ : ∃ t, ly 0 x y = t := ⟨_, rfl⟩
  have hL : ∀ w, Calls Try.prog 44 #[.int .i64 0, .int .i64 x, .int .i64 y] w fun e w' => e = .returned (.tuple #[.int .i64 s, .int .i64 t]) ∧ w' = w := refLinC 0 (by decide) x y (by unfold Mid; omega) (by unfold Mid; omega) s t hs ht
  rw [hs] at hX l1
  rw [ht] at hY l2
  have w1' : IntKind.i64.wrap (-s) = X := by rw [IntKind.wrap_i64]; omega
  have w2' : IntKind.i64.wrap (-t) = Y := by rw [IntKind.wrap_i64]; omega
  have hM : ∀ w, Calls Try.prog 36 #[.int .i64 0, .int .i64 X, .int .i64 Y] w fun e w' => e = .returned (.agg (mv (pa 0) (pb 0) (fl4 0) (floatOfInt .f64 X) (floatOfInt .f64 Y))) ∧ w.grownBy w' none := refMadeC 0 (by decide) X Y
  have hB0 : ∀ w, Calls Try.prog 38 #[.int .i64 0, .int .i64 0] w fun e w' => e = .returned (.int .i64 0) ∧ w' = w := refBothC 0 0 (by decide) (by decide) 0 (by decide)
  clear h n1 n2 l1 l2 hs ht hX hY
  go_enter Try.func22, Try.ntmps22
  go_wp2_with (first | (go_at_call 40; refine (hh _).mono ?_; rintro e w5 ⟨rfl, g5⟩; have B5 := B2.kept g5 (by simp); have G5 := gb_trans G2 g5; have r0 := B5.cell 0 (v := .complex .f64 0 0) rfl; have r1 := B5.cell 1 (v := .bool false) rfl; have r2 := B5.cell 2 (v := .complex .f64 0 0) rfl; have s0 := B5.frozen 0; have s1 := B5.frozen 1; have s2 := B5.frozen 2))
  refine wp_loop_rounds 9 ?_
  rw [rounds_succ]
  go_wp2_with (first | (go_at_call 38; refine (hB0 _).mono ?_; rintro e w' ⟨rfl, hw'⟩; subst w') | (go_at_call 44; refine (hL _).mono ?_; rintro e w' ⟨rfl, hw'⟩; subst w') | (go_at_call 36; refine (hM _).mono ?_; rintro e w6 ⟨rfl, g6⟩; have B6 := B5.kept g6 (by simp); have G6 := gb_trans G5 g6; have i0 := B6.cell 0 (v := .complex .f64 0 0) rfl; have i1 := B6.cell 1 (v := .bool false) rfl; have i2 := B6.cell 2 (v := .complex .f64 0 0) rfl; have j0 := B6.frozen 0; have j1 := B6.frozen 1; have j2 := B6.frozen 2))
  refine ret_c2 (g := W1.heap.size) (cs := mv (pa 0) (pb 0) (fl4 0) (floatOfInt .f64 X) (floatOfInt .f64 Y)) rfl hfs infoI rfl (bo3 B6) rfl ⟨rfl, gb3 G6 le⟩

set_option maxHeartbeats 2000000 in
theorem refBack1 (a b : Nat) (f : Bool) (c d : Nat) {x y : Int} (h : May a b f c d 1 x y) (X Y : Int) (hX : -(lx 3 x y) = X) (hY : -(ly 3 x y) = Y) (w : World) : Calls Try.prog 22 #[.agg (mv a b f c d)] w fun e w' => e = .returned (.tuple #[.agg (mv (pa 3) (pb 3) (fl4 3) (floatOfInt .f64 X) (floatOfInt .f64 Y)), .int .i64 0]) ∧ w.grownBy w' none := by
  obtain ⟨fs, hfs⟩ := underI
  obtain ⟨W1, hW1, sz1, g1, B1⟩ := boxn w (mv a b f c d) 25
  obtain ⟨W2, hW2, sz2, g2, B2⟩ := boxn W1 #[.complex .f64 0 0, .bool false, .complex .f64 0 0] 25
  have A2 := B1.kept g2 (by simp)
  have G2 := gb_trans g1 g2
  have le := g1.size
  have st := stC
  have k0 := A2.cell 0 (v := .complex .f64 a b) rfl; have k1 := A2.cell 1 (v := .bool f) rfl; have k2 := A2.cell 2 (v := .complex .f64 c d) rfl
  have hh : ∀ w, Calls Try.prog 40 #[.agg (mv a b f c d)] w fun e w' => e = .returned (.tuple #[.int .i64 1, .int .i64 x, .int .i64 y, .bool true]) ∧ w.grownBy w' none := refPartsYes a b f c d h
  have n1 := near_of h.n1
  have n2 := near_of h.n2
  obtain ⟨l1, l2⟩ := l_abs 3 x y
  obtain ⟨s, hs⟩ : ∃ s, lx 3 x y = s := ⟨_, rfl⟩
  obtain ⟨t, ht⟩ : ∃ t, ly 3 x y = t := ⟨_, rfl⟩
  have hL : ∀ w, Calls Try.prog 44 #[.int .i64 3, .int .i64 x, .int .i64 y] w fun e w' => e = .returned (.tuple #[.int .i64 s, .int .i64 t]) ∧ w' = w := refLinC 3 (by decide) x y (by unfold Mid; omega) (by unfold Mid; omega) s t hs ht
  rw [hs] at hX l1
  rw [ht] at hY l2
  have w1' : IntKind.i64.wrap (-s) = X := by rw [IntKind.wrap_i64]; omega
  have w2' : IntKind.i64.wrap (-t) = Y := by rw [IntKind.wrap_i64]; omega
  have hM : ∀ w, Calls Try.prog 36 #[.int .i64 3, .int .i64 X, .int .i64 Y] w fun e w' => e = .returned (.agg (mv (pa 3) (pb 3) (fl4 3) (floatOfInt .f64 X) (floatOfInt .f64 Y))) ∧ w.grownBy w' none := refMadeC 3 (by decide) X Y
  have hB0 : ∀ w, Calls Try.prog 38 #[.int .i64 1, .int .i64 0] w fun e w' => e = .returned (.int .i64 1) ∧ w' = w := refBothC 1 0 (by decide) (by decide) 1 (by decide)
  have hB1 : ∀ w, Calls Try.prog 38 #[.int .i64 1, .int .i64 1] w fun e w' => e = .returned (.int .i64 2) ∧ w' = w := refBothC 1 1 (by decide) (by decide) 2 (by decide)
  have hB2 : ∀ w, Calls Try.prog 38 #[.int .i64 1, .int .i64 2] w fun e w' => e = .returned (.int .i64 3) ∧ w' = w := refBothC 1 2 (by decide) (by decide) 3 (by decide)
  have hB3 : ∀ w, Calls Try.prog 38 #[.int .i64 1, .int .i64 3] w fun e w' => e = .returned (.int .i64 0) ∧ w' = w := refBothC 1 3 (by decide) (by decide) 0 (by decide)
  clear h n1 n2 l1 l2 hs ht hX hY
  go_enter Try.func22, Try.ntmps22
  go_wp2_with (first | (go_at_call 40; refine (hh _).mono ?_; rintro e w5 ⟨rfl, g5⟩; have B5 := B2.kept g5 (by simp); have G5 := gb_trans G2 g5; have r0 := B5.cell 0 (v := .complex .f64 0 0) rfl; have r1 := B5.cell 1 (v := .bool false) rfl; have r2 := B5.cell 2 (v := .complex .f64 0 0) rfl; have s0 := B5.frozen 0; have s1 := B5.frozen 1; have s2 := B5.frozen 2))
  refine wp_loop_rounds 9 ?_
  rw [rounds_succ]
  go_wp2_with (first | (go_at_call 38; refine (hB0 _).mono ?_; rintro e w' ⟨rfl, hw'⟩; subst w'))
  rw [rounds_succ]
  go_wp2_with (first | (go_at_call 38; refine (hB1 _).mono ?_; rintro e w' ⟨rfl, hw'⟩; subst w'))
  rw [rounds_succ]
  go_wp2_with (first | (go_at_call 38; refine (hB2 _).mono ?_; rintro e w' ⟨rfl, hw'⟩; subst w'))
  rw [rounds_succ]
  go_wp2_with (first | (go_at_call 38; refine (hB3 _).mono ?_; rintro e w' ⟨rfl, hw'⟩; subst w') | (go_at_call 44; refine (hL _).mono ?_; rintro e w' ⟨rfl, hw'⟩; subst w') | (go_at_call 36; refine (hM _).mono ?_; rintro e w6 ⟨rfl, g6⟩; have B6 := B5.kept g6 (by simp); have G6 := gb_trans G5 g6; have i0 := B6.cell 0 (v := .complex .f64 0 0) rfl; have i1 := B6.cell 1 (v := .bool false) rfl; have i2 := B6.cell 2 (v := .complex .f64 0 0) rfl; have j0 := B6.frozen 0; have j1 := B6.frozen 1; have j2 := B6.frozen 2))
  refine ret_c2 (g := W1.heap.size) (cs := mv (pa 3) (pb 3) (fl4 3) (floatOfInt .f64 X) (floatOfInt .f64 Y)) rfl hfs infoI rfl (bo3 B6) rfl ⟨rfl, gb3 G6 le⟩

set_option maxHeartbeats 2000000 in
theorem refBack2 (a b : Nat) (f : Bool) (c d : Nat) {x y : Int} (h : May a b f c d 2 x y) (X Y : Int) (hX : -(lx 2 x y) = X) (hY : -(ly 2 x y) = Y) (w : World) : Calls Try.prog 22 #[.agg (mv a b f c d)] w fun e w' => e = .returned (.tuple #[.agg (mv (pa 2) (pb 2) (fl4 2) (floatOfInt .f64 X) (floatOfInt .f64 Y)), .int .i64 0]) ∧ w.grownBy w' none := by
  obtain ⟨fs, hfs⟩ := underI
  obtain ⟨W1, hW1, sz1, g1, B1⟩ := boxn w (mv a b f c d) 25
  obtain ⟨W2, hW2, sz2, g2, B2⟩ := boxn W1 #[.complex .f64 0 0, .bool false, .complex .f64 0 0] 25
  have A2 := B1.kept g2 (by simp)
  have G2 := gb_trans g1 g2
  have le := g1.size
  have st := stC
  have k0 := A2.cell 0 (v := .complex .f64 a b) rfl; have k1 := A2.cell 1 (v := .bool f) rfl; have k2 := A2.cell 2 (v := .complex .f64 c d) rfl
  have hh : ∀ w, Calls Try.prog 40 #[.agg (mv a b f c d)] w fun e w' => e = .returned (.tuple #[.int .i64 2, .int .i64 x, .int .i64 y, .bool true]) ∧ w.grownBy w' none := refPartsYes a b f c d h
  have n1 := near_of h.n1
  have n2 := near_of h.n2
  obtain ⟨l1, l2⟩ := l_abs 2 x y
  obtain ⟨s, hs⟩ : ∃ s, lx 2 x y = s := ⟨_, rfl⟩
  obtain ⟨t, ht⟩ : ∃ t, ly 2 x y = t := ⟨_, rfl⟩
  have hL : ∀ w, Calls Try.prog 44 #[.int .i64 2, .int .i64 x, .int .i64 y] w fun e w' => e = .returned (.tuple #[.int .i64 s, .int .i64 t]) ∧ w' = w := refLinC 2 (by decide) x y (by unfold Mid; omega) (by unfold Mid; omega) s t hs ht
  rw [hs] at hX l1
  rw [ht] at hY l2
  have w1' : IntKind.i64.wrap (-s) = X := by rw [IntKind.wrap_i64]; omega
  have w2' : IntKind.i64.wrap (-t) = Y := by rw [IntKind.wrap_i64]; omega
  have hM : ∀ w, Calls Try.prog 36 #[.int .i64 2, .int .i64 X, .int .i64 Y] w fun e w' => e = .returned (.agg (mv (pa 2) (pb 2) (fl4 2) (floatOfInt .f64 X) (floatOfInt .f64 Y))) ∧ w.grownBy w' none := refMadeC 2 (by decide) X Y
  have hB0 : ∀ w, Calls Try.prog 38 #[.int .i64 2, .int .i64 0] w fun e w' => e = .returned (.int .i64 2) ∧ w' = w := refBothC 2 0 (by decide) (by decide) 2 (by decide)
  have hB1 : ∀ w, Calls Try.prog 38 #[.int .i64 2, .int .i64 1] w fun e w' => e = .returned (.int .i64 3) ∧ w' = w := refBothC 2 1 (by decide) (by decide) 3 (by decide)
  have hB2 : ∀ w, Calls Try.prog 38 #[.int .i64 2, .int .i64 2] w fun e w' => e = .returned (.int .i64 0) ∧ w' = w := refBothC 2 2 (by decide) (by decide) 0 (by decide)
  clear h n1 n2 l1 l2 hs ht hX hY
  go_enter Try.func22, Try.ntmps22
  go_wp2_with (first | (go_at_call 40; refine (hh _).mono ?_; rintro e w5 ⟨rfl, g5⟩; have B5 := B2.kept g5 (by simp); have G5 := gb_trans G2 g5; have r0 := B5.cell 0 (v := .complex .f64 0 0) rfl; have r1 := B5.cell 1 (v := .bool false) rfl; have r2 := B5.cell 2 (v := .complex .f64 0 0) rfl; have s0 := B5.frozen 0; have s1 := B5.frozen 1; have s2 := B5.frozen 2))
  refine wp_loop_rounds 9 ?_
  rw [rounds_succ]
  go_wp2_with (first | (go_at_call 38; refine (hB0 _).mono ?_; rintro e w' ⟨rfl, hw'⟩; subst w'))
  rw [rounds_succ]
  go_wp2_with (first | (go_at_call 38; refine (hB1 _).mono ?_; rintro e w' ⟨rfl, hw'⟩; subst w'))
  rw [rounds_succ]
  go_wp2_with (first | (go_at_call 38; refine (hB2 _).mono ?_; rintro e w' ⟨rfl, hw'⟩; subst w') | (go_at_call 44; refine (hL _).mono ?_; rintro e w' ⟨rfl, hw'⟩; subst w') | (go_at_call 36; refine (hM _).mono ?_; rintro e w6 ⟨rfl, g6⟩; have B6 := B5.kept g6 (by simp); have G6 := gb_trans G5 g6; have i0 := B6.cell 0 (v := .complex .f64 0 0) rfl; have i1 := B6.cell 1 (v := .bool false) rfl; have i2 := B6.cell 2 (v := .complex .f64 0 0) rfl; have j0 := B6.frozen 0; have j1 := B6.frozen 1; have j2 := B6.frozen 2))
  refine ret_c2 (g := W1.heap.size) (cs := mv (pa 2) (pb 2) (fl4 2) (floatOfInt .f64 X) (floatOfInt .f64 Y)) rfl hfs infoI rfl (bo3 B6) rfl ⟨rfl, gb3 G6 le⟩

set_option maxHeartbeats 2000000 in
theorem refBack3 (a b : Nat) (f : Bool) (c d : Nat) {x y : Int} (h : May a b f c d 3 x y) (X Y : Int) (hX : -(lx 1 x y) = X) (hY : -(ly 1 x y) = Y) (w : World) : Calls Try.prog 22 #[.agg (mv a b f c d)] w fun e w' => e = .returned (.tuple #[.agg (mv (pa 1) (pb 1) (fl4 1) (floatOfInt .f64 X) (floatOfInt .f64 Y)), .int .i64 0]) ∧ w.grownBy w' none := by
  obtain ⟨fs, hfs⟩ := underI
  obtain ⟨W1, hW1, sz1, g1, B1⟩ := boxn w (mv a b f c d) 25
  obtain ⟨W2, hW2, sz2, g2, B2⟩ := boxn W1 #[.complex .f64 0 0, .bool false, .complex .f64 0 0] 25
  have A2 := B1.kept g2 (by simp)
  have G2 := gb_trans g1 g2
  have le := g1.size
  have st := stC
  have k0 := A2.cell 0 (v := .complex .f64 a b) rfl; have k1 := A2.cell 1 (v := .bool f) rfl; have k2 := A2.cell 2 (v := .complex .f64 c d) rfl
  have hh : ∀ w, Calls Try.prog 40 #[.agg (mv a b f c d)] w fun e w' => e = .returned (.tuple #[.int .i64 3, .int .i64 x, .int .i64 y, .bool true]) ∧ w.grownBy w' none := refPartsYes a b f c d h
  have n1 := near_of h.n1
  have n2 := near_of h.n2
  obtain ⟨l1, l2⟩ := l_abs 1 x y
  obtain ⟨s, hs⟩ : ∃ s, lx 1 x y = s := ⟨_, rfl⟩
  obtain ⟨t, ht⟩ : ∃ t, ly 1 x y = t := ⟨_, rfl⟩
  have hL : ∀ w, Calls Try.prog 44 #[.int .i64 1, .int .i64 x, .int .i64 y] w fun e w' => e = .returned (.tuple #[.int .i64 s, .int .i64 t]) ∧ w' = w := refLinC 1 (by decide) x y (by unfold Mid; omega) (by unfold Mid; omega) s t hs ht
  rw [hs] at hX l1
  rw [ht] at hY l2
  have w1' : IntKind.i64.wrap (-s) = X := by rw [IntKind.wrap_i64]; omega
  have w2' : IntKind.i64.wrap (-t) = Y := by rw [IntKind.wrap_i64]; omega
  have hM : ∀ w, Calls Try.prog 36 #[.int .i64 1, .int .i64 X, .int .i64 Y] w fun e w' => e = .returned (.agg (mv (pa 1) (pb 1) (fl4 1) (floatOfInt .f64 X) (floatOfInt .f64 Y))) ∧ w.grownBy w' none := refMadeC 1 (by decide) X Y
  have hB0 : ∀ w, Calls Try.prog 38 #[.int .i64 3, .int .i64 0] w fun e w' => e = .returned (.int .i64 3) ∧ w' = w := refBothC 3 0 (by decide) (by decide) 3 (by decide)
  have hB1 : ∀ w, Calls Try.prog 38 #[.int .i64 3, .int .i64 1] w fun e w' => e = .returned (.int .i64 0) ∧ w' = w := refBothC 3 1 (by decide) (by decide) 0 (by decide)
  clear h n1 n2 l1 l2 hs ht hX hY
  go_enter Try.func22, Try.ntmps22
  go_wp2_with (first | (go_at_call 40; refine (hh _).mono ?_; rintro e w5 ⟨rfl, g5⟩; have B5 := B2.kept g5 (by simp); have G5 := gb_trans G2 g5; have r0 := B5.cell 0 (v := .complex .f64 0 0) rfl; have r1 := B5.cell 1 (v := .bool false) rfl; have r2 := B5.cell 2 (v := .complex .f64 0 0) rfl; have s0 := B5.frozen 0; have s1 := B5.frozen 1; have s2 := B5.frozen 2))
  refine wp_loop_rounds 9 ?_
  rw [rounds_succ]
  go_wp2_with (first | (go_at_call 38; refine (hB0 _).mono ?_; rintro e w' ⟨rfl, hw'⟩; subst w'))
  rw [rounds_succ]
  go_wp2_with (first | (go_at_call 38; refine (hB1 _).mono ?_; rintro e w' ⟨rfl, hw'⟩; subst w') | (go_at_call 44; refine (hL _).mono ?_; rintro e w' ⟨rfl, hw'⟩; subst w') | (go_at_call 36; refine (hM _).mono ?_; rintro e w6 ⟨rfl, g6⟩; have B6 := B5.kept g6 (by simp); have G6 := gb_trans G5 g6; have i0 := B6.cell 0 (v := .complex .f64 0 0) rfl; have i1 := B6.cell 1 (v := .bool false) rfl; have i2 := B6.cell 2 (v := .complex .f64 0 0) rfl; have j0 := B6.frozen 0; have j1 := B6.frozen 1; have j2 := B6.frozen 2))
  refine ret_c2 (g := W1.heap.size) (cs := mv (pa 1) (pb 1) (fl4 1) (floatOfInt .f64 X) (floatOfInt .f64 Y)) rfl hfs infoI rfl (bo3 B6) rfl ⟨rfl, gb3 G6 le⟩

set_option maxHeartbeats 2000000 in
theorem refBack4 (a b : Nat) (f : Bool) (c d : Nat) {x y : Int} (h : May a b f c d 4 x y) (X Y : Int) (hX : -(lx 4 x y) = X) (hY : -(ly 4 x y) = Y) (w : World) : Calls Try.prog 22 #[.agg (mv a b f c d)] w fun e w' => e = .returned (.tuple #[.agg (mv (pa 4) (pb 4) (fl4 4) (floatOfInt .f64 X) (floatOfInt .f64 Y)), .int .i64 0]) ∧ w.grownBy w' none := by
  obtain ⟨fs, hfs⟩ := underI
  obtain ⟨W1, hW1, sz1, g1, B1⟩ := boxn w (mv a b f c d) 25
  obtain ⟨W2, hW2, sz2, g2, B2⟩ := boxn W1 #[.complex .f64 0 0, .bool false, .complex .f64 0 0] 25
  have A2 := B1.kept g2 (by simp)
  have G2 := gb_trans g1 g2
  have le := g1.size
  have st := stC
  have k0 := A2.cell 0 (v := .complex .f64 a b) rfl; have k1 := A2.cell 1 (v := .bool f) rfl; have k2 := A2.cell 2 (v := .complex .f64 c d) rfl
  have hh : ∀ w, Calls Try.prog 40 #[.agg (mv a b f c d)] w fun e w' => e = .returned (.tuple #[.int .i64 4, .int .i64 x, .int .i64 y, .bool true]) ∧ w.grownBy w' none := refPartsYes a b f c d h
  have n1 := near_of h.n1
  have n2 := near_of h.n2
  obtain ⟨l1, l2⟩ := l_abs 4 x y
  obtain ⟨s, hs⟩ : ∃ s, lx 4 x y = s := ⟨_, rfl⟩
  obtain ⟨t, ht⟩ : ∃ t, ly 4 x y = t := ⟨_, rfl⟩
  have hL : ∀ w, Calls Try.prog 44 #[.int .i64 4, .int .i64 x, .int .i64 y] w fun e w' => e = .returned (.tuple #[.int .i64 s, .int .i64 t]) ∧ w' = w := refLinC 4 (by decide) x y (by unfold Mid; omega) (by unfold Mid; omega) s t hs ht
  rw [hs] at hX l1
  rw [ht] at hY l2
  have w1' : IntKind.i64.wrap (-s) = X := by rw [IntKind.wrap_i64]; omega
  have w2' : IntKind.i64.wrap (-t) = Y := by rw [IntKind.wrap_i64]; omega
  have hM : ∀ w, Calls Try.prog 36 #[.int .i64 4, .int .i64 X, .int .i64 Y] w fun e w' => e = .returned (.agg (mv (pa 4) (pb 4) (fl4 4) (floatOfInt .f64 X) (floatOfInt .f64 Y))) ∧ w.grownBy w' none := refMadeC 4 (by decide) X Y
  have hB0 : ∀ w, Calls Try.prog 38 #[.int .i64 4, .int .i64 0] w fun e w' => e = .returned (.int .i64 4) ∧ w' = w := refBothC 4 0 (by decide) (by decide) 4 (by decide)
  have hB1 : ∀ w, Calls Try.prog 38 #[.int .i64 4, .int .i64 1] w fun e w' => e = .returned (.int .i64 5) ∧ w' = w := refBothC 4 1 (by decide) (by decide) 5 (by decide)
  have hB2 : ∀ w, Calls Try.prog 38 #[.int .i64 4, .int .i64 2] w fun e w' => e = .returned (.int .i64 6) ∧ w' = w := refBothC 4 2 (by decide) (by decide) 6 (by decide)
  have hB3 : ∀ w, Calls Try.prog 38 #[.int .i64 4, .int .i64 3] w fun e w' => e = .returned (.int .i64 7) ∧ w' = w := refBothC 4 3 (by decide) (by decide) 7 (by decide)
  have hB4 : ∀ w, Calls Try.prog 38 #[.int .i64 4, .int .i64 4] w fun e w' => e = .returned (.int .i64 0) ∧ w' = w := refBothC 4 4 (by decide) (by decide) 0 (by decide)
  clear h n1 n2 l1 l2 hs ht hX hY
  go_enter Try.func22, Try.ntmps22
  go_wp2_with (first | (go_at_call 40; refine (hh _).mono ?_; rintro e w5 ⟨rfl, g5⟩; have B5 := B2.kept g5 (by simp); have G5 := gb_trans G2 g5; have r0 := B5.cell 0 (v := .complex .f64 0 0) rfl; have r1 := B5.cell 1 (v := .bool false) rfl; have r2 := B5.cell 2 (v := .complex .f64 0 0) rfl; have s0 := B5.frozen 0; have s1 := B5.frozen 1; have s2 := B5.frozen 2))
  refine wp_loop_rounds 9 ?_
  rw [rounds_succ]
  go_wp2_with (first | (go_at_call 38; refine (hB0 _).mono ?_; rintro e w' ⟨rfl, hw'⟩; subst w'))
  rw [rounds_succ]
  go_wp2_with (first | (go_at_call 38; refine (hB1 _).mono ?_; rintro e w' ⟨rfl, hw'⟩; subst w'))
  rw [rounds_succ]
  go_wp2_with (first | (go_at_call 38; refine (hB2 _).mono ?_; rintro e w' ⟨rfl, hw'⟩; subst w'))
  rw [rounds_succ]
  go_wp2_with (first | (go_at_call 38; refine (hB3 _).mono ?_; rintro e w' ⟨rfl, hw'⟩; subst w'))
  rw [rounds_succ]
  go_wp2_with (first | (go_at_call 38; refine (hB4 _).mono ?_; rintro e w' ⟨rfl, hw'⟩; subst w') | (go_at_call 44; refine (hL _).mono ?_; rintro e w' ⟨rfl, hw'⟩; subst w') | (go_at_call 36; refine (hM _).mono ?_; rintro e w6 ⟨rfl, g6⟩; have B6 := B5.kept g6 (by simp); have G6 := gb_trans G5 g6; have i0 := B6.cell 0 (v := .complex .f64 0 0) rfl; have i1 := B6.cell 1 (v := .bool false) rfl; have i2 := B6.cell 2 (v := .complex .f64 0 0) rfl; have j0 := B6.frozen 0; have j1 := B6.frozen 1; have j2 := B6.frozen 2))
  refine ret_c2 (g := W1.heap.size) (cs := mv (pa 4) (pb 4) (fl4 4) (floatOfInt .f64 X) (floatOfInt .f64 Y)) rfl hfs infoI rfl (bo3 B6) rfl ⟨rfl, gb3 G6 le⟩

set_option maxHeartbeats 2000000 in
theorem refBack5 (a b : Nat) (f : Bool) (c d : Nat) {x y : Int} (h : May a b f c d 5 x y) (X Y : Int) (hX : -(lx 5 x y) = X) (hY : -(ly 5 x y) = Y) (w : World) : Calls Try.prog 22 #[.agg (mv a b f c d)] w fun e w' => e = .returned (.tuple #[.agg (mv (pa 5) (pb 5) (fl4 5) (floatOfInt .f64 X) (floatOfInt .f64 Y)), .int .i64 0]) ∧ w.grownBy w' none := by
  obtain ⟨fs, hfs⟩ := underI
  obtain ⟨W1, hW1, sz1, g1, B1⟩ := boxn w (mv a b f c d) 25
  obtain ⟨W2, hW2, sz2, g2, B2⟩ := boxn W1 #[.complex .f64 0 0, .bool false, .complex .f64 0 0] 25
  have A2 := B1.kept g2 (by simp)
  have G2 := gb_trans g1 g2
  have le := g1.size
  have st := stC
  have k0 := A2.cell 0 (v := .complex .f64 a b) rfl; have k1 := A2.cell 1 (v := .bool f) rfl; have k2 := A2.cell 2 (v := .complex .f64 c d) rfl
  have hh : ∀ w, Calls Try.prog 40 #[.agg (mv a b f c d)] w fun e w' => e = .returned (.tuple #[.int .i64 5, .int .i64 x, .int .i64 y, .bool true]) ∧ w.grownBy w' none := refPartsYes a b f c d h
  have n1 := near_of h.n1
  have n2 := near_of h.n2
  obtain ⟨l1, l2⟩ := l_abs 5 x y
  obtain ⟨s, hs⟩ : ∃ s, lx 5 x y = s := ⟨_, rfl⟩
  obtain ⟨t, ht⟩ : ∃ t, ly 5 x y = t := ⟨_, rfl⟩
  have hL : ∀ w, Calls Try.prog 44 #[.int .i64 5, .int .i64 x, .int .i64 y] w fun e w' => e = .returned (.tuple #[.int .i64 s, .int .i64 t]) ∧ w' = w := refLinC 5 (by decide) x y (by unfold Mid; omega) (by unfold Mid; omega) s t hs ht
  rw [hs] at hX l1
  rw [ht] at hY l2
  have w1' : IntKind.i64.wrap (-s) = X := by rw [IntKind.wrap_i64]; omega
  have w2' : IntKind.i64.wrap (-t) = Y := by rw [IntKind.wrap_i64]; omega
  have hM : ∀ w, Calls Try.prog 36 #[.int .i64 5, .int .i64 X, .int .i64 Y] w fun e w' => e = .returned (.agg (mv (pa 5) (pb 5) (fl4 5) (floatOfInt .f64 X) (floatOfInt .f64 Y))) ∧ w.grownBy w' none := refMadeC 5 (by decide) X Y
  have hB0 : ∀ w, Calls Try.prog 38 #[.int .i64 5, .int .i64 0] w fun e w' => e = .returned (.int .i64 5) ∧ w' = w := refBothC 5 0 (by decide) (by decide) 5 (by decide)
  have hB1 : ∀ w, Calls Try.prog 38 #[.int .i64 5, .int .i64 1] w fun e w' => e = .returned (.int .i64 6) ∧ w' = w := refBothC 5 1 (by decide) (by decide) 6 (by decide)
  have hB2 : ∀ w, Calls Try.prog 38 #[.int .i64 5, .int .i64 2] w fun e w' => e = .returned (.int .i64 7) ∧ w' = w := refBothC 5 2 (by decide) (by decide) 7 (by decide)
  have hB3 : ∀ w, Calls Try.prog 38 #[.int .i64 5, .int .i64 3] w fun e w' => e = .returned (.int .i64 4) ∧ w' = w := refBothC 5 3 (by decide) (by decide) 4 (by decide)
  have hB4 : ∀ w, Calls Try.prog 38 #[.int .i64 5, .int .i64 4] w fun e w' => e = .returned (.int .i64 3) ∧ w' = w := refBothC 5 4 (by decide) (by decide) 3 (by decide)
  have hB5 : ∀ w, Calls Try.prog 38 #[.int .i64 5, .int .i64 5] w fun e w' => e = .returned (.int .i64 0) ∧ w' = w := refBothC 5 5 (by decide) (by decide) 0 (by decide)
  clear h n1 n2 l1 l2 hs ht hX hY
  go_enter Try.func22, Try.ntmps22
  go_wp2_with (first | (go_at_call 40; refine (hh _).mono ?_; rintro e w5 ⟨rfl, g5⟩; have B5 := B2.kept g5 (by simp); have G5 := gb_trans G2 g5; have r0 := B5.cell 0 (v := .complex .f64 0 0) rfl; have r1 := B5.cell 1 (v := .bool false) rfl; have r2 := B5.cell 2 (v := .complex .f64 0 0) rfl; have s0 := B5.frozen 0; have s1 := B5.frozen 1; have s2 := B5.frozen 2))
  refine wp_loop_rounds 9 ?_
  rw [rounds_succ]
  go_wp2_with (first | (go_at_call 38; refine (hB0 _).mono ?_; rintro e w' ⟨rfl, hw'⟩; subst w'))
  rw [rounds_succ]
  go_wp2_with (first | (go_at_call 38; refine (hB1 _).mono ?_; rintro e w' ⟨rfl, hw'⟩; subst w'))
  rw [rounds_succ]
  go_wp2_with (first | (go_at_call 38; refine (hB2 _).mono ?_; rintro e w' ⟨rfl, hw'⟩; subst w'))
  rw [rounds_succ]
  go_wp2_with (first | (go_at_call 38; refine (hB3 _).mono ?_; rintro e w' ⟨rfl, hw'⟩; subst w'))
  rw [rounds_succ]
  go_wp2_with (first | (go_at_call 38; refine (hB4 _).mono ?_; rintro e w' ⟨rfl, hw'⟩; subst w'))
  rw [rounds_succ]
  go_wp2_with (first | (go_at_call 38; refine (hB5 _).mono ?_; rintro e w' ⟨rfl, hw'⟩; subst w') | (go_at_call 44; refine (hL _).mono ?_; rintro e w' ⟨rfl, hw'⟩; subst w') | (go_at_call 36; refine (hM _).mono ?_; rintro e w6 ⟨rfl, g6⟩; have B6 := B5.kept g6 (by simp); have G6 := gb_trans G5 g6; have i0 := B6.cell 0 (v := .complex .f64 0 0) rfl; have i1 := B6.cell 1 (v := .bool false) rfl; have i2 := B6.cell 2 (v := .complex .f64 0 0) rfl; have j0 := B6.frozen 0; have j1 := B6.frozen 1; have j2 := B6.frozen 2))
  refine ret_c2 (g := W1.heap.size) (cs := mv (pa 5) (pb 5) (fl4 5) (floatOfInt .f64 X) (floatOfInt .f64 Y)) rfl hfs infoI rfl (bo3 B6) rfl ⟨rfl, gb3 G6 le⟩

set_option maxHeartbeats 2000000 in
theorem refBack6 (a b : Nat) (f : Bool) (c d : Nat) {x y : Int} (h : May a b f c d 6 x y) (X Y : Int) (hX : -(lx 6 x y) = X) (hY : -(ly 6 x y) = Y) (w : World) : Calls Try.prog 22 #[.agg (mv a b f c d)] w fun e w' => e = .returned (.tuple #[.agg (mv (pa 6) (pb 6) (fl4 6) (floatOfInt .f64 X) (floatOfInt .f64 Y)), .int .i64 0]) ∧ w.grownBy w' none := by
  obtain ⟨fs, hfs⟩ := underI
  obtain ⟨W1, hW1, sz1, g1, B1⟩ := boxn w (mv a b f c d) 25
  obtain ⟨W2, hW2, sz2, g2, B2⟩ := boxn W1 #[.complex .f64 0 0, .bool false, .complex .f64 0 0] 25
  have A2 := B1.kept g2 (by simp)
  have G2 := gb_trans g1 g2
  have le := g1.size
  have st := stC
  have k0 := A2.cell 0 (v := .complex .f64 a b) rfl; have k1 := A2.cell 1 (v := .bool f) rfl; have k2 := A2.cell 2 (v := .complex .f64 c d) rfl
  have hh : ∀ w, Calls Try.prog 40 #[.agg (mv a b f c d)] w fun e w' => e = .returned (.tuple #[.int .i64 6, .int .i64 x, .int .i64 y, .bool true]) ∧ w.grownBy w' none := refPartsYes a b f c d h
  have n1 := near_of h.n1
  have n2 := near_of h.n2
  obtain ⟨l1, l2⟩ := l_abs 6 x y
  obtain ⟨s, hs⟩ : ∃ s, lx 6 x y = s := ⟨_, rfl⟩
  obtain ⟨t, ht⟩ : ∃ t, ly 6 x y = t := ⟨_, rfl⟩
  have hL : ∀ w, Calls Try.prog 44 #[.int .i64 6, .int .i64 x, .int .i64 y] w fun e w' => e = .returned (.tuple #[.int .i64 s, .int .i64 t]) ∧ w' = w := refLinC 6 (by decide) x y (by unfold Mid; omega) (by unfold Mid; omega) s t hs ht
  rw [hs] at hX l1
  rw [ht] at hY l2
  have w1' : IntKind.i64.wrap (-s) = X := by rw [IntKind.wrap_i64]; omega
  have w2' : IntKind.i64.wrap (-t) = Y := by rw [IntKind.wrap_i64]; omega
  have hM : ∀ w, Calls Try.prog 36 #[.int .i64 6, .int .i64 X, .int .i64 Y] w fun e w' => e = .returned (.agg (mv (pa 6) (pb 6) (fl4 6) (floatOfInt .f64 X) (floatOfInt .f64 Y))) ∧ w.grownBy w' none := refMadeC 6 (by decide) X Y
  have hB0 : ∀ w, Calls Try.prog 38 #[.int .i64 6, .int .i64 0] w fun e w' => e = .returned (.int .i64 6) ∧ w' = w := refBothC 6 0 (by decide) (by decide) 6 (by decide)
  have hB1 : ∀ w, Calls Try.prog 38 #[.int .i64 6, .int .i64 1] w fun e w' => e = .returned (.int .i64 7) ∧ w' = w := refBothC 6 1 (by decide) (by decide) 7 (by decide)
  have hB2 : ∀ w, Calls Try.prog 38 #[.int .i64 6, .int .i64 2] w fun e w' => e = .returned (.int .i64 4) ∧ w' = w := refBothC 6 2 (by decide) (by decide) 4 (by decide)
  have hB3 : ∀ w, Calls Try.prog 38 #[.int .i64 6, .int .i64 3] w fun e w' => e = .returned (.int .i64 5) ∧ w' = w := refBothC 6 3 (by decide) (by decide) 5 (by decide)
  have hB4 : ∀ w, Calls Try.prog 38 #[.int .i64 6, .int .i64 4] w fun e w' => e = .returned (.int .i64 2) ∧ w' = w := refBothC 6 4 (by decide) (by decide) 2 (by decide)
  have hB5 : ∀ w, Calls Try.prog 38 #[.int .i64 6, .int .i64 5] w fun e w' => e = .returned (.int .i64 3) ∧ w' = w := refBothC 6 5 (by decide) (by decide) 3 (by decide)
  have hB6 : ∀ w, Calls Try.prog 38 #[.int .i64 6, .int .i64 6] w fun e w' => e = .returned (.int .i64 0) ∧ w' = w := refBothC 6 6 (by decide) (by decide) 0 (by decide)
  clear h n1 n2 l1 l2 hs ht hX hY
  go_enter Try.func22, Try.ntmps22
  go_wp2_with (first | (go_at_call 40; refine (hh _).mono ?_; rintro e w5 ⟨rfl, g5⟩; have B5 := B2.kept g5 (by simp); have G5 := gb_trans G2 g5; have r0 := B5.cell 0 (v := .complex .f64 0 0) rfl; have r1 := B5.cell 1 (v := .bool false) rfl; have r2 := B5.cell 2 (v := .complex .f64 0 0) rfl; have s0 := B5.frozen 0; have s1 := B5.frozen 1; have s2 := B5.frozen 2))
  refine wp_loop_rounds 9 ?_
  rw [rounds_succ]
  go_wp2_with (first | (go_at_call 38; refine (hB0 _).mono ?_; rintro e w' ⟨rfl, hw'⟩; subst w'))
  rw [rounds_succ]
  go_wp2_with (first | (go_at_call 38; refine (hB1 _).mono ?_; rintro e w' ⟨rfl, hw'⟩; subst w'))
  rw [rounds_succ]
  go_wp2_with (first | (go_at_call 38; refine (hB2 _).mono ?_; rintro e w' ⟨rfl, hw'⟩; subst w'))
  rw [rounds_succ]
  go_wp2_with (first | (go_at_call 38; refine (hB3 _).mono ?_; rintro e w' ⟨rfl, hw'⟩; subst w'))
  rw [rounds_succ]
  go_wp2_with (first | (go_at_call 38; refine (hB4 _).mono ?_; rintro e w' ⟨rfl, hw'⟩; subst w'))
  rw [rounds_succ]
  go_wp2_with (first | (go_at_call 38; refine (hB5 _).mono ?_; rintro e w' ⟨rfl, hw'⟩; subst w'))
  rw [rounds_succ]
  go_wp2_with (first | (go_at_call 38; refine (hB6 _).mono ?_; rintro e w' ⟨rfl, hw'⟩; subst w') | (go_at_call 44; refine (hL _).mono ?_; rintro e w' ⟨rfl, hw'⟩; subst w') | (go_at_call 36; refine (hM _).mono ?_; rintro e w6 ⟨rfl, g6⟩; have B6 := B5.kept g6 (by simp); have G6 := gb_trans G5 g6; have i0 := B6.cell 0 (v := .complex .f64 0 0) rfl; have i1 := B6.cell 1 (v := .bool false) rfl; have i2 := B6.cell 2 (v := .complex .f64 0 0) rfl; have j0 := B6.frozen 0; have j1 := B6.frozen 1; have j2 := B6.frozen 2))
  refine ret_c2 (g := W1.heap.size) (cs := mv (pa 6) (pb 6) (fl4 6) (floatOfInt .f64 X) (floatOfInt .f64 Y)) rfl hfs infoI rfl (bo3 B6) rfl ⟨rfl, gb3 G6 le⟩

set_option maxHeartbeats 2000000 in
theorem refBack7 (a b : Nat) (f : Bool) (c d : Nat) {x y : Int} (h : May a b f c d 7 x y) (X Y : Int) (hX : -(lx 7 x y) = X) (hY : -(ly 7 x y) = Y) (w : World) : Calls Try.prog 22 #[.agg (mv a b f c d)] w fun e w' => e = .returned (.tuple #[.agg (mv (pa 7) (pb 7) (fl4 7) (floatOfInt .f64 X) (floatOfInt .f64 Y)), .int .i64 0]) ∧ w.grownBy w' none := by
  obtain ⟨fs, hfs⟩ := underI
  obtain ⟨W1, hW1, sz1, g1, B1⟩ := boxn w (mv a b f c d) 25
  obtain ⟨W2, hW2, sz2, g2, B2⟩ := boxn W1 #[.complex .f64 0 0, .bool false, .complex .f64 0 0] 25
  have A2 := B1.kept g2 (by simp)
  have G2 := gb_trans g1 g2
  have le := g1.size
  have st := stC
  have k0 := A2.cell 0 (v := .complex .f64 a b) rfl; have k1 := A2.cell 1 (v := .bool f) rfl; have k2 := A2.cell 2 (v := .complex .f64 c d) rfl
  have hh : ∀ w, Calls Try.prog 40 #[.agg (mv a b f c d)] w fun e w' => e = .returned (.tuple #[.int .i64 7, .int .i64 x, .int .i64 y, .bool true]) ∧ w.grownBy w' none := refPartsYes a b f c d h
  have n1 := near_of h.n1
  have n2 := near_of h.n2
  obtain ⟨l1, l2⟩ := l_abs 7 x y
  obtain ⟨s, hs⟩ : ∃ s, lx 7 x y = s := ⟨_, rfl⟩
  obtain ⟨t, ht⟩ : ∃ t, ly 7 x y = t := ⟨_, rfl⟩
  have hL : ∀ w, Calls Try.prog 44 #[.int .i64 7, .int .i64 x, .int .i64 y] w fun e w' => e = .returned (.tuple #[.int .i64 s, .int .i64 t]) ∧ w' = w := refLinC 7 (by decide) x y (by unfold Mid; omega) (by unfold Mid; omega) s t hs ht
  rw [hs] at hX l1
  rw [ht] at hY l2
  have w1' : IntKind.i64.wrap (-s) = X := by rw [IntKind.wrap_i64]; omega
  have w2' : IntKind.i64.wrap (-t) = Y := by rw [IntKind.wrap_i64]; omega
  have hM : ∀ w, Calls Try.prog 36 #[.int .i64 7, .int .i64 X, .int .i64 Y] w fun e w' => e = .returned (.agg (mv (pa 7) (pb 7) (fl4 7) (floatOfInt .f64 X) (floatOfInt .f64 Y))) ∧ w.grownBy w' none := refMadeC 7 (by decide) X Y
  have hB0 : ∀ w, Calls Try.prog 38 #[.int .i64 7, .int .i64 0] w fun e w' => e = .returned (.int .i64 7) ∧ w' = w := refBothC 7 0 (by decide) (by decide) 7 (by decide)
  have hB1 : ∀ w, Calls Try.prog 38 #[.int .i64 7, .int .i64 1] w fun e w' => e = .returned (.int .i64 4) ∧ w' = w := refBothC 7 1 (by decide) (by decide) 4 (by decide)
  have hB2 : ∀ w, Calls Try.prog 38 #[.int .i64 7, .int .i64 2] w fun e w' => e = .returned (.int .i64 5) ∧ w' = w := refBothC 7 2 (by decide) (by decide) 5 (by decide)
  have hB3 : ∀ w, Calls Try.prog 38 #[.int .i64 7, .int .i64 3] w fun e w' => e = .returned (.int .i64 6) ∧ w' = w := refBothC 7 3 (by decide) (by decide) 6 (by decide)
  have hB4 : ∀ w, Calls Try.prog 38 #[.int .i64 7, .int .i64 4] w fun e w' => e = .returned (.int .i64 1) ∧ w' = w := refBothC 7 4 (by decide) (by decide) 1 (by decide)
  have hB5 : ∀ w, Calls Try.prog 38 #[.int .i64 7, .int .i64 5] w fun e w' => e = .returned (.int .i64 2) ∧ w' = w := refBothC 7 5 (by decide) (by decide) 2 (by decide)
  have hB6 : ∀ w, Calls Try.prog 38 #[.int .i64 7, .int .i64 6] w fun e w' => e = .returned (.int .i64 3) ∧ w' = w := refBothC 7 6 (by decide) (by decide) 3 (by decide)
  have hB7 : ∀ w, Calls Try.prog 38 #[.int .i64 7, .int .i64 7] w fun e w' => e = .returned (.int .i64 0) ∧ w' = w := refBothC 7 7 (by decide) (by decide) 0 (by decide)
  clear h n1 n2 l1 l2 hs ht hX hY
  go_enter Try.func22, Try.ntmps22
  go_wp2_with (first | (go_at_call 40; refine (hh _).mono ?_; rintro e w5 ⟨rfl, g5⟩; have B5 := B2.kept g5 (by simp); have G5 := gb_trans G2 g5; have r0 := B5.cell 0 (v := .complex .f64 0 0) rfl; have r1 := B5.cell 1 (v := .bool false) rfl; have r2 := B5.cell 2 (v := .complex .f64 0 0) rfl; have s0 := B5.frozen 0; have s1 := B5.frozen 1; have s2 := B5.frozen 2))
  refine wp_loop_rounds 9 ?_
  rw [rounds_succ]
  go_wp2_with (first | (go_at_call 38; refine (hB0 _).mono ?_; rintro e w' ⟨rfl, hw'⟩; subst w'))
  rw [rounds_succ]
  go_wp2_with (first | (go_at_call 38; refine (hB1 _).mono ?_; rintro e w' ⟨rfl, hw'⟩; subst w'))
  rw [rounds_succ]
  go_wp2_with (first | (go_at_call 38; refine (hB2 _).mono ?_; rintro e w' ⟨rfl, hw'⟩; subst w'))
  rw [rounds_succ]
  go_wp2_with (first | (go_at_call 38; refine (hB3 _).mono ?_; rintro e w' ⟨rfl, hw'⟩; subst w'))
  rw [rounds_succ]
  go_wp2_with (first | (go_at_call 38; refine (hB4 _).mono ?_; rintro e w' ⟨rfl, hw'⟩; subst w'))
  rw [rounds_succ]
  go_wp2_with (first | (go_at_call 38; refine (hB5 _).mono ?_; rintro e w' ⟨rfl, hw'⟩; subst w'))
  rw [rounds_succ]
  go_wp2_with (first | (go_at_call 38; refine (hB6 _).mono ?_; rintro e w' ⟨rfl, hw'⟩; subst w'))
  rw [rounds_succ]
  go_wp2_with (first | (go_at_call 38; refine (hB7 _).mono ?_; rintro e w' ⟨rfl, hw'⟩; subst w') | (go_at_call 44; refine (hL _).mono ?_; rintro e w' ⟨rfl, hw'⟩; subst w') | (go_at_call 36; refine (hM _).mono ?_; rintro e w6 ⟨rfl, g6⟩; have B6 := B5.kept g6 (by simp); have G6 := gb_trans G5 g6; have i0 := B6.cell 0 (v := .complex .f64 0 0) rfl; have i1 := B6.cell 1 (v := .bool false) rfl; have i2 := B6.cell 2 (v := .complex .f64 0 0) rfl; have j0 := B6.frozen 0; have j1 := B6.frozen 1; have j2 := B6.frozen 2))
  refine ret_c2 (g := W1.heap.size) (cs := mv (pa 7) (pb 7) (fl4 7) (floatOfInt .f64 X) (floatOfInt .f64 Y)) rfl hfs infoI rfl (bo3 B6) rfl ⟨rfl, gb3 G6 le⟩

theorem refBackYes (a b : Nat) (f : Bool) (c d : Nat) {k : Nat} {x y : Int} (h : May a b f c d k x y) (w : World) : Calls Try.prog 22 #[.agg (mv a b f c d)] w fun e w' => e = .returned (.tuple #[.agg (mv (pa (back k)) (pb (back k)) (fl4 (back k)) (floatOfInt .f64 (-(lx (back k) x y))) (floatOfInt .f64 (-(ly (back k) x y)))), .int .i64 0]) ∧ w.grownBy w' none := by
  obtain rfl | rfl | rfl | rfl | rfl | rfl | rfl | rfl : k = 0 ∨ k = 1 ∨ k = 2 ∨ k = 3 ∨ k = 4 ∨ k = 5 ∨ k = 6 ∨ k = 7 := by have := h.lt; omega
  · exact refBack0 a b f c d h _ _ rfl rfl w
  · exact refBack1 a b f c d h _ _ rfl rfl w
  · exact refBack2 a b f c d h _ _ rfl rfl w
  · exact refBack3 a b f c d h _ _ rfl rfl w
  · exact refBack4 a b f c d h _ _ rfl rfl w
  · exact refBack5 a b f c d h _ _ rfl rfl w
  · exact refBack6 a b f c d h _ _ rfl rfl w
  · exact refBack7 a b f c d h _ _ rfl rfl w

theorem refTimesNo (n : Int) (h : n < 0 ∨ 7 < n) (w : World) : Calls Try.prog 17 #[.int .i64 n] w fun e w' => e = .returned (.tuple #[.int .i64 0, .int .i64 2]) ∧ w' = w := by
  rcases h with h | h
  all_goals
    go_enter Try.func17, Try.ntmps17
    go_wp2
    go_ret2
    exact ⟨rfl, rfl⟩

theorem refTimes0 (w : World) : Calls Try.prog 17 #[.int .i64 0] w fun e w' => e = .returned (.tuple #[.int .i64 1, .int .i64 0]) ∧ w' = w := by
  go_enter Try.func17, Try.ntmps17
  go_wp2
  refine wp_loop_rounds 6 ?_
  rw [rounds_succ]
  go_wp2
  go_ret2
  exact ⟨rfl, rfl⟩

theorem refTimes1 (w : World) : Calls Try.prog 17 #[.int .i64 1] w fun e w' => e = .returned (.tuple #[.int .i64 4, .int .i64 0]) ∧ w' = w := by
  have hB0 : ∀ w, Calls Try.prog 38 #[.int .i64 1, .int .i64 1] w fun e w' => e = .returned (.int .i64 2) ∧ w' = w := refBothC 1 1 (by decide) (by decide) 2 (by decide)
  have hB1 : ∀ w, Calls Try.prog 38 #[.int .i64 2, .int .i64 1] w fun e w' => e = .returned (.int .i64 3) ∧ w' = w := refBothC 2 1 (by decide) (by decide) 3 (by decide)
  have hB2 : ∀ w, Calls Try.prog 38 #[.int .i64 3, .int .i64 1] w fun e w' => e = .returned (.int .i64 0) ∧ w' = w := refBothC 3 1 (by decide) (by decide) 0 (by decide)
  go_enter Try.func17, Try.ntmps17
  go_wp2
  refine wp_loop_rounds 6 ?_
  rw [rounds_succ]
  go_wp2_with (first | (go_at_call 38; refine (hB0 _).mono ?_; rintro e w' ⟨rfl, hw'⟩; subst w'))
  rw [rounds_succ]
  go_wp2_with (first | (go_at_call 38; refine (hB1 _).mono ?_; rintro e w' ⟨rfl, hw'⟩; subst w'))
  rw [rounds_succ]
  go_wp2_with (first | (go_at_call 38; refine (hB2 _).mono ?_; rintro e w' ⟨rfl, hw'⟩; subst w'))
  rw [rounds_succ]
  go_wp2
  go_ret2
  exact ⟨rfl, rfl⟩

theorem refTimes2 (w : World) : Calls Try.prog 17 #[.int .i64 2] w fun e w' => e = .returned (.tuple #[.int .i64 2, .int .i64 0]) ∧ w' = w := by
  have hB0 : ∀ w, Calls Try.prog 38 #[.int .i64 2, .int .i64 2] w fun e w' => e = .returned (.int .i64 0) ∧ w' = w := refBothC 2 2 (by decide) (by decide) 0 (by decide)
  go_enter Try.func17, Try.ntmps17
  go_wp2
  refine wp_loop_rounds 6 ?_
  rw [rounds_succ]
  go_wp2_with (first | (go_at_call 38; refine (hB0 _).mono ?_; rintro e w' ⟨rfl, hw'⟩; subst w'))
  rw [rounds_succ]
  go_wp2
  go_ret2
  exact ⟨rfl, rfl⟩

theorem refTimes3 (w : World) : Calls Try.prog 17 #[.int .i64 3] w fun e w' => e = .returned (.tuple #[.int .i64 4, .int .i64 0]) ∧ w' = w := by
  have hB0 : ∀ w, Calls Try.prog 38 #[.int .i64 3, .int .i64 3] w fun e w' => e = .returned (.int .i64 2) ∧ w' = w := refBothC 3 3 (by decide) (by decide) 2 (by decide)
  have hB1 : ∀ w, Calls Try.prog 38 #[.int .i64 2, .int .i64 3] w fun e w' => e = .returned (.int .i64 1) ∧ w' = w := refBothC 2 3 (by decide) (by decide) 1 (by decide)
  have hB2 : ∀ w, Calls Try.prog 38 #[.int .i64 1, .int .i64 3] w fun e w' => e = .returned (.int .i64 0) ∧ w' = w := refBothC 1 3 (by decide) (by decide) 0 (by decide)
  go_enter Try.func17, Try.ntmps17
  go_wp2
  refine wp_loop_rounds 6 ?_
  rw [rounds_succ]
  go_wp2_with (first | (go_at_call 38; refine (hB0 _).mono ?_; rintro e w' ⟨rfl, hw'⟩; subst w'))
  rw [rounds_succ]
  go_wp2_with (first | (go_at_call 38; refine (hB1 _).mono ?_; rintro e w' ⟨rfl, hw'⟩; subst w'))
  rw [rounds_succ]
  go_wp2_with (first | (go_at_call 38; refine (hB2 _).mono ?_; rintro e w' ⟨rfl, hw'⟩; subst w'))
  rw [rounds_succ]
  go_wp2
  go_ret2
  exact ⟨rfl, rfl⟩

theorem refTimes4 (w : World) : Calls Try.prog 17 #[.int .i64 4] w fun e w' => e = .returned (.tuple #[.int .i64 2, .int .i64 0]) ∧ w' = w := by
  have hB0 : ∀ w, Calls Try.prog 38 #[.int .i64 4, .int .i64 4] w fun e w' => e = .returned (.int .i64 0) ∧ w' = w := refBothC 4 4 (by decide) (by decide) 0 (by decide)
  go_enter Try.func17, Try.ntmps17
  go_wp2
  refine wp_loop_rounds 6 ?_
  rw [rounds_succ]
  go_wp2_with (first | (go_at_call 38; refine (hB0 _).mono ?_; rintro e w' ⟨rfl, hw'⟩; subst w'))
  rw [rounds_succ]
  go_wp2
  go_ret2
  exact ⟨rfl, rfl⟩

theorem refTimes5 (w : World) : Calls Try.prog 17 #[.int .i64 5] w fun e w' => e = .returned (.tuple #[.int .i64 2, .int .i64 0]) ∧ w' = w := by
  have hB0 : ∀ w, Calls Try.prog 38 #[.int .i64 5, .int .i64 5] w fun e w' => e = .returned (.int .i64 0) ∧ w' = w := refBothC 5 5 (by decide) (by decide) 0 (by decide)
  go_enter Try.func17, Try.ntmps17
  go_wp2
  refine wp_loop_rounds 6 ?_
  rw [rounds_succ]
  go_wp2_with (first | (go_at_call 38; refine (hB0 _).mono ?_; rintro e w' ⟨rfl, hw'⟩; subst w'))
  rw [rounds_succ]
  go_wp2
  go_ret2
  exact ⟨rfl, rfl⟩

theorem refTimes6 (w : World) : Calls Try.prog 17 #[.int .i64 6] w fun e w' => e = .returned (.tuple #[.int .i64 2, .int .i64 0]) ∧ w' = w := by
  have hB0 : ∀ w, Calls Try.prog 38 #[.int .i64 6, .int .i64 6] w fun e w' => e = .returned (.int .i64 0) ∧ w' = w := refBothC 6 6 (by decide) (by decide) 0 (by decide)
  go_enter Try.func17, Try.ntmps17
  go_wp2
  refine wp_loop_rounds 6 ?_
  rw [rounds_succ]
  go_wp2_with (first | (go_at_call 38; refine (hB0 _).mono ?_; rintro e w' ⟨rfl, hw'⟩; subst w'))
  rw [rounds_succ]
  go_wp2
  go_ret2
  exact ⟨rfl, rfl⟩

theorem refTimes7 (w : World) : Calls Try.prog 17 #[.int .i64 7] w fun e w' => e = .returned (.tuple #[.int .i64 2, .int .i64 0]) ∧ w' = w := by
  have hB0 : ∀ w, Calls Try.prog 38 #[.int .i64 7, .int .i64 7] w fun e w' => e = .returned (.int .i64 0) ∧ w' = w := refBothC 7 7 (by decide) (by decide) 0 (by decide)
  go_enter Try.func17, Try.ntmps17
  go_wp2
  refine wp_loop_rounds 6 ?_
  rw [rounds_succ]
  go_wp2_with (first | (go_at_call 38; refine (hB0 _).mono ?_; rintro e w' ⟨rfl, hw'⟩; subst w'))
  rw [rounds_succ]
  go_wp2
  go_ret2
  exact ⟨rfl, rfl⟩

theorem refTimesYes (k : Nat) (h : k < 8) (w : World) : Calls Try.prog 17 #[.int .i64 k] w fun e w' => e = .returned (.tuple #[.int .i64 (tms k), .int .i64 0]) ∧ w' = w := by
  obtain rfl | rfl | rfl | rfl | rfl | rfl | rfl | rfl : k = 0 ∨ k = 1 ∨ k = 2 ∨ k = 3 ∨ k = 4 ∨ k = 5 ∨ k = 6 ∨ k = 7 := by omega
  · exact refTimes0 w
  · exact refTimes1 w
  · exact refTimes2 w
  · exact refTimes3 w
  · exact refTimes4 w
  · exact refTimes5 w
  · exact refTimes6 w
  · exact refTimes7 w
end Go.Proofs.Ytmlehegahgijhaa
