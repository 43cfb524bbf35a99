/- What the document's Has answers. -/
import Derived.Test.YtgiiaokkmnjckabT7
namespace Go.Proofs.Ytgiiaokkmnjckab.To
open Go.RowKit
set_option linter.unusedVariables false
set_option linter.unusedSimpArgs false

set_option maxHeartbeats 1000000 in
theorem refHasNo (k x y t z a b : Int) (ht : 0 ≤ t) (h : ¬ Tp.chk k x y t z = 0) (w : World) : Calls Try.prog 16 #[.agg #[.int .u8 k, .int .i64 x, .int .i64 y, .int .u8 t, .int .i64 z], .agg #[.int .i64 a, .int .i64 b]] w fun e w' => e = .returned (.tuple #[.bool false, .int .i64 (Tp.chk k x y t z)]) ∧ w.grownBy w' none := by
  obtain ⟨W1, hW1, sz1, g1, B1⟩ := boxn w #[.int .u8 k, .int .i64 x, .int .i64 y, .int .u8 t, .int .i64 z] 23
  obtain ⟨W2, hW2, sz2, g2, B2⟩ := boxn W1 #[.int .i64 a, .int .i64 b] 33
  have B1' := B1.kept g2 (by simp)
  have G2 := gb_trans g1 g2
  have c0 := B1'.cell 0 (v := .int .u8 k) rfl; have c1 := B1'.cell 1 (v := .int .i64 x) rfl; have c2 := B1'.cell 2 (v := .int .i64 y) rfl; have c3 := B1'.cell 3 (v := .int .u8 t) rfl; have c4 := B1'.cell 4 (v := .int .i64 z) rfl
  go_enter Try.func16, Try.ntmps16
  go_wp2_with (first | (go_at_call 35; refine (refHomeNo _ _ _ _ _ ht h _).mono ?_; rintro e w3 ⟨rfl, g3⟩; have G4 : w.grownBy (w3.alloc (.cells #[.int .i64 0, .int .i64 0, .int .i64 0, .int .i64 0] 28)) none := gb_alloc (gb_trans G2 g3) _))
  go_ret2
  exact ⟨rfl, G4⟩
set_option maxHeartbeats 1000000 in
theorem refHasFar (k x y t z a b : Int) (ht : 0 ≤ t) (h : Tp.chk k x y t z = 0) (hf : (frB a || frB b) = true) (w : World) : Calls Try.prog 16 #[.agg #[.int .u8 k, .int .i64 x, .int .i64 y, .int .u8 t, .int .i64 z], .agg #[.int .i64 a, .int .i64 b]] w fun e w' => e = .returned (.tuple #[.bool false, .int .i64 5]) ∧ w.grownBy w' none := by
  have ok := Tp.ok_of h
  have hx := ok.wide
  have hy := ok.high
  have HH : Hid (Tp.chk k x y t z = 0) := h
  clear ok
  obtain ⟨W1, hW1, sz1, g1, B1⟩ := boxn w #[.int .u8 k, .int .i64 x, .int .i64 y, .int .u8 t, .int .i64 z] 23
  obtain ⟨W2, hW2, sz2, g2, B2⟩ := boxn W1 #[.int .i64 a, .int .i64 b] 33
  have B1' := B1.kept g2 (by simp)
  have G2 := gb_trans g1 g2
  have c0 := B1'.cell 0 (v := .int .u8 k) rfl; have c1 := B1'.cell 1 (v := .int .i64 x) rfl; have c2 := B1'.cell 2 (v := .int .i64 y) rfl; have c3 := B1'.cell 3 (v := .int .u8 t) rfl; have c4 := B1'.cell 4 (v := .int .i64 z) rfl
  cases h1 : frB a with
  | true =>
    clear hf
    go_enter Try.func16, Try.ntmps16
    go_wp2_with (first | (go_at_call 35; refine (refHomeYes _ _ _ _ _ ht HH.out hx hy _).mono ?_; rintro e w3 ⟨rfl, g3⟩; obtain ⟨W4, hW4, sz4, g4, BH⟩ := boxn w3 #[.int .i64 (fi x), .int .i64 (fi y), .int .i64 x, .int .i64 y] 28; have G4 := gb_trans (gb_trans G2 g3) g4; have BP := (B2.kept g3 (by simp)).kept g4 (by simp); have hh0 := BH.cell 0 (v := .int .i64 (fi x)) rfl; have hh1 := BH.cell 1 (v := .int .i64 (fi y)) rfl; have hh2 := BH.cell 2 (v := .int .i64 x) rfl; have hh3 := BH.cell 3 (v := .int .i64 y) rfl; have p0 := BP.cell 0 (v := .int .i64 a) rfl; have p1 := BP.cell 1 (v := .int .i64 b) rfl) | (go_at_call 36; refine (refFarC _ _).mono ?_; rintro e w' ⟨rfl, hw'⟩; subst w'))
    go_ret2
    exact ⟨rfl, G4⟩
  | false =>
    have h2 : frB b = true := by rw [h1] at hf; exact hf
    clear hf
    go_enter Try.func16, Try.ntmps16
    go_wp2_with (first | (go_at_call 35; refine (refHomeYes _ _ _ _ _ ht HH.out hx hy _).mono ?_; rintro e w3 ⟨rfl, g3⟩; obtain ⟨W4, hW4, sz4, g4, BH⟩ := boxn w3 #[.int .i64 (fi x), .int .i64 (fi y), .int .i64 x, .int .i64 y] 28; have G4 := gb_trans (gb_trans G2 g3) g4; have BP := (B2.kept g3 (by simp)).kept g4 (by simp); have hh0 := BH.cell 0 (v := .int .i64 (fi x)) rfl; have hh1 := BH.cell 1 (v := .int .i64 (fi y)) rfl; have hh2 := BH.cell 2 (v := .int .i64 x) rfl; have hh3 := BH.cell 3 (v := .int .i64 y) rfl; have p0 := BP.cell 0 (v := .int .i64 a) rfl; have p1 := BP.cell 1 (v := .int .i64 b) rfl) | (go_at_call 36; refine (refFarC _ _).mono ?_; rintro e w' ⟨rfl, hw'⟩; subst w'))
    go_ret2
    exact ⟨rfl, G4⟩
theorem li_zero {n l : Int} (h : (l == 0) = true) : liB n l = true := by unfold liB; simp at h; simp [h]
theorem li_low {n l : Int} (h : (l == 0) = false) (h1 : ¬ fi l ≤ n) : liB n l = false := by unfold liB; simp at h; simp [h, h1]
theorem li_top {n l : Int} (h : (l == 0) = false) (h1 : fi l ≤ n) (h2 : ¬ n < fi l + l) : liB n l = false := by unfold liB; simp at h; simp [h, h1, h2]
theorem li_in {n l : Int} (h : (l == 0) = false) (h1 : fi l ≤ n) (h2 : n < fi l + l) : liB n l = true := by unfold liB; simp at h; simp [h, h1, h2]

set_option maxHeartbeats 1000000 in
theorem refHas_aa (k x y t z a b : Int) (ht : 0 ≤ t) (h : Hid (Tp.chk k x y t z = 0)) (h1 : frB a = false) (h2 : frB b = false) (hx : 0 ≤ x ∧ x ≤ 65536) (hy : 0 ≤ y ∧ y ≤ 65536) (hx0 : (x == 0) = true) (hy0 : (y == 0) = true) (w : World) : Calls Try.prog 16 #[.agg #[.int .u8 k, .int .i64 x, .int .i64 y, .int .u8 t, .int .i64 z], .agg #[.int .i64 a, .int .i64 b]] w fun e w' => e = .returned (.tuple #[.bool (liB a x && liB b y), .int .i64 0]) ∧ w.grownBy w' none := by
  have e1 : Hid (true = liB a x) := (li_zero hx0).symm
  have e2 : Hid (true = liB b y) := (li_zero hy0).symm
  have w1 : IntKind.i64.wrap (fi x + x) = fi x + x := by unfold fi; rw [IntKind.wrap_i64]; omega
  have w2 : IntKind.i64.wrap (fi y + y) = fi y + y := by unfold fi; rw [IntKind.wrap_i64]; omega
  obtain ⟨W1, hW1, sz1, g1, B1⟩ := boxn w #[.int .u8 k, .int .i64 x, .int .i64 y, .int .u8 t, .int .i64 z] 23
  obtain ⟨W2, hW2, sz2, g2, B2⟩ := boxn W1 #[.int .i64 a, .int .i64 b] 33
  have B1' := B1.kept g2 (by simp)
  have G2 := gb_trans g1 g2
  have c0 := B1'.cell 0 (v := .int .u8 k) rfl; have c1 := B1'.cell 1 (v := .int .i64 x) rfl; have c2 := B1'.cell 2 (v := .int .i64 y) rfl; have c3 := B1'.cell 3 (v := .int .u8 t) rfl; have c4 := B1'.cell 4 (v := .int .i64 z) rfl
  go_enter Try.func16, Try.ntmps16
  go_wp2_with (first | (go_at_call 35; refine (refHomeYes _ _ _ _ _ ht h.out hx hy _).mono ?_; rintro e w3 ⟨rfl, g3⟩; obtain ⟨W4, hW4, sz4, g4, BH⟩ := boxn w3 #[.int .i64 (fi x), .int .i64 (fi y), .int .i64 x, .int .i64 y] 28; have G4 := gb_trans (gb_trans G2 g3) g4; have BP := (B2.kept g3 (by simp)).kept g4 (by simp); have hh0 := BH.cell 0 (v := .int .i64 (fi x)) rfl; have hh1 := BH.cell 1 (v := .int .i64 (fi y)) rfl; have hh2 := BH.cell 2 (v := .int .i64 x) rfl; have hh3 := BH.cell 3 (v := .int .i64 y) rfl; have p0 := BP.cell 0 (v := .int .i64 a) rfl; have p1 := BP.cell 1 (v := .int .i64 b) rfl) | (go_at_call 36; refine (refFarC _ _).mono ?_; rintro e w' ⟨rfl, hw'⟩; subst w'))
  go_ret2
  exact ⟨ret_bi (by rw [← e1.out, ← e2.out]; first | rfl | simp [*]) rfl, by first | exact G4 | exact gb_drewN G4 _⟩

set_option maxHeartbeats 1000000 in
theorem refHas_ab (k x y t z a b : Int) (ht : 0 ≤ t) (h : Hid (Tp.chk k x y t z = 0)) (h1 : frB a = false) (h2 : frB b = false) (hx : 0 ≤ x ∧ x ≤ 65536) (hy : 0 ≤ y ∧ y ≤ 65536) (hx0 : (x == 0) = true) (hy0 : (y == 0) = false) (hy1 : ¬ fi y ≤ b) (w : World) : Calls Try.prog 16 #[.agg #[.int .u8 k, .int .i64 x, .int .i64 y, .int .u8 t, .int .i64 z], .agg #[.int .i64 a, .int .i64 b]] w fun e w' => e = .returned (.tuple #[.bool (liB a x && liB b y), .int .i64 0]) ∧ w.grownBy w' none := by
  have e1 : Hid (true = liB a x) := (li_zero hx0).symm
  have e2 : Hid (false = liB b y) := (li_low hy0 hy1).symm
  have w1 : IntKind.i64.wrap (fi x + x) = fi x + x := by unfold fi; rw [IntKind.wrap_i64]; omega
  have w2 : IntKind.i64.wrap (fi y + y) = fi y + y := by unfold fi; rw [IntKind.wrap_i64]; omega
  obtain ⟨W1, hW1, sz1, g1, B1⟩ := boxn w #[.int .u8 k, .int .i64 x, .int .i64 y, .int .u8 t, .int .i64 z] 23
  obtain ⟨W2, hW2, sz2, g2, B2⟩ := boxn W1 #[.int .i64 a, .int .i64 b] 33
  have B1' := B1.kept g2 (by simp)
  have G2 := gb_trans g1 g2
  have c0 := B1'.cell 0 (v := .int .u8 k) rfl; have c1 := B1'.cell 1 (v := .int .i64 x) rfl; have c2 := B1'.cell 2 (v := .int .i64 y) rfl; have c3 := B1'.cell 3 (v := .int .u8 t) rfl; have c4 := B1'.cell 4 (v := .int .i64 z) rfl
  go_enter Try.func16, Try.ntmps16
  go_wp2_with (first | (go_at_call 35; refine (refHomeYes _ _ _ _ _ ht h.out hx hy _).mono ?_; rintro e w3 ⟨rfl, g3⟩; obtain ⟨W4, hW4, sz4, g4, BH⟩ := boxn w3 #[.int .i64 (fi x), .int .i64 (fi y), .int .i64 x, .int .i64 y] 28; have G4 := gb_trans (gb_trans G2 g3) g4; have BP := (B2.kept g3 (by simp)).kept g4 (by simp); have hh0 := BH.cell 0 (v := .int .i64 (fi x)) rfl; have hh1 := BH.cell 1 (v := .int .i64 (fi y)) rfl; have hh2 := BH.cell 2 (v := .int .i64 x) rfl; have hh3 := BH.cell 3 (v := .int .i64 y) rfl; have p0 := BP.cell 0 (v := .int .i64 a) rfl; have p1 := BP.cell 1 (v := .int .i64 b) rfl) | (go_at_call 36; refine (refFarC _ _).mono ?_; rintro e w' ⟨rfl, hw'⟩; subst w'))
  go_ret2
  exact ⟨ret_bi (by rw [← e1.out, ← e2.out]; first | rfl | simp [*]) rfl, by first | exact G4 | exact gb_drewN G4 _⟩

set_option maxHeartbeats 1000000 in
theorem refHas_ac (k x y t z a b : Int) (ht : 0 ≤ t) (h : Hid (Tp.chk k x y t z = 0)) (h1 : frB a = false) (h2 : frB b = false) (hx : 0 ≤ x ∧ x ≤ 65536) (hy : 0 ≤ y ∧ y ≤ 65536) (hx0 : (x == 0) = true) (hy0 : (y == 0) = false) (hy1 : fi y ≤ b) (hy2 : ¬ b < fi y + y) (w : World) : Calls Try.prog 16 #[.agg #[.int .u8 k, .int .i64 x, .int .i64 y, .int .u8 t, .int .i64 z], .agg #[.int .i64 a, .int .i64 b]] w fun e w' => e = .returned (.tuple #[.bool (liB a x && liB b y), .int .i64 0]) ∧ w.grownBy w' none := by
  have e1 : Hid (true = liB a x) := (li_zero hx0).symm
  have e2 : Hid (false = liB b y) := (li_top hy0 hy1 hy2).symm
  have w1 : IntKind.i64.wrap (fi x + x) = fi x + x := by unfold fi; rw [IntKind.wrap_i64]; omega
  have w2 : IntKind.i64.wrap (fi y + y) = fi y + y := by unfold fi; rw [IntKind.wrap_i64]; omega
  obtain ⟨W1, hW1, sz1, g1, B1⟩ := boxn w #[.int .u8 k, .int .i64 x, .int .i64 y, .int .u8 t, .int .i64 z] 23
  obtain ⟨W2, hW2, sz2, g2, B2⟩ := boxn W1 #[.int .i64 a, .int .i64 b] 33
  have B1' := B1.kept g2 (by simp)
  have G2 := gb_trans g1 g2
  have c0 := B1'.cell 0 (v := .int .u8 k) rfl; have c1 := B1'.cell 1 (v := .int .i64 x) rfl; have c2 := B1'.cell 2 (v := .int .i64 y) rfl; have c3 := B1'.cell 3 (v := .int .u8 t) rfl; have c4 := B1'.cell 4 (v := .int .i64 z) rfl
  go_enter Try.func16, Try.ntmps16
  go_wp2_with (first | (go_at_call 35; refine (refHomeYes _ _ _ _ _ ht h.out hx hy _).mono ?_; rintro e w3 ⟨rfl, g3⟩; obtain ⟨W4, hW4, sz4, g4, BH⟩ := boxn w3 #[.int .i64 (fi x), .int .i64 (fi y), .int .i64 x, .int .i64 y] 28; have G4 := gb_trans (gb_trans G2 g3) g4; have BP := (B2.kept g3 (by simp)).kept g4 (by simp); have hh0 := BH.cell 0 (v := .int .i64 (fi x)) rfl; have hh1 := BH.cell 1 (v := .int .i64 (fi y)) rfl; have hh2 := BH.cell 2 (v := .int .i64 x) rfl; have hh3 := BH.cell 3 (v := .int .i64 y) rfl; have p0 := BP.cell 0 (v := .int .i64 a) rfl; have p1 := BP.cell 1 (v := .int .i64 b) rfl) | (go_at_call 36; refine (refFarC _ _).mono ?_; rintro e w' ⟨rfl, hw'⟩; subst w'))
  go_ret2
  exact ⟨ret_bi (by rw [← e1.out, ← e2.out]; first | rfl | simp [*]) rfl, by first | exact G4 | exact gb_drewN G4 _⟩

set_option maxHeartbeats 1000000 in
theorem refHas_ad (k x y t z a b : Int) (ht : 0 ≤ t) (h : Hid (Tp.chk k x y t z = 0)) (h1 : frB a = false) (h2 : frB b = false) (hx : 0 ≤ x ∧ x ≤ 65536) (hy : 0 ≤ y ∧ y ≤ 65536) (hx0 : (x == 0) = true) (hy0 : (y == 0) = false) (hy1 : fi y ≤ b) (hy2 : b < fi y + y) (w : World) : Calls Try.prog 16 #[.agg #[.int .u8 k, .int .i64 x, .int .i64 y, .int .u8 t, .int .i64 z], .agg #[.int .i64 a, .int .i64 b]] w fun e w' => e = .returned (.tuple #[.bool (liB a x && liB b y), .int .i64 0]) ∧ w.grownBy w' none := by
  have e1 : Hid (true = liB a x) := (li_zero hx0).symm
  have e2 : Hid (true = liB b y) := (li_in hy0 hy1 hy2).symm
  have w1 : IntKind.i64.wrap (fi x + x) = fi x + x := by unfold fi; rw [IntKind.wrap_i64]; omega
  have w2 : IntKind.i64.wrap (fi y + y) = fi y + y := by unfold fi; rw [IntKind.wrap_i64]; omega
  obtain ⟨W1, hW1, sz1, g1, B1⟩ := boxn w #[.int .u8 k, .int .i64 x, .int .i64 y, .int .u8 t, .int .i64 z] 23
  obtain ⟨W2, hW2, sz2, g2, B2⟩ := boxn W1 #[.int .i64 a, .int .i64 b] 33
  have B1' := B1.kept g2 (by simp)
  have G2 := gb_trans g1 g2
  have c0 := B1'.cell 0 (v := .int .u8 k) rfl; have c1 := B1'.cell 1 (v := .int .i64 x) rfl; have c2 := B1'.cell 2 (v := .int .i64 y) rfl; have c3 := B1'.cell 3 (v := .int .u8 t) rfl; have c4 := B1'.cell 4 (v := .int .i64 z) rfl
  go_enter Try.func16, Try.ntmps16
  go_wp2_with (first | (go_at_call 35; refine (refHomeYes _ _ _ _ _ ht h.out hx hy _).mono ?_; rintro e w3 ⟨rfl, g3⟩; obtain ⟨W4, hW4, sz4, g4, BH⟩ := boxn w3 #[.int .i64 (fi x), .int .i64 (fi y), .int .i64 x, .int .i64 y] 28; have G4 := gb_trans (gb_trans G2 g3) g4; have BP := (B2.kept g3 (by simp)).kept g4 (by simp); have hh0 := BH.cell 0 (v := .int .i64 (fi x)) rfl; have hh1 := BH.cell 1 (v := .int .i64 (fi y)) rfl; have hh2 := BH.cell 2 (v := .int .i64 x) rfl; have hh3 := BH.cell 3 (v := .int .i64 y) rfl; have p0 := BP.cell 0 (v := .int .i64 a) rfl; have p1 := BP.cell 1 (v := .int .i64 b) rfl) | (go_at_call 36; refine (refFarC _ _).mono ?_; rintro e w' ⟨rfl, hw'⟩; subst w'))
  go_ret2
  exact ⟨ret_bi (by rw [← e1.out, ← e2.out]; first | rfl | simp [*]) rfl, by first | exact G4 | exact gb_drewN G4 _⟩

set_option maxHeartbeats 1000000 in
theorem refHas_ba (k x y t z a b : Int) (ht : 0 ≤ t) (h : Hid (Tp.chk k x y t z = 0)) (h1 : frB a = false) (h2 : frB b = false) (hx : 0 ≤ x ∧ x ≤ 65536) (hy : 0 ≤ y ∧ y ≤ 65536) (hx0 : (x == 0) = false) (hx1 : ¬ fi x ≤ a) (hy0 : (y == 0) = true) (w : World) : Calls Try.prog 16 #[.agg #[.int .u8 k, .int .i64 x, .int .i64 y, .int .u8 t, .int .i64 z], .agg #[.int .i64 a, .int .i64 b]] w fun e w' => e = .returned (.tuple #[.bool (liB a x && liB b y), .int .i64 0]) ∧ w.grownBy w' none := by
  have e1 : Hid (false = liB a x) := (li_low hx0 hx1).symm
  have e2 : Hid (true = liB b y) := (li_zero hy0).symm
  have w1 : IntKind.i64.wrap (fi x + x) = fi x + x := by unfold fi; rw [IntKind.wrap_i64]; omega
  have w2 : IntKind.i64.wrap (fi y + y) = fi y + y := by unfold fi; rw [IntKind.wrap_i64]; omega
  obtain ⟨W1, hW1, sz1, g1, B1⟩ := boxn w #[.int .u8 k, .int .i64 x, .int .i64 y, .int .u8 t, .int .i64 z] 23
  obtain ⟨W2, hW2, sz2, g2, B2⟩ := boxn W1 #[.int .i64 a, .int .i64 b] 33
  have B1' := B1.kept g2 (by simp)
  have G2 := gb_trans g1 g2
  have c0 := B1'.cell 0 (v := .int .u8 k) rfl; have c1 := B1'.cell 1 (v := .int .i64 x) rfl; have c2 := B1'.cell 2 (v := .int .i64 y) rfl; have c3 := B1'.cell 3 (v := .int .u8 t) rfl; have c4 := B1'.cell 4 (v := .int .i64 z) rfl
  go_enter Try.func16, Try.ntmps16
  go_wp2_with (first | (go_at_call 35; refine (refHomeYes _ _ _ _ _ ht h.out hx hy _).mono ?_; rintro e w3 ⟨rfl, g3⟩; obtain ⟨W4, hW4, sz4, g4, BH⟩ := boxn w3 #[.int .i64 (fi x), .int .i64 (fi y), .int .i64 x, .int .i64 y] 28; have G4 := gb_trans (gb_trans G2 g3) g4; have BP := (B2.kept g3 (by simp)).kept g4 (by simp); have hh0 := BH.cell 0 (v := .int .i64 (fi x)) rfl; have hh1 := BH.cell 1 (v := .int .i64 (fi y)) rfl; have hh2 := BH.cell 2 (v := .int .i64 x) rfl; have hh3 := BH.cell 3 (v := .int .i64 y) rfl; have p0 := BP.cell 0 (v := .int .i64 a) rfl; have p1 := BP.cell 1 (v := .int .i64 b) rfl) | (go_at_call 36; refine (refFarC _ _).mono ?_; rintro e w' ⟨rfl, hw'⟩; subst w'))
  go_ret2
  exact ⟨ret_bi (by rw [← e1.out, ← e2.out]; first | rfl | simp [*]) rfl, by first | exact G4 | exact gb_drewN G4 _⟩

set_option maxHeartbeats 1000000 in
theorem refHas_bb (k x y t z a b : Int) (ht : 0 ≤ t) (h : Hid (Tp.chk k x y t z = 0)) (h1 : frB a = false) (h2 : frB b = false) (hx : 0 ≤ x ∧ x ≤ 65536) (hy : 0 ≤ y ∧ y ≤ 65536) (hx0 : (x == 0) = false) (hx1 : ¬ fi x ≤ a) (hy0 : (y == 0) = false) (hy1 : ¬ fi y ≤ b) (w : World) : Calls Try.prog 16 #[.agg #[.int .u8 k, .int .i64 x, .int .i64 y, .int .u8 t, .int .i64 z], .agg #[.int .i64 a, .int .i64 b]] w fun e w' => e = .returned (.tuple #[.bool (liB a x && liB b y), .int .i64 0]) ∧ w.grownBy w' none := by
  have e1 : Hid (false = liB a x) := (li_low hx0 hx1).symm
  have e2 : Hid (false = liB b y) := (li_low hy0 hy1).symm
  have w1 : IntKind.i64.wrap (fi x + x) = fi x + x := by unfold fi; rw [IntKind.wrap_i64]; omega
  have w2 : IntKind.i64.wrap (fi y + y) = fi y + y := by unfold fi; rw [IntKind.wrap_i64]; omega
  obtain ⟨W1, hW1, sz1, g1, B1⟩ := boxn w #[.int .u8 k, .int .i64 x, .int .i64 y, .int .u8 t, .int .i64 z] 23
  obtain ⟨W2, hW2, sz2, g2, B2⟩ := boxn W1 #[.int .i64 a, .int .i64 b] 33
  have B1' := B1.kept g2 (by simp)
  have G2 := gb_trans g1 g2
  have c0 := B1'.cell 0 (v := .int .u8 k) rfl; have c1 := B1'.cell 1 (v := .int .i64 x) rfl; have c2 := B1'.cell 2 (v := .int .i64 y) rfl; have c3 := B1'.cell 3 (v := .int .u8 t) rfl; have c4 := B1'.cell 4 (v := .int .i64 z) rfl
  go_enter Try.func16, Try.ntmps16
  go_wp2_with (first | (go_at_call 35; refine (refHomeYes _ _ _ _ _ ht h.out hx hy _).mono ?_; rintro e w3 ⟨rfl, g3⟩; obtain ⟨W4, hW4, sz4, g4, BH⟩ := boxn w3 #[.int .i64 (fi x), .int .i64 (fi y), .int .i64 x, .int .i64 y] 28; have G4 := gb_trans (gb_trans G2 g3) g4; have BP := (B2.kept g3 (by simp)).kept g4 (by simp); have hh0 := BH.cell 0 (v := .int .i64 (fi x)) rfl; have hh1 := BH.cell 1 (v := .int .i64 (fi y)) rfl; have hh2 := BH.cell 2 (v := .int .i64 x) rfl; have hh3 := BH.cell 3 (v := .int .i64 y) rfl; have p0 := BP.cell 0 (v := .int .i64 a) rfl; have p1 := BP.cell 1 (v := .int .i64 b) rfl) | (go_at_call 36; refine (refFarC _ _).mono ?_; rintro e w' ⟨rfl, hw'⟩; subst w'))
  go_ret2
  exact ⟨ret_bi (by rw [← e1.out, ← e2.out]; first | rfl | simp [*]) rfl, by first | exact G4 | exact gb_drewN G4 _⟩

set_option maxHeartbeats 1000000 in
theorem refHas_bc (k x y t z a b : Int) (ht : 0 ≤ t) (h : Hid (Tp.chk k x y t z = 0)) (h1 : frB a = false) (h2 : frB b = false) (hx : 0 ≤ x ∧ x ≤ 65536) (hy : 0 ≤ y ∧ y ≤ 65536) (hx0 : (x == 0) = false) (hx1 : ¬ fi x ≤ a) (hy0 : (y == 0) = false) (hy1 : fi y ≤ b) (hy2 : ¬ b < fi y + y) (w : World) : Calls Try.prog 16 #[.agg #[.int .u8 k, .int .i64 x, .int .i64 y, .int .u8 t, .int .i64 z], .agg #[.int .i64 a, .int .i64 b]] w fun e w' => e = .returned (.tuple #[.bool (liB a x && liB b y), .int .i64 0]) ∧ w.grownBy w' none := by
  have e1 : Hid (false = liB a x) := (li_low hx0 hx1).symm
  have e2 : Hid (false = liB b y) := (li_top hy0 hy1 hy2).symm
  have w1 : IntKind.i64.wrap (fi x + x) = fi x + x := by unfold fi; rw [IntKind.wrap_i64]; omega
  have w2 : IntKind.i64.wrap (fi y + y) = fi y + y := by unfold fi; rw [IntKind.wrap_i64]; omega
  obtain ⟨W1, hW1, sz1, g1, B1⟩ := boxn w #[.int .u8 k, .int .i64 x, .int .i64 y, .int .u8 t, .int .i64 z] 23
  obtain ⟨W2, hW2, sz2, g2, B2⟩ := boxn W1 #[.int .i64 a, .int .i64 b] 33
  have B1' := B1.kept g2 (by simp)
  have G2 := gb_trans g1 g2
  have c0 := B1'.cell 0 (v := .int .u8 k) rfl; have c1 := B1'.cell 1 (v := .int .i64 x) rfl; have c2 := B1'.cell 2 (v := .int .i64 y) rfl; have c3 := B1'.cell 3 (v := .int .u8 t) rfl; have c4 := B1'.cell 4 (v := .int .i64 z) rfl
  go_enter Try.func16, Try.ntmps16
  go_wp2_with (first | (go_at_call 35; refine (refHomeYes _ _ _ _ _ ht h.out hx hy _).mono ?_; rintro e w3 ⟨rfl, g3⟩; obtain ⟨W4, hW4, sz4, g4, BH⟩ := boxn w3 #[.int .i64 (fi x), .int .i64 (fi y), .int .i64 x, .int .i64 y] 28; have G4 := gb_trans (gb_trans G2 g3) g4; have BP := (B2.kept g3 (by simp)).kept g4 (by simp); have hh0 := BH.cell 0 (v := .int .i64 (fi x)) rfl; have hh1 := BH.cell 1 (v := .int .i64 (fi y)) rfl; have hh2 := BH.cell 2 (v := .int .i64 x) rfl; have hh3 := BH.cell 3 (v := .int .i64 y) rfl; have p0 := BP.cell 0 (v := .int .i64 a) rfl; have p1 := BP.cell 1 (v := .int .i64 b) rfl) | (go_at_call 36; refine (refFarC _ _).mono ?_; rintro e w' ⟨rfl, hw'⟩; subst w'))
  go_ret2
  exact ⟨ret_bi (by rw [← e1.out, ← e2.out]; first | rfl | simp [*]) rfl, by first | exact G4 | exact gb_drewN G4 _⟩

set_option maxHeartbeats 1000000 in
theorem refHas_bd (k x y t z a b : Int) (ht : 0 ≤ t) (h : Hid (Tp.chk k x y t z = 0)) (h1 : frB a = false) (h2 : frB b = false) (hx : 0 ≤ x ∧ x ≤ 65536) (hy : 0 ≤ y ∧ y ≤ 65536) (hx0 : (x == 0) = false) (hx1 : ¬ fi x ≤ a) (hy0 : (y == 0) = false) (hy1 : fi y ≤ b) (hy2 : b < fi y + y) (w : World) : Calls Try.prog 16 #[.agg #[.int .u8 k, .int .i64 x, .int .i64 y, .int .u8 t, .int .i64 z], .agg #[.int .i64 a, .int .i64 b]] w fun e w' => e = .returned (.tuple #[.bool (liB a x && liB b y), .int .i64 0]) ∧ w.grownBy w' none := by
  have e1 : Hid (false = liB a x) := (li_low hx0 hx1).symm
  have e2 : Hid (true = liB b y) := (li_in hy0 hy1 hy2).symm
  have w1 : IntKind.i64.wrap (fi x + x) = fi x + x := by unfold fi; rw [IntKind.wrap_i64]; omega
  have w2 : IntKind.i64.wrap (fi y + y) = fi y + y := by unfold fi; rw [IntKind.wrap_i64]; omega
  obtain ⟨W1, hW1, sz1, g1, B1⟩ := boxn w #[.int .u8 k, .int .i64 x, .int .i64 y, .int .u8 t, .int .i64 z] 23
  obtain ⟨W2, hW2, sz2, g2, B2⟩ := boxn W1 #[.int .i64 a, .int .i64 b] 33
  have B1' := B1.kept g2 (by simp)
  have G2 := gb_trans g1 g2
  have c0 := B1'.cell 0 (v := .int .u8 k) rfl; have c1 := B1'.cell 1 (v := .int .i64 x) rfl; have c2 := B1'.cell 2 (v := .int .i64 y) rfl; have c3 := B1'.cell 3 (v := .int .u8 t) rfl; have c4 := B1'.cell 4 (v := .int .i64 z) rfl
  go_enter Try.func16, Try.ntmps16
  go_wp2_with (first | (go_at_call 35; refine (refHomeYes _ _ _ _ _ ht h.out hx hy _).mono ?_; rintro e w3 ⟨rfl, g3⟩; obtain ⟨W4, hW4, sz4, g4, BH⟩ := boxn w3 #[.int .i64 (fi x), .int .i64 (fi y), .int .i64 x, .int .i64 y] 28; have G4 := gb_trans (gb_trans G2 g3) g4; have BP := (B2.kept g3 (by simp)).kept g4 (by simp); have hh0 := BH.cell 0 (v := .int .i64 (fi x)) rfl; have hh1 := BH.cell 1 (v := .int .i64 (fi y)) rfl; have hh2 := BH.cell 2 (v := .int .i64 x) rfl; have hh3 := BH.cell 3 (v := .int .i64 y) rfl; have p0 := BP.cell 0 (v := .int .i64 a) rfl; have p1 := BP.cell 1 (v := .int .i64 b) rfl) | (go_at_call 36; refine (refFarC _ _).mono ?_; rintro e w' ⟨rfl, hw'⟩; subst w'))
  go_ret2
  exact ⟨ret_bi (by rw [← e1.out, ← e2.out]; first | rfl | simp [*]) rfl, by first | exact G4 | exact gb_drewN G4 _⟩

set_option maxHeartbeats 1000000 in
theorem refHas_ca (k x y t z a b : Int) (ht : 0 ≤ t) (h : Hid (Tp.chk k x y t z = 0)) (h1 : frB a = false) (h2 : frB b = false) (hx : 0 ≤ x ∧ x ≤ 65536) (hy : 0 ≤ y ∧ y ≤ 65536) (hx0 : (x == 0) = false) (hx1 : fi x ≤ a) (hx2 : ¬ a < fi x + x) (hy0 : (y == 0) = true) (w : World) : Calls Try.prog 16 #[.agg #[.int .u8 k, .int .i64 x, .int .i64 y, .int .u8 t, .int .i64 z], .agg #[.int .i64 a, .int .i64 b]] w fun e w' => e = .returned (.tuple #[.bool (liB a x && liB b y), .int .i64 0]) ∧ w.grownBy w' none := by
  have e1 : Hid (false = liB a x) := (li_top hx0 hx1 hx2).symm
  have e2 : Hid (true = liB b y) := (li_zero hy0).symm
  have w1 : IntKind.i64.wrap (fi x + x) = fi x + x := by unfold fi; rw [IntKind.wrap_i64]; omega
  have w2 : IntKind.i64.wrap (fi y + y) = fi y + y := by unfold fi; rw [IntKind.wrap_i64]; omega
  obtain ⟨W1, hW1, sz1, g1, B1⟩ := boxn w #[.int .u8 k, .int .i64 x, .int .i64 y, .int .u8 t, .int .i64 z] 23
  obtain ⟨W2, hW2, sz2, g2, B2⟩ := boxn W1 #[.int .i64 a, .int .i64 b] 33
  have B1' := B1.kept g2 (by simp)
  have G2 := gb_trans g1 g2
  have c0 := B1'.cell 0 (v := .int .u8 k) rfl; have c1 := B1'.cell 1 (v := .int .i64 x) rfl; have c2 := B1'.cell 2 (v := .int .i64 y) rfl; have c3 := B1'.cell 3 (v := .int .u8 t) rfl; have c4 := B1'.cell 4 (v := .int .i64 z) rfl
  go_enter Try.func16, Try.ntmps16
  go_wp2_with (first | (go_at_call 35; refine (refHomeYes _ _ _ _ _ ht h.out hx hy _).mono ?_; rintro e w3 ⟨rfl, g3⟩; obtain ⟨W4, hW4, sz4, g4, BH⟩ := boxn w3 #[.int .i64 (fi x), .int .i64 (fi y), .int .i64 x, .int .i64 y] 28; have G4 := gb_trans (gb_trans G2 g3) g4; have BP := (B2.kept g3 (by simp)).kept g4 (by simp); have hh0 := BH.cell 0 (v := .int .i64 (fi x)) rfl; have hh1 := BH.cell 1 (v := .int .i64 (fi y)) rfl; have hh2 := BH.cell 2 (v := .int .i64 x) rfl; have hh3 := BH.cell 3 (v := .int .i64 y) rfl; have p0 := BP.cell 0 (v := .int .i64 a) rfl; have p1 := BP.cell 1 (v := .int .i64 b) rfl) | (go_at_call 36; refine (refFarC _ _).mono ?_; rintro e w' ⟨rfl, hw'⟩; subst w'))
  go_ret2
  exact ⟨ret_bi (by rw [← e1.out, ← e2.out]; first | rfl | simp [*]) rfl, by first | exact G4 | exact gb_drewN G4 _⟩

set_option maxHeartbeats 1000000 in
theorem refHas_cb (k x y t z a b : Int) (ht : 0 ≤ t) (h : Hid (Tp.chk k x y t z = 0)) (h1 : frB a = false) (h2 : frB b = false) (hx : 0 ≤ x ∧ x ≤ 65536) (hy : 0 ≤ y ∧ y ≤ 65536) (hx0 : (x == 0) = false) (hx1 : fi x ≤ a) (hx2 : ¬ a < fi x + x) (hy0 : (y == 0) = false) (hy1 : ¬ fi y ≤ b) (w : World) : Calls Try.prog 16 #[.agg #[.int .u8 k, .int .i64 x, .int .i64 y, .int .u8 t, .int .i64 z], .agg #[.int .i64 a, .int .i64 b]] w fun e w' => e = .returned (.tuple #[.bool (liB a x && liB b y), .int .i64 0]) ∧ w.grownBy w' none := by
  have e1 : Hid (false = liB a x) := (li_top hx0 hx1 hx2).symm
  have e2 : Hid (false = liB b y) := (li_low hy0 hy1).symm
  have w1 : IntKind.i64.wrap (fi x + x) = fi x + x := by unfold fi; rw [IntKind.wrap_i64]; omega
  have w2 : IntKind.i64.wrap (fi y + y) = fi y + y := by unfold fi; rw [IntKind.wrap_i64]; omega
  obtain ⟨W1, hW1, sz1, g1, B1⟩ := boxn w #[.int .u8 k, .int .i64 x, .int .i64 y, .int .u8 t, .int .i64 z] 23
  obtain ⟨W2, hW2, sz2, g2, B2⟩ := boxn W1 #[.int .i64 a, .int .i64 b] 33
  have B1' := B1.kept g2 (by simp)
  have G2 := gb_trans g1 g2
  have c0 := B1'.cell 0 (v := .int .u8 k) rfl; have c1 := B1'.cell 1 (v := .int .i64 x) rfl; have c2 := B1'.cell 2 (v := .int .i64 y) rfl; have c3 := B1'.cell 3 (v := .int .u8 t) rfl; have c4 := B1'.cell 4 (v := .int .i64 z) rfl
  go_enter Try.func16, Try.ntmps16
  go_wp2_with (first | (go_at_call 35; refine (refHomeYes _ _ _ _ _ ht h.out hx hy _).mono ?_; rintro e w3 ⟨rfl, g3⟩; obtain ⟨W4, hW4, sz4, g4, BH⟩ := boxn w3 #[.int .i64 (fi x), .int .i64 (fi y), .int .i64 x, .int .i64 y] 28; have G4 := gb_trans (gb_trans G2 g3) g4; have BP := (B2.kept g3 (by simp)).kept g4 (by simp); have hh0 := BH.cell 0 (v := .int .i64 (fi x)) rfl; have hh1 := BH.cell 1 (v := .int .i64 (fi y)) rfl; have hh2 := BH.cell 2 (v := .int .i64 x) rfl; have hh3 := BH.cell 3 (v := .int .i64 y) rfl; have p0 := BP.cell 0 (v := .int .i64 a) rfl; have p1 := BP.cell 1 (v := .int .i64 b) rfl) | (go_at_call 36; refine (refFarC _ _).mono ?_; rintro e w' ⟨rfl, hw'⟩; subst w'))
  go_ret2
  exact ⟨ret_bi (by rw [← e1.out, ← e2.out]; first | rfl | simp [*]) rfl, by first | exact G4 | exact gb_drewN G4 _⟩

set_option maxHeartbeats 1000000 in
theorem refHas_cc (k x y t z a b : Int) (ht : 0 ≤ t) (h : Hid (Tp.chk k x y t z = 0)) (h1 : frB a = false) (h2 : frB b = false) (hx : 0 ≤ x ∧ x ≤ 65536) (hy : 0 ≤ y ∧ y ≤ 65536) (hx0 : (x == 0) = false) (hx1 : fi x ≤ a) (hx2 : ¬ a < fi x + x) (hy0 : (y == 0) = false) (hy1 : fi y ≤ b) (hy2 : ¬ b < fi y + y) (w : World) : Calls Try.prog 16 #[.agg #[.int .u8 k, .int .i64 x, .int .i64 y, .int .u8 t, .int .i64 z], .agg #[.int .i64 a, .int .i64 b]] w fun e w' => e = .returned (.tuple #[.bool (liB a x && liB b y), .int .i64 0]) ∧ w.grownBy w' none := by
  have e1 : Hid (false = liB a x) := (li_top hx0 hx1 hx2).symm
  have e2 : Hid (false = liB b y) := (li_top hy0 hy1 hy2).symm
  have w1 : IntKind.i64.wrap (fi x + x) = fi x + x := by unfold fi; rw [IntKind.wrap_i64]; omega
  have w2 : IntKind.i64.wrap (fi y + y) = fi y + y := by unfold fi; rw [IntKind.wrap_i64]; omega
  obtain ⟨W1, hW1, sz1, g1, B1⟩ := boxn w #[.int .u8 k, .int .i64 x, .int .i64 y, .int .u8 t, .int .i64 z] 23
  obtain ⟨W2, hW2, sz2, g2, B2⟩ := boxn W1 #[.int .i64 a, .int .i64 b] 33
  have B1' := B1.kept g2 (by simp)
  have G2 := gb_trans g1 g2
  have c0 := B1'.cell 0 (v := .int .u8 k) rfl; have c1 := B1'.cell 1 (v := .int .i64 x) rfl; have c2 := B1'.cell 2 (v := .int .i64 y) rfl; have c3 := B1'.cell 3 (v := .int .u8 t) rfl; have c4 := B1'.cell 4 (v := .int .i64 z) rfl
  go_enter Try.func16, Try.ntmps16
  go_wp2_with (first | (go_at_call 35; refine (refHomeYes _ _ _ _ _ ht h.out hx hy _).mono ?_; rintro e w3 ⟨rfl, g3⟩; obtain ⟨W4, hW4, sz4, g4, BH⟩ := boxn w3 #[.int .i64 (fi x), .int .i64 (fi y), .int .i64 x, .int .i64 y] 28; have G4 := gb_trans (gb_trans G2 g3) g4; have BP := (B2.kept g3 (by simp)).kept g4 (by simp); have hh0 := BH.cell 0 (v := .int .i64 (fi x)) rfl; have hh1 := BH.cell 1 (v := .int .i64 (fi y)) rfl; have hh2 := BH.cell 2 (v := .int .i64 x) rfl; have hh3 := BH.cell 3 (v := .int .i64 y) rfl; have p0 := BP.cell 0 (v := .int .i64 a) rfl; have p1 := BP.cell 1 (v := .int .i64 b) rfl) | (go_at_call 36; refine (refFarC _ _).mono ?_; rintro e w' ⟨rfl, hw'⟩; subst w'))
  go_ret2
  exact ⟨ret_bi (by rw [← e1.out, ← e2.out]; first | rfl | simp [*]) rfl, by first | exact G4 | exact gb_drewN G4 _⟩

set_option maxHeartbeats 1000000 in
theorem refHas_cd (k x y t z a b : Int) (ht : 0 ≤ t) (h : Hid (Tp.chk k x y t z = 0)) (h1 : frB a = false) (h2 : frB b = false) (hx : 0 ≤ x ∧ x ≤ 65536) (hy : 0 ≤ y ∧ y ≤ 65536) (hx0 : (x == 0) = false) (hx1 : fi x ≤ a) (hx2 : ¬ a < fi x + x) (hy0 : (y == 0) = false) (hy1 : fi y ≤ b) (hy2 : b < fi y + y) (w : World) : Calls Try.prog 16 #[.agg #[.int .u8 k, .int .i64 x, .int .i64 y, .int .u8 t, .int .i64 z], .agg #[.int .i64 a, .int .i64 b]] w fun e w' => e = .returned (.tuple #[.bool (liB a x && liB b y), .int .i64 0]) ∧ w.grownBy w' none := by
  have e1 : Hid (false = liB a x) := (li_top hx0 hx1 hx2).symm
  have e2 : Hid (true = liB b y) := (li_in hy0 hy1 hy2).symm
  have w1 : IntKind.i64.wrap (fi x + x) = fi x + x := by unfold fi; rw [IntKind.wrap_i64]; omega
  have w2 : IntKind.i64.wrap (fi y + y) = fi y + y := by unfold fi; rw [IntKind.wrap_i64]; omega
  obtain ⟨W1, hW1, sz1, g1, B1⟩ := boxn w #[.int .u8 k, .int .i64 x, .int .i64 y, .int .u8 t, .int .i64 z] 23
  obtain ⟨W2, hW2, sz2, g2, B2⟩ := boxn W1 #[.int .i64 a, .int .i64 b] 33
  have B1' := B1.kept g2 (by simp)
  have G2 := gb_trans g1 g2
  have c0 := B1'.cell 0 (v := .int .u8 k) rfl; have c1 := B1'.cell 1 (v := .int .i64 x) rfl; have c2 := B1'.cell 2 (v := .int .i64 y) rfl; have c3 := B1'.cell 3 (v := .int .u8 t) rfl; have c4 := B1'.cell 4 (v := .int .i64 z) rfl
  go_enter Try.func16, Try.ntmps16
  go_wp2_with (first | (go_at_call 35; refine (refHomeYes _ _ _ _ _ ht h.out hx hy _).mono ?_; rintro e w3 ⟨rfl, g3⟩; obtain ⟨W4, hW4, sz4, g4, BH⟩ := boxn w3 #[.int .i64 (fi x), .int .i64 (fi y), .int .i64 x, .int .i64 y] 28; have G4 := gb_trans (gb_trans G2 g3) g4; have BP := (B2.kept g3 (by simp)).kept g4 (by simp); have hh0 := BH.cell 0 (v := .int .i64 (fi x)) rfl; have hh1 := BH.cell 1 (v := .int .i64 (fi y)) rfl; have hh2 := BH.cell 2 (v := .int .i64 x) rfl; have hh3 := BH.cell 3 (v := .int .i64 y) rfl; have p0 := BP.cell 0 (v := .int .i64 a) rfl; have p1 := BP.cell 1 (v := .int .i64 b) rfl) | (go_at_call 36; refine (refFarC _ _).mono ?_; rintro e w' ⟨rfl, hw'⟩; subst w'))
  go_ret2
  exact ⟨ret_bi (by rw [← e1.out, ← e2.out]; first | rfl | simp [*]) rfl, by first | exact G4 | exact gb_drewN G4 _⟩

set_option maxHeartbeats 1000000 in
theorem refHas_da (k x y t z a b : Int) (ht : 0 ≤ t) (h : Hid (Tp.chk k x y t z = 0)) (h1 : frB a = false) (h2 : frB b = false) (hx : 0 ≤ x ∧ x ≤ 65536) (hy : 0 ≤ y ∧ y ≤ 65536) (hx0 : (x == 0) = false) (hx1 : fi x ≤ a) (hx2 : a < fi x + x) (hy0 : (y == 0) = true) (w : World) : Calls Try.prog 16 #[.agg #[.int .u8 k, .int .i64 x, .int .i64 y, .int .u8 t, .int .i64 z], .agg #[.int .i64 a, .int .i64 b]] w fun e w' => e = .returned (.tuple #[.bool (liB a x && liB b y), .int .i64 0]) ∧ w.grownBy w' none := by
  have e1 : Hid (true = liB a x) := (li_in hx0 hx1 hx2).symm
  have e2 : Hid (true = liB b y) := (li_zero hy0).symm
  have w1 : IntKind.i64.wrap (fi x + x) = fi x + x := by unfold fi; rw [IntKind.wrap_i64]; omega
  have w2 : IntKind.i64.wrap (fi y + y) = fi y + y := by unfold fi; rw [IntKind.wrap_i64]; omega
  obtain ⟨W1, hW1, sz1, g1, B1⟩ := boxn w #[.int .u8 k, .int .i64 x, .int .i64 y, .int .u8 t, .int .i64 z] 23
  obtain ⟨W2, hW2, sz2, g2, B2⟩ := boxn W1 #[.int .i64 a, .int .i64 b] 33
  have B1' := B1.kept g2 (by simp)
  have G2 := gb_trans g1 g2
  have c0 := B1'.cell 0 (v := .int .u8 k) rfl; have c1 := B1'.cell 1 (v := .int .i64 x) rfl; have c2 := B1'.cell 2 (v := .int .i64 y) rfl; have c3 := B1'.cell 3 (v := .int .u8 t) rfl; have c4 := B1'.cell 4 (v := .int .i64 z) rfl
  go_enter Try.func16, Try.ntmps16
  go_wp2_with (first | (go_at_call 35; refine (refHomeYes _ _ _ _ _ ht h.out hx hy _).mono ?_; rintro e w3 ⟨rfl, g3⟩; obtain ⟨W4, hW4, sz4, g4, BH⟩ := boxn w3 #[.int .i64 (fi x), .int .i64 (fi y), .int .i64 x, .int .i64 y] 28; have G4 := gb_trans (gb_trans G2 g3) g4; have BP := (B2.kept g3 (by simp)).kept g4 (by simp); have hh0 := BH.cell 0 (v := .int .i64 (fi x)) rfl; have hh1 := BH.cell 1 (v := .int .i64 (fi y)) rfl; have hh2 := BH.cell 2 (v := .int .i64 x) rfl; have hh3 := BH.cell 3 (v := .int .i64 y) rfl; have p0 := BP.cell 0 (v := .int .i64 a) rfl; have p1 := BP.cell 1 (v := .int .i64 b) rfl) | (go_at_call 36; refine (refFarC _ _).mono ?_; rintro e w' ⟨rfl, hw'⟩; subst w'))
  go_ret2
  exact ⟨ret_bi (by rw [← e1.out, ← e2.out]; first | rfl | simp [*]) rfl, by first | exact G4 | exact gb_drewN G4 _⟩

set_option maxHeartbeats 1000000 in
theorem refHas_db (k x y t z a b : Int) (ht : 0 ≤ t) (h : Hid (Tp.chk k x y t z = 0)) (h1 : frB a = false) (h2 : frB b = false) (hx : 0 ≤ x ∧ x ≤ 65536) (hy : 0 ≤ y ∧ y ≤ 65536) (hx0 : (x == 0) = false) (hx1 : fi x ≤ a) (hx2 : a < fi x + x) (hy0 : (y == 0) = false) (hy1 : ¬ fi y ≤ b) (w : World) : Calls Try.prog 16 #[.agg #[.int .u8 k, .int .i64 x, .int .i64 y, .int .u8 t, .int .i64 z], .agg #[.int .i64 a, .int .i64 b]] w fun e w' => e = .returned (.tuple #[.bool (liB a x && liB b y), .int .i64 0]) ∧ w.grownBy w' none := by
  have e1 : Hid (true = liB a x) := (li_in hx0 hx1 hx2).symm
  have e2 : Hid (false = liB b y) := (li_low hy0 hy1).symm
  have w1 : IntKind.i64.wrap (fi x + x) = fi x + x := by unfold fi; rw [IntKind.wrap_i64]; omega
  have w2 : IntKind.i64.wrap (fi y + y) = fi y + y := by unfold fi; rw [IntKind.wrap_i64]; omega
  obtain ⟨W1, hW1, sz1, g1, B1⟩ := boxn w #[.int .u8 k, .int .i64 x, .int .i64 y, .int .u8 t, .int .i64 z] 23
  obtain ⟨W2, hW2, sz2, g2, B2⟩ := boxn W1 #[.int .i64 a, .int .i64 b] 33
  have B1' := B1.kept g2 (by simp)
  have G2 := gb_trans g1 g2
  have c0 := B1'.cell 0 (v := .int .u8 k) rfl; have c1 := B1'.cell 1 (v := .int .i64 x) rfl; have c2 := B1'.cell 2 (v := .int .i64 y) rfl; have c3 := B1'.cell 3 (v := .int .u8 t) rfl; have c4 := B1'.cell 4 (v := .int .i64 z) rfl
  go_enter Try.func16, Try.ntmps16
  go_wp2_with (first | (go_at_call 35; refine (refHomeYes _ _ _ _ _ ht h.out hx hy _).mono ?_; rintro e w3 ⟨rfl, g3⟩; obtain ⟨W4, hW4, sz4, g4, BH⟩ := boxn w3 #[.int .i64 (fi x), .int .i64 (fi y), .int .i64 x, .int .i64 y] 28; have G4 := gb_trans (gb_trans G2 g3) g4; have BP := (B2.kept g3 (by simp)).kept g4 (by simp); have hh0 := BH.cell 0 (v := .int .i64 (fi x)) rfl; have hh1 := BH.cell 1 (v := .int .i64 (fi y)) rfl; have hh2 := BH.cell 2 (v := .int .i64 x) rfl; have hh3 := BH.cell 3 (v := .int .i64 y) rfl; have p0 := BP.cell 0 (v := .int .i64 a) rfl; have p1 := BP.cell 1 (v := .int .i64 b) rfl) | (go_at_call 36; refine (refFarC _ _).mono ?_; rintro e w' ⟨rfl, hw'⟩; subst w'))
  go_ret2
  exact ⟨ret_bi (by rw [← e1.out, ← e2.out]; first | rfl | simp [*]) rfl, by first | exact G4 | exact gb_drewN G4 _⟩

set_option maxHeartbeats 1000000 in
theorem refHas_dc (k x y t z a b : Int) (ht : 0 ≤ t) (h : Hid (Tp.chk k x y t z = 0)) (h1 : frB a = false) (h2 : frB b = false) (hx : 0 ≤ x ∧ x ≤ 65536) (hy : 0 ≤ y ∧ y ≤ 65536) (hx0 : (x == 0) = false) (hx1 : fi x ≤ a) (hx2 : a < fi x + x) (hy0 : (y == 0) = false) (hy1 : fi y ≤ b) (hy2 : ¬ b < fi y + y) (w : World) : Calls Try.prog 16 #[.agg #[.int .u8 k, .int .i64 x, .int .i64 y, .int .u8 t, .int .i64 z], .agg #[.int .i64 a, .int .i64 b]] w fun e w' => e = .returned (.tuple #[.bool (liB a x && liB b y), .int .i64 0]) ∧ w.grownBy w' none := by
  have e1 : Hid (true = liB a x) := (li_in hx0 hx1 hx2).symm
  have e2 : Hid (false = liB b y) := (li_top hy0 hy1 hy2).symm
  have w1 : IntKind.i64.wrap (fi x + x) = fi x + x := by unfold fi; rw [IntKind.wrap_i64]; omega
  have w2 : IntKind.i64.wrap (fi y + y) = fi y + y := by unfold fi; rw [IntKind.wrap_i64]; omega
  obtain ⟨W1, hW1, sz1, g1, B1⟩ := boxn w #[.int .u8 k, .int .i64 x, .int .i64 y, .int .u8 t, .int .i64 z] 23
  obtain ⟨W2, hW2, sz2, g2, B2⟩ := boxn W1 #[.int .i64 a, .int .i64 b] 33
  have B1' := B1.kept g2 (by simp)
  have G2 := gb_trans g1 g2
  have c0 := B1'.cell 0 (v := .int .u8 k) rfl; have c1 := B1'.cell 1 (v := .int .i64 x) rfl; have c2 := B1'.cell 2 (v := .int .i64 y) rfl; have c3 := B1'.cell 3 (v := .int .u8 t) rfl; have c4 := B1'.cell 4 (v := .int .i64 z) rfl
  go_enter Try.func16, Try.ntmps16
  go_wp2_with (first | (go_at_call 35; refine (refHomeYes _ _ _ _ _ ht h.out hx hy _).mono ?_; rintro e w3 ⟨rfl, g3⟩; obtain ⟨W4, hW4, sz4, g4, BH⟩ := boxn w3 #[.int .i64 (fi x), .int .i64 (fi y), .int .i64 x, .int .i64 y] 28; have G4 := gb_trans (gb_trans G2 g3) g4; have BP := (B2.kept g3 (by simp)).kept g4 (by simp); have hh0 := BH.cell 0 (v := .int .i64 (fi x)) rfl; have hh1 := BH.cell 1 (v := .int .i64 (fi y)) rfl; have hh2 := BH.cell 2 (v := .int .i64 x) rfl; have hh3 := BH.cell 3 (v := .int .i64 y) rfl; have p0 := BP.cell 0 (v := .int .i64 a) rfl; have p1 := BP.cell 1 (v := .int .i64 b) rfl) | (go_at_call 36; refine (refFarC _ _).mono ?_; rintro e w' ⟨rfl, hw'⟩; subst w'))
  go_ret2
  exact ⟨ret_bi (by rw [← e1.out, ← e2.out]; first | rfl | simp [*]) rfl, by first | exact G4 | exact gb_drewN G4 _⟩

set_option maxHeartbeats 1000000 in
theorem refHas_dd (k x y t z a b : Int) (ht : 0 ≤ t) (h : Hid (Tp.chk k x y t z = 0)) (h1 : frB a = false) (h2 : frB b = false) (hx : 0 ≤ x ∧ x ≤ 65536) (hy : 0 ≤ y ∧ y ≤ 65536) (hx0 : (x == 0) = false) (hx1 : fi x ≤ a) (hx2 : a < fi x + x) (hy0 : (y == 0) = false) (hy1 : fi y ≤ b) (hy2 : b < fi y + y) (w : World) : Calls Try.prog 16 #[.agg #[.int .u8 k, .int .i64 x, .int .i64 y, .int .u8 t, .int .i64 z], .agg #[.int .i64 a, .int .i64 b]] w fun e w' => e = .returned (.tuple #[.bool (liB a x && liB b y), .int .i64 0]) ∧ w.grownBy w' none := by
  have e1 : Hid (true = liB a x) := (li_in hx0 hx1 hx2).symm
  have e2 : Hid (true = liB b y) := (li_in hy0 hy1 hy2).symm
  have w1 : IntKind.i64.wrap (fi x + x) = fi x + x := by unfold fi; rw [IntKind.wrap_i64]; omega
  have w2 : IntKind.i64.wrap (fi y + y) = fi y + y := by unfold fi; rw [IntKind.wrap_i64]; omega
  obtain ⟨W1, hW1, sz1, g1, B1⟩ := boxn w #[.int .u8 k, .int .i64 x, .int .i64 y, .int .u8 t, .int .i64 z] 23
  obtain ⟨W2, hW2, sz2, g2, B2⟩ := boxn W1 #[.int .i64 a, .int .i64 b] 33
  have B1' := B1.kept g2 (by simp)
  have G2 := gb_trans g1 g2
  have c0 := B1'.cell 0 (v := .int .u8 k) rfl; have c1 := B1'.cell 1 (v := .int .i64 x) rfl; have c2 := B1'.cell 2 (v := .int .i64 y) rfl; have c3 := B1'.cell 3 (v := .int .u8 t) rfl; have c4 := B1'.cell 4 (v := .int .i64 z) rfl
  go_enter Try.func16, Try.ntmps16
  go_wp2_with (first | (go_at_call 35; refine (refHomeYes _ _ _ _ _ ht h.out hx hy _).mono ?_; rintro e w3 ⟨rfl, g3⟩; obtain ⟨W4, hW4, sz4, g4, BH⟩ := boxn w3 #[.int .i64 (fi x), .int .i64 (fi y), .int .i64 x, .int .i64 y] 28; have G4 := gb_trans (gb_trans G2 g3) g4; have BP := (B2.kept g3 (by simp)).kept g4 (by simp); have hh0 := BH.cell 0 (v := .int .i64 (fi x)) rfl; have hh1 := BH.cell 1 (v := .int .i64 (fi y)) rfl; have hh2 := BH.cell 2 (v := .int .i64 x) rfl; have hh3 := BH.cell 3 (v := .int .i64 y) rfl; have p0 := BP.cell 0 (v := .int .i64 a) rfl; have p1 := BP.cell 1 (v := .int .i64 b) rfl) | (go_at_call 36; refine (refFarC _ _).mono ?_; rintro e w' ⟨rfl, hw'⟩; subst w'))
  go_ret2
  exact ⟨ret_bi (by rw [← e1.out, ← e2.out]; first | rfl | simp [*]) rfl, by first | exact G4 | exact gb_drewN G4 _⟩

theorem refHasYes (k x y t z a b : Int) (ht : 0 ≤ t) (h : Tp.chk k x y t z = 0) (h1 : frB a = false) (h2 : frB b = false) (hx : 0 ≤ x ∧ x ≤ 65536) (hy : 0 ≤ y ∧ y ≤ 65536) (w : World) : Calls Try.prog 16 #[.agg #[.int .u8 k, .int .i64 x, .int .i64 y, .int .u8 t, .int .i64 z], .agg #[.int .i64 a, .int .i64 b]] w fun e w' => e = .returned (.tuple #[.bool (liB a x && liB b y), .int .i64 0]) ∧ w.grownBy w' none := by
  cases x0 : (x == 0) with
  | true =>
    cases y0 : (y == 0) with
    | true => exact refHas_aa k x y t z a b ht h h1 h2 hx hy x0 y0 w
    | false =>
      by_cases y1 : fi y ≤ b
      · by_cases y2 : b < fi y + y
        · exact refHas_ad k x y t z a b ht h h1 h2 hx hy x0 y0 y1 y2 w
        · exact refHas_ac k x y t z a b ht h h1 h2 hx hy x0 y0 y1 y2 w
      · exact refHas_ab k x y t z a b ht h h1 h2 hx hy x0 y0 y1 w
  | false =>
    by_cases x1 : fi x ≤ a
    · by_cases x2 : a < fi x + x
      · cases y0 : (y == 0) with
        | true => exact refHas_da k x y t z a b ht h h1 h2 hx hy x0 x1 x2 y0 w
        | false =>
          by_cases y1 : fi y ≤ b
          · by_cases y2 : b < fi y + y
            · exact refHas_dd k x y t z a b ht h h1 h2 hx hy x0 x1 x2 y0 y1 y2 w
            · exact refHas_dc k x y t z a b ht h h1 h2 hx hy x0 x1 x2 y0 y1 y2 w
          · exact refHas_db k x y t z a b ht h h1 h2 hx hy x0 x1 x2 y0 y1 w
      · cases y0 : (y == 0) with
        | true => exact refHas_ca k x y t z a b ht h h1 h2 hx hy x0 x1 x2 y0 w
        | false =>
          by_cases y1 : fi y ≤ b
          · by_cases y2 : b < fi y + y
            · exact refHas_cd k x y t z a b ht h h1 h2 hx hy x0 x1 x2 y0 y1 y2 w
            · exact refHas_cc k x y t z a b ht h h1 h2 hx hy x0 x1 x2 y0 y1 y2 w
          · exact refHas_cb k x y t z a b ht h h1 h2 hx hy x0 x1 x2 y0 y1 w
    · cases y0 : (y == 0) with
      | true => exact refHas_ba k x y t z a b ht h h1 h2 hx hy x0 x1 y0 w
      | false =>
        by_cases y1 : fi y ≤ b
        · by_cases y2 : b < fi y + y
          · exact refHas_bd k x y t z a b ht h h1 h2 hx hy x0 x1 y0 y1 y2 w
          · exact refHas_bc k x y t z a b ht h h1 h2 hx hy x0 x1 y0 y1 y2 w
        · exact refHas_bb k x y t z a b ht h h1 h2 hx hy x0 x1 y0 y1 w

theorem refHasC (k x y t z a b : Int) (ht : 0 ≤ t) (w : World) : Calls Try.prog 16 #[.agg #[.int .u8 k, .int .i64 x, .int .i64 y, .int .u8 t, .int .i64 z], .agg #[.int .i64 a, .int .i64 b]] w fun e w' => e = .returned (.tuple #[.bool (hasV k x y t z a b), .int .i64 (hasE k x y t z a b)]) ∧ w.grownBy w' none := by
  by_cases h : Tp.chk k x y t z = 0
  · have ok := Tp.ok_of h
    cases hf : (frB a || frB b) with
    | true =>
      have e1 : hasE k x y t z a b = 5 := by unfold hasE; rw [if_pos h, if_pos hf]
      have e2 : hasV k x y t z a b = false := by unfold hasV; rw [e1]; rfl
      rw [e1, e2]
      exact refHasFar k x y t z a b ht h hf w
    | false =>
      have e1 : hasE k x y t z a b = 0 := by unfold hasE; rw [if_pos h, if_neg (by rw [hf]; decide)]
      have e2 : hasV k x y t z a b = (liB a x && liB b y) := by unfold hasV; rw [e1]; rfl
      rw [e1, e2]
      rw [Bool.or_eq_false_iff] at hf
      exact refHasYes k x y t z a b ht h hf.1 hf.2 ok.wide ok.high w
  · have e1 : hasE k x y t z a b = Tp.chk k x y t z := by unfold hasE; rw [if_neg h]
    have e2 : hasV k x y t z a b = false := by unfold hasV; rw [e1]; simp [h]
    rw [e1, e2]
    exact refHasNo k x y t z a b ht h w
end Go.Proofs.Ytgiiaokkmnjckab.To
