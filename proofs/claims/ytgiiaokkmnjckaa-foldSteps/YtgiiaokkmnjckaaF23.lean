/- What the document's Part answers. -/
import Derived.Test.YtgiiaokkmnjckaaF22
import Derived.Test.YtgiiaokkmnjckaaF18
import Derived.Test.YtgiiaokkmnjckaaJ1
namespace Go.Proofs.Ytgiiaokkmnjckaa
open Go.RowKit
open Fl
set_option linter.unusedVariables false
set_option linter.unusedSimpArgs false
set_option maxRecDepth 100000

theorem refWhich6 (a b : Nat) (f : Bool) (c d : Nat) {k : Nat} {x y : Int} (my : May a b f c d k x y) (w : World) : Calls Try.prog 39 #[.agg (mv a b f c d)] w fun e w' => e = .returned (.tuple #[.int .i64 k, .int .i64 0]) ∧ w.grownBy w' none := by
  obtain ⟨W1, hW1, sz1, g1, B1⟩ := boxn w (mv a b f c d) 41
  have c0 := B1.cell 0 (v := .complex .f64 a b) rfl
  have c1 := B1.cell 1 (v := .bool f) rfl
  have c2 := B1.cell 2 (v := .complex .f64 c d) rfl
  have hh := refPartsYes a b f c d my
  clear my
  go_enter Try.func39, Try.ntmps39
  go_wp2_with (first | (go_at_call 73; refine (hh _).mono ?_; rintro e w2 ⟨rfl, g2⟩))
  go_ret2
  exact ⟨rfl, gb_trans g1 g2⟩

set_option maxHeartbeats 1000000 in
theorem rp0 (k x y t z a b X Y : Int) (k3 : (k == 3) = false) (k4 : (k == 4) = false) (hx : 0 ≤ x) (hx2 : x ≤ 65536) (hy : 0 ≤ y) (hy2 : y ≤ 65536) (ha : -1099511627776 ≤ a) (ha2 : a ≤ 1099511627776) (hb : -1099511627776 ≤ b) (hb2 : b ≤ 1099511627776) (hc : ∀ w, Calls Try.prog 11 #[.agg #[.int .u8 k, .int .i64 x, .int .i64 y, .int .u8 t, .int .i64 z], .agg #[.int .i64 a, .int .i64 b]] w fun e w' => e = .returned (.tuple #[.agg #[.int .i64 X, .int .i64 Y], .int .i64 0]) ∧ w.grownBy w' none) (w : World) : Calls Try.prog 13 #[.agg #[.int .u8 k, .int .i64 x, .int .i64 y, .int .u8 t, .int .i64 z], .agg #[.int .i64 a, .int .i64 b]] w fun e w' => e = .returned (.tuple #[.int .i64 0, .int .i64 0]) ∧ w.grownBy w' none := by
  have bx := fi_bd ⟨hx, hx2⟩
  have by' := fi_bd ⟨hy, hy2⟩
  obtain ⟨bx1, bx2⟩ := bx
  obtain ⟨by1, by2⟩ := by'
  have hf1 := refFirstC x hx hx2
  have hf2 := refFirstC y hy hy2
  have wu : IntKind.i64.wrap (a - To.fi x) = (a - To.fi x) := by rw [IntKind.wrap_i64]; omega
  have wv : IntKind.i64.wrap (b - To.fi y) = (b - To.fi y) := by rw [IntKind.wrap_i64]; omega
  have st := stC
  have ht1 := refTileC (a - To.fi x) x hx hx2 (by omega) (by omega)
  have ht2 := refTileC (b - To.fi y) y hy hy2 (by omega) (by omega)
  have ho1 := refOddC (Nm.divZ (a - To.fi x) x)
  have ho2 := refOddC (Nm.divZ (b - To.fi y) y)
  have hw := refWhich6 4607182418800017408 0 false 0 0 (part_may 0 (by decide)).1
  obtain ⟨W1, hW1, sz1, g1, B1⟩ := boxn w #[.int .u8 k, .int .i64 x, .int .i64 y, .int .u8 t, .int .i64 z] 23
  obtain ⟨W2, hW2, sz2, g2, B2⟩ := boxn W1 #[.int .i64 a, .int .i64 b] 25
  have G2 := gb_trans g1 g2
  have B1x := B1.kept g2 (by simp)
  have b1_2_0 := B1x.cell 0 (v := .int .u8 k) rfl
  have b1_2_1 := B1x.cell 1 (v := .int .i64 x) rfl
  have b1_2_2 := B1x.cell 2 (v := .int .i64 y) rfl
  have b1_2_3 := B1x.cell 3 (v := .int .u8 t) rfl
  have b1_2_4 := B1x.cell 4 (v := .int .i64 z) rfl
  have b2_2_0 := B2.cell 0 (v := .int .i64 a) rfl
  have b2_2_1 := B2.cell 1 (v := .int .i64 b) rfl
  go_enter Try.func13, Try.ntmps13
  go_wp2_with (first | (go_at_call 39; refine (hw _).mono ?_; rintro e wz ⟨rfl, gz⟩) | (go_at_call 11; (fail_if_success (guard_hyp g3)); refine (hc _).mono ?_; rintro e w3 ⟨rfl, g3⟩; have G3 := gb_trans G2 g3; have B1xx := B1x.kept g3 (by simp); have B2x := B2.kept g3 (by simp); obtain ⟨W4, hW4, sz4, g4, B4⟩ := boxn w3 #[.int .i64 X, .int .i64 Y] 25; have G4 := gb_trans G3 g4; have B1xxx := B1xx.kept g4 (by simp); have B2xx := B2x.kept g4 (by simp); have sm4_0 := Bo.same B4 0 (v := .int .i64 X) rfl; have sm4_1 := Bo.same B4 1 (v := .int .i64 Y) rfl; have fz4_0 := B4.frozen 0; have fz4_1 := B4.frozen 1; clear b1_2_0 b1_2_1 b1_2_2 b1_2_3 b1_2_4 b2_2_0 b2_2_1; have b1_4_0 := B1xxx.cell 0 (v := .int .u8 k) rfl; have b1_4_1 := B1xxx.cell 1 (v := .int .i64 x) rfl; have b1_4_2 := B1xxx.cell 2 (v := .int .i64 y) rfl; have b1_4_3 := B1xxx.cell 3 (v := .int .u8 t) rfl; have b1_4_4 := B1xxx.cell 4 (v := .int .i64 z) rfl; have b2_4_0 := B2xx.cell 0 (v := .int .i64 a) rfl; have b2_4_1 := B2xx.cell 1 (v := .int .i64 b) rfl; have b4_4_0 := B4.cell 0 (v := .int .i64 X) rfl; have b4_4_1 := B4.cell 1 (v := .int .i64 Y) rfl))
  go_ret2
  exact ⟨rfl, gb_trans (gb_alloc G4 _) gz⟩

set_option maxHeartbeats 1000000 in
theorem rp31t (x y z a b X Y : Int) (hj : odB (Nm.divZ (b - To.fi y) y) = true) (hx : 0 ≤ x) (hx2 : x ≤ 65536) (hy : 0 ≤ y) (hy2 : y ≤ 65536) (ha : -1099511627776 ≤ a) (ha2 : a ≤ 1099511627776) (hb : -1099511627776 ≤ b) (hb2 : b ≤ 1099511627776) (hc : ∀ w, Calls Try.prog 11 #[.agg #[.int .u8 3, .int .i64 x, .int .i64 y, .int .u8 1, .int .i64 z], .agg #[.int .i64 a, .int .i64 b]] w fun e w' => e = .returned (.tuple #[.agg #[.int .i64 X, .int .i64 Y], .int .i64 0]) ∧ w.grownBy w' none) (w : World) : Calls Try.prog 13 #[.agg #[.int .u8 3, .int .i64 x, .int .i64 y, .int .u8 1, .int .i64 z], .agg #[.int .i64 a, .int .i64 b]] w fun e w' => e = .returned (.tuple #[.int .i64 6, .int .i64 0]) ∧ w.grownBy w' none := by
  have bx := fi_bd ⟨hx, hx2⟩
  have by' := fi_bd ⟨hy, hy2⟩
  obtain ⟨bx1, bx2⟩ := bx
  obtain ⟨by1, by2⟩ := by'
  have hf1 := refFirstC x hx hx2
  have hf2 := refFirstC y hy hy2
  have wu : IntKind.i64.wrap (a - To.fi x) = (a - To.fi x) := by rw [IntKind.wrap_i64]; omega
  have wv : IntKind.i64.wrap (b - To.fi y) = (b - To.fi y) := by rw [IntKind.wrap_i64]; omega
  have st := stC
  have ht1 := refTileC (a - To.fi x) x hx hx2 (by omega) (by omega)
  have ht2 := refTileC (b - To.fi y) y hy hy2 (by omega) (by omega)
  have ho1 := refOddC (Nm.divZ (a - To.fi x) x)
  have ho2 := refOddC (Nm.divZ (b - To.fi y) y)
  rw [hj] at ho2
  clear hj
  have hw := refWhich6 13830554455654793216 0 true 0 0 (part_may 6 (by decide)).1
  obtain ⟨W1, hW1, sz1, g1, B1⟩ := boxn w #[.int .u8 3, .int .i64 x, .int .i64 y, .int .u8 1, .int .i64 z] 23
  obtain ⟨W2, hW2, sz2, g2, B2⟩ := boxn W1 #[.int .i64 a, .int .i64 b] 25
  have G2 := gb_trans g1 g2
  have B1x := B1.kept g2 (by simp)
  have b1_2_0 := B1x.cell 0 (v := .int .u8 3) rfl
  have b1_2_1 := B1x.cell 1 (v := .int .i64 x) rfl
  have b1_2_2 := B1x.cell 2 (v := .int .i64 y) rfl
  have b1_2_3 := B1x.cell 3 (v := .int .u8 1) rfl
  have b1_2_4 := B1x.cell 4 (v := .int .i64 z) rfl
  have b2_2_0 := B2.cell 0 (v := .int .i64 a) rfl
  have b2_2_1 := B2.cell 1 (v := .int .i64 b) rfl
  go_enter Try.func13, Try.ntmps13
  go_wp2_with (first | (go_at_call 11; (fail_if_success (guard_hyp g3)); refine (hc _).mono ?_; rintro e w3 ⟨rfl, g3⟩; have G3 := gb_trans G2 g3; have B1xx := B1x.kept g3 (by simp); have B2x := B2.kept g3 (by simp); obtain ⟨W4, hW4, sz4, g4, B4⟩ := boxn w3 #[.int .i64 X, .int .i64 Y] 25; have G4 := gb_trans G3 g4; have B1xxx := B1xx.kept g4 (by simp); have B2xx := B2x.kept g4 (by simp); have sm4_0 := Bo.same B4 0 (v := .int .i64 X) rfl; have sm4_1 := Bo.same B4 1 (v := .int .i64 Y) rfl; have fz4_0 := B4.frozen 0; have fz4_1 := B4.frozen 1; clear b1_2_0 b1_2_1 b1_2_2 b1_2_3 b1_2_4 b2_2_0 b2_2_1; have b1_4_0 := B1xxx.cell 0 (v := .int .u8 3) rfl; have b1_4_1 := B1xxx.cell 1 (v := .int .i64 x) rfl; have b1_4_2 := B1xxx.cell 2 (v := .int .i64 y) rfl; have b1_4_3 := B1xxx.cell 3 (v := .int .u8 1) rfl; have b1_4_4 := B1xxx.cell 4 (v := .int .i64 z) rfl; have b2_4_0 := B2xx.cell 0 (v := .int .i64 a) rfl; have b2_4_1 := B2xx.cell 1 (v := .int .i64 b) rfl; have b4_4_0 := B4.cell 0 (v := .int .i64 X) rfl; have b4_4_1 := B4.cell 1 (v := .int .i64 Y) rfl))
  go_region_held2 (fun w' => w'.cell? ⟨w.heap.size, 0, none⟩ = some (.int .u8 3) ∧ w'.cell? ⟨w.heap.size, 1, none⟩ = some (.int .i64 x) ∧ w'.cell? ⟨w.heap.size, 2, none⟩ = some (.int .i64 y) ∧ w'.cell? ⟨w.heap.size, 3, none⟩ = some (.int .u8 1) ∧ w'.cell? ⟨w.heap.size, 4, none⟩ = some (.int .i64 z) ∧ w'.cell? ⟨W1.heap.size, 0, none⟩ = some (.int .i64 a) ∧ w'.cell? ⟨W1.heap.size, 1, none⟩ = some (.int .i64 b) ∧ w'.cell? ⟨w3.heap.size, 0, none⟩ = some (.int .i64 X) ∧ w'.cell? ⟨w3.heap.size, 1, none⟩ = some (.int .i64 Y)) (go_keep) (first | (go_at_call 33; (fail_if_success (guard_hyp mfj)); refine (hf2 _).mono ?_; rintro e w' ⟨rfl, hw'⟩; subst w'; have mfj : True := trivial) | (go_at_call 38; (fail_if_success (guard_hyp mtj)); refine (ht2 _).mono ?_; rintro e w' ⟨rfl, hw'⟩; subst w'; have mtj : True := trivial) | (go_at_call 37; (fail_if_success (guard_hyp moj)); refine (ho2 _).mono ?_; rintro e w' ⟨rfl, hw'⟩; subst w'; have moj : True := trivial))
  have B1xxxd := B1xxx.dr
  have B2xxd := B2xx.dr
  have B4d := B4.dr
  have G4d := gb_drew G4
  clear b1_4_0 b1_4_1 b1_4_2 b1_4_3 b1_4_4 b2_4_0 b2_4_1 b4_4_0 b4_4_1
  have b1_5_0 := B1xxxd.cell 0 (v := .int .u8 3) rfl
  have b1_5_1 := B1xxxd.cell 1 (v := .int .i64 x) rfl
  have b1_5_2 := B1xxxd.cell 2 (v := .int .i64 y) rfl
  have b1_5_3 := B1xxxd.cell 3 (v := .int .u8 1) rfl
  have b1_5_4 := B1xxxd.cell 4 (v := .int .i64 z) rfl
  have b2_5_0 := B2xxd.cell 0 (v := .int .i64 a) rfl
  have b2_5_1 := B2xxd.cell 1 (v := .int .i64 b) rfl
  have b4_5_0 := B4d.cell 0 (v := .int .i64 X) rfl
  have b4_5_1 := B4d.cell 1 (v := .int .i64 Y) rfl
  go_wp2_with (first | (go_at_call 39; refine (hw _).mono ?_; rintro e wz ⟨rfl, gz⟩))
  go_ret2
  exact ⟨rfl, gb_trans (gb_alloc G4d _) gz⟩

set_option maxHeartbeats 1000000 in
theorem rp31f (x y z a b X Y : Int) (hj : odB (Nm.divZ (b - To.fi y) y) = false) (hx : 0 ≤ x) (hx2 : x ≤ 65536) (hy : 0 ≤ y) (hy2 : y ≤ 65536) (ha : -1099511627776 ≤ a) (ha2 : a ≤ 1099511627776) (hb : -1099511627776 ≤ b) (hb2 : b ≤ 1099511627776) (hc : ∀ w, Calls Try.prog 11 #[.agg #[.int .u8 3, .int .i64 x, .int .i64 y, .int .u8 1, .int .i64 z], .agg #[.int .i64 a, .int .i64 b]] w fun e w' => e = .returned (.tuple #[.agg #[.int .i64 X, .int .i64 Y], .int .i64 0]) ∧ w.grownBy w' none) (w : World) : Calls Try.prog 13 #[.agg #[.int .u8 3, .int .i64 x, .int .i64 y, .int .u8 1, .int .i64 z], .agg #[.int .i64 a, .int .i64 b]] w fun e w' => e = .returned (.tuple #[.int .i64 0, .int .i64 0]) ∧ w.grownBy w' none := by
  have bx := fi_bd ⟨hx, hx2⟩
  have by' := fi_bd ⟨hy, hy2⟩
  obtain ⟨bx1, bx2⟩ := bx
  obtain ⟨by1, by2⟩ := by'
  have hf1 := refFirstC x hx hx2
  have hf2 := refFirstC y hy hy2
  have wu : IntKind.i64.wrap (a - To.fi x) = (a - To.fi x) := by rw [IntKind.wrap_i64]; omega
  have wv : IntKind.i64.wrap (b - To.fi y) = (b - To.fi y) := by rw [IntKind.wrap_i64]; omega
  have st := stC
  have ht1 := refTileC (a - To.fi x) x hx hx2 (by omega) (by omega)
  have ht2 := refTileC (b - To.fi y) y hy hy2 (by omega) (by omega)
  have ho1 := refOddC (Nm.divZ (a - To.fi x) x)
  have ho2 := refOddC (Nm.divZ (b - To.fi y) y)
  rw [hj] at ho2
  clear hj
  have hw := refWhich6 4607182418800017408 0 false 0 0 (part_may 0 (by decide)).1
  obtain ⟨W1, hW1, sz1, g1, B1⟩ := boxn w #[.int .u8 3, .int .i64 x, .int .i64 y, .int .u8 1, .int .i64 z] 23
  obtain ⟨W2, hW2, sz2, g2, B2⟩ := boxn W1 #[.int .i64 a, .int .i64 b] 25
  have G2 := gb_trans g1 g2
  have B1x := B1.kept g2 (by simp)
  have b1_2_0 := B1x.cell 0 (v := .int .u8 3) rfl
  have b1_2_1 := B1x.cell 1 (v := .int .i64 x) rfl
  have b1_2_2 := B1x.cell 2 (v := .int .i64 y) rfl
  have b1_2_3 := B1x.cell 3 (v := .int .u8 1) rfl
  have b1_2_4 := B1x.cell 4 (v := .int .i64 z) rfl
  have b2_2_0 := B2.cell 0 (v := .int .i64 a) rfl
  have b2_2_1 := B2.cell 1 (v := .int .i64 b) rfl
  go_enter Try.func13, Try.ntmps13
  go_wp2_with (first | (go_at_call 11; (fail_if_success (guard_hyp g3)); refine (hc _).mono ?_; rintro e w3 ⟨rfl, g3⟩; have G3 := gb_trans G2 g3; have B1xx := B1x.kept g3 (by simp); have B2x := B2.kept g3 (by simp); obtain ⟨W4, hW4, sz4, g4, B4⟩ := boxn w3 #[.int .i64 X, .int .i64 Y] 25; have G4 := gb_trans G3 g4; have B1xxx := B1xx.kept g4 (by simp); have B2xx := B2x.kept g4 (by simp); have sm4_0 := Bo.same B4 0 (v := .int .i64 X) rfl; have sm4_1 := Bo.same B4 1 (v := .int .i64 Y) rfl; have fz4_0 := B4.frozen 0; have fz4_1 := B4.frozen 1; clear b1_2_0 b1_2_1 b1_2_2 b1_2_3 b1_2_4 b2_2_0 b2_2_1; have b1_4_0 := B1xxx.cell 0 (v := .int .u8 3) rfl; have b1_4_1 := B1xxx.cell 1 (v := .int .i64 x) rfl; have b1_4_2 := B1xxx.cell 2 (v := .int .i64 y) rfl; have b1_4_3 := B1xxx.cell 3 (v := .int .u8 1) rfl; have b1_4_4 := B1xxx.cell 4 (v := .int .i64 z) rfl; have b2_4_0 := B2xx.cell 0 (v := .int .i64 a) rfl; have b2_4_1 := B2xx.cell 1 (v := .int .i64 b) rfl; have b4_4_0 := B4.cell 0 (v := .int .i64 X) rfl; have b4_4_1 := B4.cell 1 (v := .int .i64 Y) rfl))
  go_region_held2 (fun w' => w'.cell? ⟨w.heap.size, 0, none⟩ = some (.int .u8 3) ∧ w'.cell? ⟨w.heap.size, 1, none⟩ = some (.int .i64 x) ∧ w'.cell? ⟨w.heap.size, 2, none⟩ = some (.int .i64 y) ∧ w'.cell? ⟨w.heap.size, 3, none⟩ = some (.int .u8 1) ∧ w'.cell? ⟨w.heap.size, 4, none⟩ = some (.int .i64 z) ∧ w'.cell? ⟨W1.heap.size, 0, none⟩ = some (.int .i64 a) ∧ w'.cell? ⟨W1.heap.size, 1, none⟩ = some (.int .i64 b) ∧ w'.cell? ⟨w3.heap.size, 0, none⟩ = some (.int .i64 X) ∧ w'.cell? ⟨w3.heap.size, 1, none⟩ = some (.int .i64 Y)) (go_keep) (first | (go_at_call 33; (fail_if_success (guard_hyp mfj)); refine (hf2 _).mono ?_; rintro e w' ⟨rfl, hw'⟩; subst w'; have mfj : True := trivial) | (go_at_call 38; (fail_if_success (guard_hyp mtj)); refine (ht2 _).mono ?_; rintro e w' ⟨rfl, hw'⟩; subst w'; have mtj : True := trivial) | (go_at_call 37; (fail_if_success (guard_hyp moj)); refine (ho2 _).mono ?_; rintro e w' ⟨rfl, hw'⟩; subst w'; have moj : True := trivial))
  have B1xxxd := B1xxx.dr
  have B2xxd := B2xx.dr
  have B4d := B4.dr
  have G4d := gb_drew G4
  clear b1_4_0 b1_4_1 b1_4_2 b1_4_3 b1_4_4 b2_4_0 b2_4_1 b4_4_0 b4_4_1
  have b1_5_0 := B1xxxd.cell 0 (v := .int .u8 3) rfl
  have b1_5_1 := B1xxxd.cell 1 (v := .int .i64 x) rfl
  have b1_5_2 := B1xxxd.cell 2 (v := .int .i64 y) rfl
  have b1_5_3 := B1xxxd.cell 3 (v := .int .u8 1) rfl
  have b1_5_4 := B1xxxd.cell 4 (v := .int .i64 z) rfl
  have b2_5_0 := B2xxd.cell 0 (v := .int .i64 a) rfl
  have b2_5_1 := B2xxd.cell 1 (v := .int .i64 b) rfl
  have b4_5_0 := B4d.cell 0 (v := .int .i64 X) rfl
  have b4_5_1 := B4d.cell 1 (v := .int .i64 Y) rfl
  go_wp2_with (first | (go_at_call 39; refine (hw _).mono ?_; rintro e wz ⟨rfl, gz⟩))
  go_ret2
  exact ⟨rfl, gb_trans (gb_alloc G4d _) gz⟩

set_option maxHeartbeats 1000000 in
theorem rp32t (x y z a b X Y : Int) (hi : odB (Nm.divZ (a - To.fi x) x) = true) (hx : 0 ≤ x) (hx2 : x ≤ 65536) (hy : 0 ≤ y) (hy2 : y ≤ 65536) (ha : -1099511627776 ≤ a) (ha2 : a ≤ 1099511627776) (hb : -1099511627776 ≤ b) (hb2 : b ≤ 1099511627776) (hc : ∀ w, Calls Try.prog 11 #[.agg #[.int .u8 3, .int .i64 x, .int .i64 y, .int .u8 2, .int .i64 z], .agg #[.int .i64 a, .int .i64 b]] w fun e w' => e = .returned (.tuple #[.agg #[.int .i64 X, .int .i64 Y], .int .i64 0]) ∧ w.grownBy w' none) (w : World) : Calls Try.prog 13 #[.agg #[.int .u8 3, .int .i64 x, .int .i64 y, .int .u8 2, .int .i64 z], .agg #[.int .i64 a, .int .i64 b]] w fun e w' => e = .returned (.tuple #[.int .i64 4, .int .i64 0]) ∧ w.grownBy w' none := by
  have bx := fi_bd ⟨hx, hx2⟩
  have by' := fi_bd ⟨hy, hy2⟩
  obtain ⟨bx1, bx2⟩ := bx
  obtain ⟨by1, by2⟩ := by'
  have hf1 := refFirstC x hx hx2
  have hf2 := refFirstC y hy hy2
  have wu : IntKind.i64.wrap (a - To.fi x) = (a - To.fi x) := by rw [IntKind.wrap_i64]; omega
  have wv : IntKind.i64.wrap (b - To.fi y) = (b - To.fi y) := by rw [IntKind.wrap_i64]; omega
  have st := stC
  have ht1 := refTileC (a - To.fi x) x hx hx2 (by omega) (by omega)
  have ht2 := refTileC (b - To.fi y) y hy hy2 (by omega) (by omega)
  have ho1 := refOddC (Nm.divZ (a - To.fi x) x)
  have ho2 := refOddC (Nm.divZ (b - To.fi y) y)
  rw [hi] at ho1
  clear hi
  have hw := refWhich6 4607182418800017408 0 true 0 0 (part_may 4 (by decide)).1
  obtain ⟨W1, hW1, sz1, g1, B1⟩ := boxn w #[.int .u8 3, .int .i64 x, .int .i64 y, .int .u8 2, .int .i64 z] 23
  obtain ⟨W2, hW2, sz2, g2, B2⟩ := boxn W1 #[.int .i64 a, .int .i64 b] 25
  have G2 := gb_trans g1 g2
  have B1x := B1.kept g2 (by simp)
  have b1_2_0 := B1x.cell 0 (v := .int .u8 3) rfl
  have b1_2_1 := B1x.cell 1 (v := .int .i64 x) rfl
  have b1_2_2 := B1x.cell 2 (v := .int .i64 y) rfl
  have b1_2_3 := B1x.cell 3 (v := .int .u8 2) rfl
  have b1_2_4 := B1x.cell 4 (v := .int .i64 z) rfl
  have b2_2_0 := B2.cell 0 (v := .int .i64 a) rfl
  have b2_2_1 := B2.cell 1 (v := .int .i64 b) rfl
  go_enter Try.func13, Try.ntmps13
  go_wp2_with (first | (go_at_call 11; (fail_if_success (guard_hyp g3)); refine (hc _).mono ?_; rintro e w3 ⟨rfl, g3⟩; have G3 := gb_trans G2 g3; have B1xx := B1x.kept g3 (by simp); have B2x := B2.kept g3 (by simp); obtain ⟨W4, hW4, sz4, g4, B4⟩ := boxn w3 #[.int .i64 X, .int .i64 Y] 25; have G4 := gb_trans G3 g4; have B1xxx := B1xx.kept g4 (by simp); have B2xx := B2x.kept g4 (by simp); have sm4_0 := Bo.same B4 0 (v := .int .i64 X) rfl; have sm4_1 := Bo.same B4 1 (v := .int .i64 Y) rfl; have fz4_0 := B4.frozen 0; have fz4_1 := B4.frozen 1; clear b1_2_0 b1_2_1 b1_2_2 b1_2_3 b1_2_4 b2_2_0 b2_2_1; have b1_4_0 := B1xxx.cell 0 (v := .int .u8 3) rfl; have b1_4_1 := B1xxx.cell 1 (v := .int .i64 x) rfl; have b1_4_2 := B1xxx.cell 2 (v := .int .i64 y) rfl; have b1_4_3 := B1xxx.cell 3 (v := .int .u8 2) rfl; have b1_4_4 := B1xxx.cell 4 (v := .int .i64 z) rfl; have b2_4_0 := B2xx.cell 0 (v := .int .i64 a) rfl; have b2_4_1 := B2xx.cell 1 (v := .int .i64 b) rfl; have b4_4_0 := B4.cell 0 (v := .int .i64 X) rfl; have b4_4_1 := B4.cell 1 (v := .int .i64 Y) rfl))
  go_region_held2 (fun w' => w'.cell? ⟨w.heap.size, 0, none⟩ = some (.int .u8 3) ∧ w'.cell? ⟨w.heap.size, 1, none⟩ = some (.int .i64 x) ∧ w'.cell? ⟨w.heap.size, 2, none⟩ = some (.int .i64 y) ∧ w'.cell? ⟨w.heap.size, 3, none⟩ = some (.int .u8 2) ∧ w'.cell? ⟨w.heap.size, 4, none⟩ = some (.int .i64 z) ∧ w'.cell? ⟨W1.heap.size, 0, none⟩ = some (.int .i64 a) ∧ w'.cell? ⟨W1.heap.size, 1, none⟩ = some (.int .i64 b) ∧ w'.cell? ⟨w3.heap.size, 0, none⟩ = some (.int .i64 X) ∧ w'.cell? ⟨w3.heap.size, 1, none⟩ = some (.int .i64 Y)) (go_keep) (first | (go_at_call 33; (fail_if_success (guard_hyp mfi)); refine (hf1 _).mono ?_; rintro e w' ⟨rfl, hw'⟩; subst w'; have mfi : True := trivial) | (go_at_call 38; (fail_if_success (guard_hyp mti)); refine (ht1 _).mono ?_; rintro e w' ⟨rfl, hw'⟩; subst w'; have mti : True := trivial) | (go_at_call 37; (fail_if_success (guard_hyp moi)); refine (ho1 _).mono ?_; rintro e w' ⟨rfl, hw'⟩; subst w'; have moi : True := trivial))
  have B1xxxd := B1xxx.dr
  have B2xxd := B2xx.dr
  have B4d := B4.dr
  have G4d := gb_drew G4
  clear b1_4_0 b1_4_1 b1_4_2 b1_4_3 b1_4_4 b2_4_0 b2_4_1 b4_4_0 b4_4_1
  have b1_5_0 := B1xxxd.cell 0 (v := .int .u8 3) rfl
  have b1_5_1 := B1xxxd.cell 1 (v := .int .i64 x) rfl
  have b1_5_2 := B1xxxd.cell 2 (v := .int .i64 y) rfl
  have b1_5_3 := B1xxxd.cell 3 (v := .int .u8 2) rfl
  have b1_5_4 := B1xxxd.cell 4 (v := .int .i64 z) rfl
  have b2_5_0 := B2xxd.cell 0 (v := .int .i64 a) rfl
  have b2_5_1 := B2xxd.cell 1 (v := .int .i64 b) rfl
  have b4_5_0 := B4d.cell 0 (v := .int .i64 X) rfl
  have b4_5_1 := B4d.cell 1 (v := .int .i64 Y) rfl
  go_wp2_with (first | (go_at_call 39; refine (hw _).mono ?_; rintro e wz ⟨rfl, gz⟩))
  go_ret2
  exact ⟨rfl, gb_trans (gb_alloc G4d _) gz⟩

set_option maxHeartbeats 1000000 in
theorem rp32f (x y z a b X Y : Int) (hi : odB (Nm.divZ (a - To.fi x) x) = false) (hx : 0 ≤ x) (hx2 : x ≤ 65536) (hy : 0 ≤ y) (hy2 : y ≤ 65536) (ha : -1099511627776 ≤ a) (ha2 : a ≤ 1099511627776) (hb : -1099511627776 ≤ b) (hb2 : b ≤ 1099511627776) (hc : ∀ w, Calls Try.prog 11 #[.agg #[.int .u8 3, .int .i64 x, .int .i64 y, .int .u8 2, .int .i64 z], .agg #[.int .i64 a, .int .i64 b]] w fun e w' => e = .returned (.tuple #[.agg #[.int .i64 X, .int .i64 Y], .int .i64 0]) ∧ w.grownBy w' none) (w : World) : Calls Try.prog 13 #[.agg #[.int .u8 3, .int .i64 x, .int .i64 y, .int .u8 2, .int .i64 z], .agg #[.int .i64 a, .int .i64 b]] w fun e w' => e = .returned (.tuple #[.int .i64 0, .int .i64 0]) ∧ w.grownBy w' none := by
  have bx := fi_bd ⟨hx, hx2⟩
  have by' := fi_bd ⟨hy, hy2⟩
  obtain ⟨bx1, bx2⟩ := bx
  obtain ⟨by1, by2⟩ := by'
  have hf1 := refFirstC x hx hx2
  have hf2 := refFirstC y hy hy2
  have wu : IntKind.i64.wrap (a - To.fi x) = (a - To.fi x) := by rw [IntKind.wrap_i64]; omega
  have wv : IntKind.i64.wrap (b - To.fi y) = (b - To.fi y) := by rw [IntKind.wrap_i64]; omega
  have st := stC
  have ht1 := refTileC (a - To.fi x) x hx hx2 (by omega) (by omega)
  have ht2 := refTileC (b - To.fi y) y hy hy2 (by omega) (by omega)
  have ho1 := refOddC (Nm.divZ (a - To.fi x) x)
  have ho2 := refOddC (Nm.divZ (b - To.fi y) y)
  rw [hi] at ho1
  clear hi
  have hw := refWhich6 4607182418800017408 0 false 0 0 (part_may 0 (by decide)).1
  obtain ⟨W1, hW1, sz1, g1, B1⟩ := boxn w #[.int .u8 3, .int .i64 x, .int .i64 y, .int .u8 2, .int .i64 z] 23
  obtain ⟨W2, hW2, sz2, g2, B2⟩ := boxn W1 #[.int .i64 a, .int .i64 b] 25
  have G2 := gb_trans g1 g2
  have B1x := B1.kept g2 (by simp)
  have b1_2_0 := B1x.cell 0 (v := .int .u8 3) rfl
  have b1_2_1 := B1x.cell 1 (v := .int .i64 x) rfl
  have b1_2_2 := B1x.cell 2 (v := .int .i64 y) rfl
  have b1_2_3 := B1x.cell 3 (v := .int .u8 2) rfl
  have b1_2_4 := B1x.cell 4 (v := .int .i64 z) rfl
  have b2_2_0 := B2.cell 0 (v := .int .i64 a) rfl
  have b2_2_1 := B2.cell 1 (v := .int .i64 b) rfl
  go_enter Try.func13, Try.ntmps13
  go_wp2_with (first | (go_at_call 11; (fail_if_success (guard_hyp g3)); refine (hc _).mono ?_; rintro e w3 ⟨rfl, g3⟩; have G3 := gb_trans G2 g3; have B1xx := B1x.kept g3 (by simp); have B2x := B2.kept g3 (by simp); obtain ⟨W4, hW4, sz4, g4, B4⟩ := boxn w3 #[.int .i64 X, .int .i64 Y] 25; have G4 := gb_trans G3 g4; have B1xxx := B1xx.kept g4 (by simp); have B2xx := B2x.kept g4 (by simp); have sm4_0 := Bo.same B4 0 (v := .int .i64 X) rfl; have sm4_1 := Bo.same B4 1 (v := .int .i64 Y) rfl; have fz4_0 := B4.frozen 0; have fz4_1 := B4.frozen 1; clear b1_2_0 b1_2_1 b1_2_2 b1_2_3 b1_2_4 b2_2_0 b2_2_1; have b1_4_0 := B1xxx.cell 0 (v := .int .u8 3) rfl; have b1_4_1 := B1xxx.cell 1 (v := .int .i64 x) rfl; have b1_4_2 := B1xxx.cell 2 (v := .int .i64 y) rfl; have b1_4_3 := B1xxx.cell 3 (v := .int .u8 2) rfl; have b1_4_4 := B1xxx.cell 4 (v := .int .i64 z) rfl; have b2_4_0 := B2xx.cell 0 (v := .int .i64 a) rfl; have b2_4_1 := B2xx.cell 1 (v := .int .i64 b) rfl; have b4_4_0 := B4.cell 0 (v := .int .i64 X) rfl; have b4_4_1 := B4.cell 1 (v := .int .i64 Y) rfl))
  go_region_held2 (fun w' => w'.cell? ⟨w.heap.size, 0, none⟩ = some (.int .u8 3) ∧ w'.cell? ⟨w.heap.size, 1, none⟩ = some (.int .i64 x) ∧ w'.cell? ⟨w.heap.size, 2, none⟩ = some (.int .i64 y) ∧ w'.cell? ⟨w.heap.size, 3, none⟩ = some (.int .u8 2) ∧ w'.cell? ⟨w.heap.size, 4, none⟩ = some (.int .i64 z) ∧ w'.cell? ⟨W1.heap.size, 0, none⟩ = some (.int .i64 a) ∧ w'.cell? ⟨W1.heap.size, 1, none⟩ = some (.int .i64 b) ∧ w'.cell? ⟨w3.heap.size, 0, none⟩ = some (.int .i64 X) ∧ w'.cell? ⟨w3.heap.size, 1, none⟩ = some (.int .i64 Y)) (go_keep) (first | (go_at_call 33; (fail_if_success (guard_hyp mfi)); refine (hf1 _).mono ?_; rintro e w' ⟨rfl, hw'⟩; subst w'; have mfi : True := trivial) | (go_at_call 38; (fail_if_success (guard_hyp mti)); refine (ht1 _).mono ?_; rintro e w' ⟨rfl, hw'⟩; subst w'; have mti : True := trivial) | (go_at_call 37; (fail_if_success (guard_hyp moi)); refine (ho1 _).mono ?_; rintro e w' ⟨rfl, hw'⟩; subst w'; have moi : True := trivial))
  have B1xxxd := B1xxx.dr
  have B2xxd := B2xx.dr
  have B4d := B4.dr
  have G4d := gb_drew G4
  clear b1_4_0 b1_4_1 b1_4_2 b1_4_3 b1_4_4 b2_4_0 b2_4_1 b4_4_0 b4_4_1
  have b1_5_0 := B1xxxd.cell 0 (v := .int .u8 3) rfl
  have b1_5_1 := B1xxxd.cell 1 (v := .int .i64 x) rfl
  have b1_5_2 := B1xxxd.cell 2 (v := .int .i64 y) rfl
  have b1_5_3 := B1xxxd.cell 3 (v := .int .u8 2) rfl
  have b1_5_4 := B1xxxd.cell 4 (v := .int .i64 z) rfl
  have b2_5_0 := B2xxd.cell 0 (v := .int .i64 a) rfl
  have b2_5_1 := B2xxd.cell 1 (v := .int .i64 b) rfl
  have b4_5_0 := B4d.cell 0 (v := .int .i64 X) rfl
  have b4_5_1 := B4d.cell 1 (v := .int .i64 Y) rfl
  go_wp2_with (first | (go_at_call 39; refine (hw _).mono ?_; rintro e wz ⟨rfl, gz⟩))
  go_ret2
  exact ⟨rfl, gb_trans (gb_alloc G4d _) gz⟩

set_option maxHeartbeats 1000000 in
theorem rp4tt (x y t z a b X Y : Int) (hj : odB (Nm.divZ (b - To.fi y) y) = true) (hi : odB (Nm.divZ (a - To.fi x) x) = true) (hx : 0 ≤ x) (hx2 : x ≤ 65536) (hy : 0 ≤ y) (hy2 : y ≤ 65536) (ha : -1099511627776 ≤ a) (ha2 : a ≤ 1099511627776) (hb : -1099511627776 ≤ b) (hb2 : b ≤ 1099511627776) (hc : ∀ w, Calls Try.prog 11 #[.agg #[.int .u8 4, .int .i64 x, .int .i64 y, .int .u8 t, .int .i64 z], .agg #[.int .i64 a, .int .i64 b]] w fun e w' => e = .returned (.tuple #[.agg #[.int .i64 X, .int .i64 Y], .int .i64 0]) ∧ w.grownBy w' none) (w : World) : Calls Try.prog 13 #[.agg #[.int .u8 4, .int .i64 x, .int .i64 y, .int .u8 t, .int .i64 z], .agg #[.int .i64 a, .int .i64 b]] w fun e w' => e = .returned (.tuple #[.int .i64 2, .int .i64 0]) ∧ w.grownBy w' none := by
  have bx := fi_bd ⟨hx, hx2⟩
  have by' := fi_bd ⟨hy, hy2⟩
  obtain ⟨bx1, bx2⟩ := bx
  obtain ⟨by1, by2⟩ := by'
  have hf1 := refFirstC x hx hx2
  have hf2 := refFirstC y hy hy2
  have wu : IntKind.i64.wrap (a - To.fi x) = (a - To.fi x) := by rw [IntKind.wrap_i64]; omega
  have wv : IntKind.i64.wrap (b - To.fi y) = (b - To.fi y) := by rw [IntKind.wrap_i64]; omega
  have st := stC
  have ht1 := refTileC (a - To.fi x) x hx hx2 (by omega) (by omega)
  have ht2 := refTileC (b - To.fi y) y hy hy2 (by omega) (by omega)
  have ho1 := refOddC (Nm.divZ (a - To.fi x) x)
  have ho2 := refOddC (Nm.divZ (b - To.fi y) y)
  rw [hj] at ho2
  clear hj
  rw [hi] at ho1
  clear hi
  have hw := refWhich6 13830554455654793216 0 false 0 0 (part_may 2 (by decide)).1
  obtain ⟨W1, hW1, sz1, g1, B1⟩ := boxn w #[.int .u8 4, .int .i64 x, .int .i64 y, .int .u8 t, .int .i64 z] 23
  obtain ⟨W2, hW2, sz2, g2, B2⟩ := boxn W1 #[.int .i64 a, .int .i64 b] 25
  have G2 := gb_trans g1 g2
  have B1x := B1.kept g2 (by simp)
  have b1_2_0 := B1x.cell 0 (v := .int .u8 4) rfl
  have b1_2_1 := B1x.cell 1 (v := .int .i64 x) rfl
  have b1_2_2 := B1x.cell 2 (v := .int .i64 y) rfl
  have b1_2_3 := B1x.cell 3 (v := .int .u8 t) rfl
  have b1_2_4 := B1x.cell 4 (v := .int .i64 z) rfl
  have b2_2_0 := B2.cell 0 (v := .int .i64 a) rfl
  have b2_2_1 := B2.cell 1 (v := .int .i64 b) rfl
  go_enter Try.func13, Try.ntmps13
  go_wp2_with (first | (go_at_call 11; (fail_if_success (guard_hyp g3)); refine (hc _).mono ?_; rintro e w3 ⟨rfl, g3⟩; have G3 := gb_trans G2 g3; have B1xx := B1x.kept g3 (by simp); have B2x := B2.kept g3 (by simp); obtain ⟨W4, hW4, sz4, g4, B4⟩ := boxn w3 #[.int .i64 X, .int .i64 Y] 25; have G4 := gb_trans G3 g4; have B1xxx := B1xx.kept g4 (by simp); have B2xx := B2x.kept g4 (by simp); have sm4_0 := Bo.same B4 0 (v := .int .i64 X) rfl; have sm4_1 := Bo.same B4 1 (v := .int .i64 Y) rfl; have fz4_0 := B4.frozen 0; have fz4_1 := B4.frozen 1; clear b1_2_0 b1_2_1 b1_2_2 b1_2_3 b1_2_4 b2_2_0 b2_2_1; have b1_4_0 := B1xxx.cell 0 (v := .int .u8 4) rfl; have b1_4_1 := B1xxx.cell 1 (v := .int .i64 x) rfl; have b1_4_2 := B1xxx.cell 2 (v := .int .i64 y) rfl; have b1_4_3 := B1xxx.cell 3 (v := .int .u8 t) rfl; have b1_4_4 := B1xxx.cell 4 (v := .int .i64 z) rfl; have b2_4_0 := B2xx.cell 0 (v := .int .i64 a) rfl; have b2_4_1 := B2xx.cell 1 (v := .int .i64 b) rfl; have b4_4_0 := B4.cell 0 (v := .int .i64 X) rfl; have b4_4_1 := B4.cell 1 (v := .int .i64 Y) rfl))
  go_region_held2 (fun w' => w'.cell? ⟨w.heap.size, 0, none⟩ = some (.int .u8 4) ∧ w'.cell? ⟨w.heap.size, 1, none⟩ = some (.int .i64 x) ∧ w'.cell? ⟨w.heap.size, 2, none⟩ = some (.int .i64 y) ∧ w'.cell? ⟨w.heap.size, 3, none⟩ = some (.int .u8 t) ∧ w'.cell? ⟨w.heap.size, 4, none⟩ = some (.int .i64 z) ∧ w'.cell? ⟨W1.heap.size, 0, none⟩ = some (.int .i64 a) ∧ w'.cell? ⟨W1.heap.size, 1, none⟩ = some (.int .i64 b) ∧ w'.cell? ⟨w3.heap.size, 0, none⟩ = some (.int .i64 X) ∧ w'.cell? ⟨w3.heap.size, 1, none⟩ = some (.int .i64 Y)) (go_keep) (first | (go_at_call 33; (fail_if_success (guard_hyp mfj)); refine (hf2 _).mono ?_; rintro e w' ⟨rfl, hw'⟩; subst w'; have mfj : True := trivial) | (go_at_call 38; (fail_if_success (guard_hyp mtj)); refine (ht2 _).mono ?_; rintro e w' ⟨rfl, hw'⟩; subst w'; have mtj : True := trivial) | (go_at_call 37; (fail_if_success (guard_hyp moj)); refine (ho2 _).mono ?_; rintro e w' ⟨rfl, hw'⟩; subst w'; have moj : True := trivial))
  have B1xxxd := B1xxx.dr
  have B2xxd := B2xx.dr
  have B4d := B4.dr
  have G4d := gb_drew G4
  clear b1_4_0 b1_4_1 b1_4_2 b1_4_3 b1_4_4 b2_4_0 b2_4_1 b4_4_0 b4_4_1
  have b1_5_0 := B1xxxd.cell 0 (v := .int .u8 4) rfl
  have b1_5_1 := B1xxxd.cell 1 (v := .int .i64 x) rfl
  have b1_5_2 := B1xxxd.cell 2 (v := .int .i64 y) rfl
  have b1_5_3 := B1xxxd.cell 3 (v := .int .u8 t) rfl
  have b1_5_4 := B1xxxd.cell 4 (v := .int .i64 z) rfl
  have b2_5_0 := B2xxd.cell 0 (v := .int .i64 a) rfl
  have b2_5_1 := B2xxd.cell 1 (v := .int .i64 b) rfl
  have b4_5_0 := B4d.cell 0 (v := .int .i64 X) rfl
  have b4_5_1 := B4d.cell 1 (v := .int .i64 Y) rfl
  go_wp2
  go_region_held2 (fun w' => w'.cell? ⟨w.heap.size, 0, none⟩ = some (.int .u8 4) ∧ w'.cell? ⟨w.heap.size, 1, none⟩ = some (.int .i64 x) ∧ w'.cell? ⟨w.heap.size, 2, none⟩ = some (.int .i64 y) ∧ w'.cell? ⟨w.heap.size, 3, none⟩ = some (.int .u8 t) ∧ w'.cell? ⟨w.heap.size, 4, none⟩ = some (.int .i64 z) ∧ w'.cell? ⟨W1.heap.size, 0, none⟩ = some (.int .i64 a) ∧ w'.cell? ⟨W1.heap.size, 1, none⟩ = some (.int .i64 b) ∧ w'.cell? ⟨w3.heap.size, 0, none⟩ = some (.int .i64 X) ∧ w'.cell? ⟨w3.heap.size, 1, none⟩ = some (.int .i64 Y)) (go_keep) (first | (go_at_call 33; (fail_if_success (guard_hyp mfi)); refine (hf1 _).mono ?_; rintro e w' ⟨rfl, hw'⟩; subst w'; have mfi : True := trivial) | (go_at_call 38; (fail_if_success (guard_hyp mti)); refine (ht1 _).mono ?_; rintro e w' ⟨rfl, hw'⟩; subst w'; have mti : True := trivial) | (go_at_call 37; (fail_if_success (guard_hyp moi)); refine (ho1 _).mono ?_; rintro e w' ⟨rfl, hw'⟩; subst w'; have moi : True := trivial))
  have B1xxxdd := B1xxxd.dr
  have B2xxdd := B2xxd.dr
  have B4dd := B4d.dr
  have G4dd := gb_drew G4d
  clear b1_5_0 b1_5_1 b1_5_2 b1_5_3 b1_5_4 b2_5_0 b2_5_1 b4_5_0 b4_5_1
  have b1_6_0 := B1xxxdd.cell 0 (v := .int .u8 4) rfl
  have b1_6_1 := B1xxxdd.cell 1 (v := .int .i64 x) rfl
  have b1_6_2 := B1xxxdd.cell 2 (v := .int .i64 y) rfl
  have b1_6_3 := B1xxxdd.cell 3 (v := .int .u8 t) rfl
  have b1_6_4 := B1xxxdd.cell 4 (v := .int .i64 z) rfl
  have b2_6_0 := B2xxdd.cell 0 (v := .int .i64 a) rfl
  have b2_6_1 := B2xxdd.cell 1 (v := .int .i64 b) rfl
  have b4_6_0 := B4dd.cell 0 (v := .int .i64 X) rfl
  have b4_6_1 := B4dd.cell 1 (v := .int .i64 Y) rfl
  go_wp2_with (first | (go_at_call 39; refine (hw _).mono ?_; rintro e wz ⟨rfl, gz⟩))
  go_ret2
  exact ⟨rfl, gb_trans (gb_alloc G4dd _) gz⟩

set_option maxHeartbeats 1000000 in
theorem rp4tf (x y t z a b X Y : Int) (hj : odB (Nm.divZ (b - To.fi y) y) = true) (hi : odB (Nm.divZ (a - To.fi x) x) = false) (hx : 0 ≤ x) (hx2 : x ≤ 65536) (hy : 0 ≤ y) (hy2 : y ≤ 65536) (ha : -1099511627776 ≤ a) (ha2 : a ≤ 1099511627776) (hb : -1099511627776 ≤ b) (hb2 : b ≤ 1099511627776) (hc : ∀ w, Calls Try.prog 11 #[.agg #[.int .u8 4, .int .i64 x, .int .i64 y, .int .u8 t, .int .i64 z], .agg #[.int .i64 a, .int .i64 b]] w fun e w' => e = .returned (.tuple #[.agg #[.int .i64 X, .int .i64 Y], .int .i64 0]) ∧ w.grownBy w' none) (w : World) : Calls Try.prog 13 #[.agg #[.int .u8 4, .int .i64 x, .int .i64 y, .int .u8 t, .int .i64 z], .agg #[.int .i64 a, .int .i64 b]] w fun e w' => e = .returned (.tuple #[.int .i64 6, .int .i64 0]) ∧ w.grownBy w' none := by
  have bx := fi_bd ⟨hx, hx2⟩
  have by' := fi_bd ⟨hy, hy2⟩
  obtain ⟨bx1, bx2⟩ := bx
  obtain ⟨by1, by2⟩ := by'
  have hf1 := refFirstC x hx hx2
  have hf2 := refFirstC y hy hy2
  have wu : IntKind.i64.wrap (a - To.fi x) = (a - To.fi x) := by rw [IntKind.wrap_i64]; omega
  have wv : IntKind.i64.wrap (b - To.fi y) = (b - To.fi y) := by rw [IntKind.wrap_i64]; omega
  have st := stC
  have ht1 := refTileC (a - To.fi x) x hx hx2 (by omega) (by omega)
  have ht2 := refTileC (b - To.fi y) y hy hy2 (by omega) (by omega)
  have ho1 := refOddC (Nm.divZ (a - To.fi x) x)
  have ho2 := refOddC (Nm.divZ (b - To.fi y) y)
  rw [hj] at ho2
  clear hj
  rw [hi] at ho1
  clear hi
  have hw := refWhich6 13830554455654793216 0 true 0 0 (part_may 6 (by decide)).1
  obtain ⟨W1, hW1, sz1, g1, B1⟩ := boxn w #[.int .u8 4, .int .i64 x, .int .i64 y, .int .u8 t, .int .i64 z] 23
  obtain ⟨W2, hW2, sz2, g2, B2⟩ := boxn W1 #[.int .i64 a, .int .i64 b] 25
  have G2 := gb_trans g1 g2
  have B1x := B1.kept g2 (by simp)
  have b1_2_0 := B1x.cell 0 (v := .int .u8 4) rfl
  have b1_2_1 := B1x.cell 1 (v := .int .i64 x) rfl
  have b1_2_2 := B1x.cell 2 (v := .int .i64 y) rfl
  have b1_2_3 := B1x.cell 3 (v := .int .u8 t) rfl
  have b1_2_4 := B1x.cell 4 (v := .int .i64 z) rfl
  have b2_2_0 := B2.cell 0 (v := .int .i64 a) rfl
  have b2_2_1 := B2.cell 1 (v := .int .i64 b) rfl
  go_enter Try.func13, Try.ntmps13
  go_wp2_with (first | (go_at_call 11; (fail_if_success (guard_hyp g3)); refine (hc _).mono ?_; rintro e w3 ⟨rfl, g3⟩; have G3 := gb_trans G2 g3; have B1xx := B1x.kept g3 (by simp); have B2x := B2.kept g3 (by simp); obtain ⟨W4, hW4, sz4, g4, B4⟩ := boxn w3 #[.int .i64 X, .int .i64 Y] 25; have G4 := gb_trans G3 g4; have B1xxx := B1xx.kept g4 (by simp); have B2xx := B2x.kept g4 (by simp); have sm4_0 := Bo.same B4 0 (v := .int .i64 X) rfl; have sm4_1 := Bo.same B4 1 (v := .int .i64 Y) rfl; have fz4_0 := B4.frozen 0; have fz4_1 := B4.frozen 1; clear b1_2_0 b1_2_1 b1_2_2 b1_2_3 b1_2_4 b2_2_0 b2_2_1; have b1_4_0 := B1xxx.cell 0 (v := .int .u8 4) rfl; have b1_4_1 := B1xxx.cell 1 (v := .int .i64 x) rfl; have b1_4_2 := B1xxx.cell 2 (v := .int .i64 y) rfl; have b1_4_3 := B1xxx.cell 3 (v := .int .u8 t) rfl; have b1_4_4 := B1xxx.cell 4 (v := .int .i64 z) rfl; have b2_4_0 := B2xx.cell 0 (v := .int .i64 a) rfl; have b2_4_1 := B2xx.cell 1 (v := .int .i64 b) rfl; have b4_4_0 := B4.cell 0 (v := .int .i64 X) rfl; have b4_4_1 := B4.cell 1 (v := .int .i64 Y) rfl))
  go_region_held2 (fun w' => w'.cell? ⟨w.heap.size, 0, none⟩ = some (.int .u8 4) ∧ w'.cell? ⟨w.heap.size, 1, none⟩ = some (.int .i64 x) ∧ w'.cell? ⟨w.heap.size, 2, none⟩ = some (.int .i64 y) ∧ w'.cell? ⟨w.heap.size, 3, none⟩ = some (.int .u8 t) ∧ w'.cell? ⟨w.heap.size, 4, none⟩ = some (.int .i64 z) ∧ w'.cell? ⟨W1.heap.size, 0, none⟩ = some (.int .i64 a) ∧ w'.cell? ⟨W1.heap.size, 1, none⟩ = some (.int .i64 b) ∧ w'.cell? ⟨w3.heap.size, 0, none⟩ = some (.int .i64 X) ∧ w'.cell? ⟨w3.heap.size, 1, none⟩ = some (.int .i64 Y)) (go_keep) (first | (go_at_call 33; (fail_if_success (guard_hyp mfj)); refine (hf2 _).mono ?_; rintro e w' ⟨rfl, hw'⟩; subst w'; have mfj : True := trivial) | (go_at_call 38; (fail_if_success (guard_hyp mtj)); refine (ht2 _).mono ?_; rintro e w' ⟨rfl, hw'⟩; subst w'; have mtj : True := trivial) | (go_at_call 37; (fail_if_success (guard_hyp moj)); refine (ho2 _).mono ?_; rintro e w' ⟨rfl, hw'⟩; subst w'; have moj : True := trivial))
  have B1xxxd := B1xxx.dr
  have B2xxd := B2xx.dr
  have B4d := B4.dr
  have G4d := gb_drew G4
  clear b1_4_0 b1_4_1 b1_4_2 b1_4_3 b1_4_4 b2_4_0 b2_4_1 b4_4_0 b4_4_1
  have b1_5_0 := B1xxxd.cell 0 (v := .int .u8 4) rfl
  have b1_5_1 := B1xxxd.cell 1 (v := .int .i64 x) rfl
  have b1_5_2 := B1xxxd.cell 2 (v := .int .i64 y) rfl
  have b1_5_3 := B1xxxd.cell 3 (v := .int .u8 t) rfl
  have b1_5_4 := B1xxxd.cell 4 (v := .int .i64 z) rfl
  have b2_5_0 := B2xxd.cell 0 (v := .int .i64 a) rfl
  have b2_5_1 := B2xxd.cell 1 (v := .int .i64 b) rfl
  have b4_5_0 := B4d.cell 0 (v := .int .i64 X) rfl
  have b4_5_1 := B4d.cell 1 (v := .int .i64 Y) rfl
  go_wp2
  go_region_held2 (fun w' => w'.cell? ⟨w.heap.size, 0, none⟩ = some (.int .u8 4) ∧ w'.cell? ⟨w.heap.size, 1, none⟩ = some (.int .i64 x) ∧ w'.cell? ⟨w.heap.size, 2, none⟩ = some (.int .i64 y) ∧ w'.cell? ⟨w.heap.size, 3, none⟩ = some (.int .u8 t) ∧ w'.cell? ⟨w.heap.size, 4, none⟩ = some (.int .i64 z) ∧ w'.cell? ⟨W1.heap.size, 0, none⟩ = some (.int .i64 a) ∧ w'.cell? ⟨W1.heap.size, 1, none⟩ = some (.int .i64 b) ∧ w'.cell? ⟨w3.heap.size, 0, none⟩ = some (.int .i64 X) ∧ w'.cell? ⟨w3.heap.size, 1, none⟩ = some (.int .i64 Y)) (go_keep) (first | (go_at_call 33; (fail_if_success (guard_hyp mfi)); refine (hf1 _).mono ?_; rintro e w' ⟨rfl, hw'⟩; subst w'; have mfi : True := trivial) | (go_at_call 38; (fail_if_success (guard_hyp mti)); refine (ht1 _).mono ?_; rintro e w' ⟨rfl, hw'⟩; subst w'; have mti : True := trivial) | (go_at_call 37; (fail_if_success (guard_hyp moi)); refine (ho1 _).mono ?_; rintro e w' ⟨rfl, hw'⟩; subst w'; have moi : True := trivial))
  have B1xxxdd := B1xxxd.dr
  have B2xxdd := B2xxd.dr
  have B4dd := B4d.dr
  have G4dd := gb_drew G4d
  clear b1_5_0 b1_5_1 b1_5_2 b1_5_3 b1_5_4 b2_5_0 b2_5_1 b4_5_0 b4_5_1
  have b1_6_0 := B1xxxdd.cell 0 (v := .int .u8 4) rfl
  have b1_6_1 := B1xxxdd.cell 1 (v := .int .i64 x) rfl
  have b1_6_2 := B1xxxdd.cell 2 (v := .int .i64 y) rfl
  have b1_6_3 := B1xxxdd.cell 3 (v := .int .u8 t) rfl
  have b1_6_4 := B1xxxdd.cell 4 (v := .int .i64 z) rfl
  have b2_6_0 := B2xxdd.cell 0 (v := .int .i64 a) rfl
  have b2_6_1 := B2xxdd.cell 1 (v := .int .i64 b) rfl
  have b4_6_0 := B4dd.cell 0 (v := .int .i64 X) rfl
  have b4_6_1 := B4dd.cell 1 (v := .int .i64 Y) rfl
  go_wp2_with (first | (go_at_call 39; refine (hw _).mono ?_; rintro e wz ⟨rfl, gz⟩))
  go_ret2
  exact ⟨rfl, gb_trans (gb_alloc G4dd _) gz⟩

set_option maxHeartbeats 1000000 in
theorem rp4ft (x y t z a b X Y : Int) (hj : odB (Nm.divZ (b - To.fi y) y) = false) (hi : odB (Nm.divZ (a - To.fi x) x) = true) (hx : 0 ≤ x) (hx2 : x ≤ 65536) (hy : 0 ≤ y) (hy2 : y ≤ 65536) (ha : -1099511627776 ≤ a) (ha2 : a ≤ 1099511627776) (hb : -1099511627776 ≤ b) (hb2 : b ≤ 1099511627776) (hc : ∀ w, Calls Try.prog 11 #[.agg #[.int .u8 4, .int .i64 x, .int .i64 y, .int .u8 t, .int .i64 z], .agg #[.int .i64 a, .int .i64 b]] w fun e w' => e = .returned (.tuple #[.agg #[.int .i64 X, .int .i64 Y], .int .i64 0]) ∧ w.grownBy w' none) (w : World) : Calls Try.prog 13 #[.agg #[.int .u8 4, .int .i64 x, .int .i64 y, .int .u8 t, .int .i64 z], .agg #[.int .i64 a, .int .i64 b]] w fun e w' => e = .returned (.tuple #[.int .i64 4, .int .i64 0]) ∧ w.grownBy w' none := by
  have bx := fi_bd ⟨hx, hx2⟩
  have by' := fi_bd ⟨hy, hy2⟩
  obtain ⟨bx1, bx2⟩ := bx
  obtain ⟨by1, by2⟩ := by'
  have hf1 := refFirstC x hx hx2
  have hf2 := refFirstC y hy hy2
  have wu : IntKind.i64.wrap (a - To.fi x) = (a - To.fi x) := by rw [IntKind.wrap_i64]; omega
  have wv : IntKind.i64.wrap (b - To.fi y) = (b - To.fi y) := by rw [IntKind.wrap_i64]; omega
  have st := stC
  have ht1 := refTileC (a - To.fi x) x hx hx2 (by omega) (by omega)
  have ht2 := refTileC (b - To.fi y) y hy hy2 (by omega) (by omega)
  have ho1 := refOddC (Nm.divZ (a - To.fi x) x)
  have ho2 := refOddC (Nm.divZ (b - To.fi y) y)
  rw [hj] at ho2
  clear hj
  rw [hi] at ho1
  clear hi
  have hw := refWhich6 4607182418800017408 0 true 0 0 (part_may 4 (by decide)).1
  obtain ⟨W1, hW1, sz1, g1, B1⟩ := boxn w #[.int .u8 4, .int .i64 x, .int .i64 y, .int .u8 t, .int .i64 z] 23
  obtain ⟨W2, hW2, sz2, g2, B2⟩ := boxn W1 #[.int .i64 a, .int .i64 b] 25
  have G2 := gb_trans g1 g2
  have B1x := B1.kept g2 (by simp)
  have b1_2_0 := B1x.cell 0 (v := .int .u8 4) rfl
  have b1_2_1 := B1x.cell 1 (v := .int .i64 x) rfl
  have b1_2_2 := B1x.cell 2 (v := .int .i64 y) rfl
  have b1_2_3 := B1x.cell 3 (v := .int .u8 t) rfl
  have b1_2_4 := B1x.cell 4 (v := .int .i64 z) rfl
  have b2_2_0 := B2.cell 0 (v := .int .i64 a) rfl
  have b2_2_1 := B2.cell 1 (v := .int .i64 b) rfl
  go_enter Try.func13, Try.ntmps13
  go_wp2_with (first | (go_at_call 11; (fail_if_success (guard_hyp g3)); refine (hc _).mono ?_; rintro e w3 ⟨rfl, g3⟩; have G3 := gb_trans G2 g3; have B1xx := B1x.kept g3 (by simp); have B2x := B2.kept g3 (by simp); obtain ⟨W4, hW4, sz4, g4, B4⟩ := boxn w3 #[.int .i64 X, .int .i64 Y] 25; have G4 := gb_trans G3 g4; have B1xxx := B1xx.kept g4 (by simp); have B2xx := B2x.kept g4 (by simp); have sm4_0 := Bo.same B4 0 (v := .int .i64 X) rfl; have sm4_1 := Bo.same B4 1 (v := .int .i64 Y) rfl; have fz4_0 := B4.frozen 0; have fz4_1 := B4.frozen 1; clear b1_2_0 b1_2_1 b1_2_2 b1_2_3 b1_2_4 b2_2_0 b2_2_1; have b1_4_0 := B1xxx.cell 0 (v := .int .u8 4) rfl; have b1_4_1 := B1xxx.cell 1 (v := .int .i64 x) rfl; have b1_4_2 := B1xxx.cell 2 (v := .int .i64 y) rfl; have b1_4_3 := B1xxx.cell 3 (v := .int .u8 t) rfl; have b1_4_4 := B1xxx.cell 4 (v := .int .i64 z) rfl; have b2_4_0 := B2xx.cell 0 (v := .int .i64 a) rfl; have b2_4_1 := B2xx.cell 1 (v := .int .i64 b) rfl; have b4_4_0 := B4.cell 0 (v := .int .i64 X) rfl; have b4_4_1 := B4.cell 1 (v := .int .i64 Y) rfl))
  go_region_held2 (fun w' => w'.cell? ⟨w.heap.size, 0, none⟩ = some (.int .u8 4) ∧ w'.cell? ⟨w.heap.size, 1, none⟩ = some (.int .i64 x) ∧ w'.cell? ⟨w.heap.size, 2, none⟩ = some (.int .i64 y) ∧ w'.cell? ⟨w.heap.size, 3, none⟩ = some (.int .u8 t) ∧ w'.cell? ⟨w.heap.size, 4, none⟩ = some (.int .i64 z) ∧ w'.cell? ⟨W1.heap.size, 0, none⟩ = some (.int .i64 a) ∧ w'.cell? ⟨W1.heap.size, 1, none⟩ = some (.int .i64 b) ∧ w'.cell? ⟨w3.heap.size, 0, none⟩ = some (.int .i64 X) ∧ w'.cell? ⟨w3.heap.size, 1, none⟩ = some (.int .i64 Y)) (go_keep) (first | (go_at_call 33; (fail_if_success (guard_hyp mfj)); refine (hf2 _).mono ?_; rintro e w' ⟨rfl, hw'⟩; subst w'; have mfj : True := trivial) | (go_at_call 38; (fail_if_success (guard_hyp mtj)); refine (ht2 _).mono ?_; rintro e w' ⟨rfl, hw'⟩; subst w'; have mtj : True := trivial) | (go_at_call 37; (fail_if_success (guard_hyp moj)); refine (ho2 _).mono ?_; rintro e w' ⟨rfl, hw'⟩; subst w'; have moj : True := trivial))
  have B1xxxd := B1xxx.dr
  have B2xxd := B2xx.dr
  have B4d := B4.dr
  have G4d := gb_drew G4
  clear b1_4_0 b1_4_1 b1_4_2 b1_4_3 b1_4_4 b2_4_0 b2_4_1 b4_4_0 b4_4_1
  have b1_5_0 := B1xxxd.cell 0 (v := .int .u8 4) rfl
  have b1_5_1 := B1xxxd.cell 1 (v := .int .i64 x) rfl
  have b1_5_2 := B1xxxd.cell 2 (v := .int .i64 y) rfl
  have b1_5_3 := B1xxxd.cell 3 (v := .int .u8 t) rfl
  have b1_5_4 := B1xxxd.cell 4 (v := .int .i64 z) rfl
  have b2_5_0 := B2xxd.cell 0 (v := .int .i64 a) rfl
  have b2_5_1 := B2xxd.cell 1 (v := .int .i64 b) rfl
  have b4_5_0 := B4d.cell 0 (v := .int .i64 X) rfl
  have b4_5_1 := B4d.cell 1 (v := .int .i64 Y) rfl
  go_wp2
  go_region_held2 (fun w' => w'.cell? ⟨w.heap.size, 0, none⟩ = some (.int .u8 4) ∧ w'.cell? ⟨w.heap.size, 1, none⟩ = some (.int .i64 x) ∧ w'.cell? ⟨w.heap.size, 2, none⟩ = some (.int .i64 y) ∧ w'.cell? ⟨w.heap.size, 3, none⟩ = some (.int .u8 t) ∧ w'.cell? ⟨w.heap.size, 4, none⟩ = some (.int .i64 z) ∧ w'.cell? ⟨W1.heap.size, 0, none⟩ = some (.int .i64 a) ∧ w'.cell? ⟨W1.heap.size, 1, none⟩ = some (.int .i64 b) ∧ w'.cell? ⟨w3.heap.size, 0, none⟩ = some (.int .i64 X) ∧ w'.cell? ⟨w3.heap.size, 1, none⟩ = some (.int .i64 Y)) (go_keep) (first | (go_at_call 33; (fail_if_success (guard_hyp mfi)); refine (hf1 _).mono ?_; rintro e w' ⟨rfl, hw'⟩; subst w'; have mfi : True := trivial) | (go_at_call 38; (fail_if_success (guard_hyp mti)); refine (ht1 _).mono ?_; rintro e w' ⟨rfl, hw'⟩; subst w'; have mti : True := trivial) | (go_at_call 37; (fail_if_success (guard_hyp moi)); refine (ho1 _).mono ?_; rintro e w' ⟨rfl, hw'⟩; subst w'; have moi : True := trivial))
  have B1xxxdd := B1xxxd.dr
  have B2xxdd := B2xxd.dr
  have B4dd := B4d.dr
  have G4dd := gb_drew G4d
  clear b1_5_0 b1_5_1 b1_5_2 b1_5_3 b1_5_4 b2_5_0 b2_5_1 b4_5_0 b4_5_1
  have b1_6_0 := B1xxxdd.cell 0 (v := .int .u8 4) rfl
  have b1_6_1 := B1xxxdd.cell 1 (v := .int .i64 x) rfl
  have b1_6_2 := B1xxxdd.cell 2 (v := .int .i64 y) rfl
  have b1_6_3 := B1xxxdd.cell 3 (v := .int .u8 t) rfl
  have b1_6_4 := B1xxxdd.cell 4 (v := .int .i64 z) rfl
  have b2_6_0 := B2xxdd.cell 0 (v := .int .i64 a) rfl
  have b2_6_1 := B2xxdd.cell 1 (v := .int .i64 b) rfl
  have b4_6_0 := B4dd.cell 0 (v := .int .i64 X) rfl
  have b4_6_1 := B4dd.cell 1 (v := .int .i64 Y) rfl
  go_wp2_with (first | (go_at_call 39; refine (hw _).mono ?_; rintro e wz ⟨rfl, gz⟩))
  go_ret2
  exact ⟨rfl, gb_trans (gb_alloc G4dd _) gz⟩

set_option maxHeartbeats 1000000 in
theorem rp4ff (x y t z a b X Y : Int) (hj : odB (Nm.divZ (b - To.fi y) y) = false) (hi : odB (Nm.divZ (a - To.fi x) x) = false) (hx : 0 ≤ x) (hx2 : x ≤ 65536) (hy : 0 ≤ y) (hy2 : y ≤ 65536) (ha : -1099511627776 ≤ a) (ha2 : a ≤ 1099511627776) (hb : -1099511627776 ≤ b) (hb2 : b ≤ 1099511627776) (hc : ∀ w, Calls Try.prog 11 #[.agg #[.int .u8 4, .int .i64 x, .int .i64 y, .int .u8 t, .int .i64 z], .agg #[.int .i64 a, .int .i64 b]] w fun e w' => e = .returned (.tuple #[.agg #[.int .i64 X, .int .i64 Y], .int .i64 0]) ∧ w.grownBy w' none) (w : World) : Calls Try.prog 13 #[.agg #[.int .u8 4, .int .i64 x, .int .i64 y, .int .u8 t, .int .i64 z], .agg #[.int .i64 a, .int .i64 b]] w fun e w' => e = .returned (.tuple #[.int .i64 0, .int .i64 0]) ∧ w.grownBy w' none := by
  have bx := fi_bd ⟨hx, hx2⟩
  have by' := fi_bd ⟨hy, hy2⟩
  obtain ⟨bx1, bx2⟩ := bx
  obtain ⟨by1, by2⟩ := by'
  have hf1 := refFirstC x hx hx2
  have hf2 := refFirstC y hy hy2
  have wu : IntKind.i64.wrap (a - To.fi x) = (a - To.fi x) := by rw [IntKind.wrap_i64]; omega
  have wv : IntKind.i64.wrap (b - To.fi y) = (b - To.fi y) := by rw [IntKind.wrap_i64]; omega
  have st := stC
  have ht1 := refTileC (a - To.fi x) x hx hx2 (by omega) (by omega)
  have ht2 := refTileC (b - To.fi y) y hy hy2 (by omega) (by omega)
  have ho1 := refOddC (Nm.divZ (a - To.fi x) x)
  have ho2 := refOddC (Nm.divZ (b - To.fi y) y)
  rw [hj] at ho2
  clear hj
  rw [hi] at ho1
  clear hi
  have hw := refWhich6 4607182418800017408 0 false 0 0 (part_may 0 (by decide)).1
  obtain ⟨W1, hW1, sz1, g1, B1⟩ := boxn w #[.int .u8 4, .int .i64 x, .int .i64 y, .int .u8 t, .int .i64 z] 23
  obtain ⟨W2, hW2, sz2, g2, B2⟩ := boxn W1 #[.int .i64 a, .int .i64 b] 25
  have G2 := gb_trans g1 g2
  have B1x := B1.kept g2 (by simp)
  have b1_2_0 := B1x.cell 0 (v := .int .u8 4) rfl
  have b1_2_1 := B1x.cell 1 (v := .int .i64 x) rfl
  have b1_2_2 := B1x.cell 2 (v := .int .i64 y) rfl
  have b1_2_3 := B1x.cell 3 (v := .int .u8 t) rfl
  have b1_2_4 := B1x.cell 4 (v := .int .i64 z) rfl
  have b2_2_0 := B2.cell 0 (v := .int .i64 a) rfl
  have b2_2_1 := B2.cell 1 (v := .int .i64 b) rfl
  go_enter Try.func13, Try.ntmps13
  go_wp2_with (first | (go_at_call 11; (fail_if_success (guard_hyp g3)); refine (hc _).mono ?_; rintro e w3 ⟨rfl, g3⟩; have G3 := gb_trans G2 g3; have B1xx := B1x.kept g3 (by simp); have B2x := B2.kept g3 (by simp); obtain ⟨W4, hW4, sz4, g4, B4⟩ := boxn w3 #[.int .i64 X, .int .i64 Y] 25; have G4 := gb_trans G3 g4; have B1xxx := B1xx.kept g4 (by simp); have B2xx := B2x.kept g4 (by simp); have sm4_0 := Bo.same B4 0 (v := .int .i64 X) rfl; have sm4_1 := Bo.same B4 1 (v := .int .i64 Y) rfl; have fz4_0 := B4.frozen 0; have fz4_1 := B4.frozen 1; clear b1_2_0 b1_2_1 b1_2_2 b1_2_3 b1_2_4 b2_2_0 b2_2_1; have b1_4_0 := B1xxx.cell 0 (v := .int .u8 4) rfl; have b1_4_1 := B1xxx.cell 1 (v := .int .i64 x) rfl; have b1_4_2 := B1xxx.cell 2 (v := .int .i64 y) rfl; have b1_4_3 := B1xxx.cell 3 (v := .int .u8 t) rfl; have b1_4_4 := B1xxx.cell 4 (v := .int .i64 z) rfl; have b2_4_0 := B2xx.cell 0 (v := .int .i64 a) rfl; have b2_4_1 := B2xx.cell 1 (v := .int .i64 b) rfl; have b4_4_0 := B4.cell 0 (v := .int .i64 X) rfl; have b4_4_1 := B4.cell 1 (v := .int .i64 Y) rfl))
  go_region_held2 (fun w' => w'.cell? ⟨w.heap.size, 0, none⟩ = some (.int .u8 4) ∧ w'.cell? ⟨w.heap.size, 1, none⟩ = some (.int .i64 x) ∧ w'.cell? ⟨w.heap.size, 2, none⟩ = some (.int .i64 y) ∧ w'.cell? ⟨w.heap.size, 3, none⟩ = some (.int .u8 t) ∧ w'.cell? ⟨w.heap.size, 4, none⟩ = some (.int .i64 z) ∧ w'.cell? ⟨W1.heap.size, 0, none⟩ = some (.int .i64 a) ∧ w'.cell? ⟨W1.heap.size, 1, none⟩ = some (.int .i64 b) ∧ w'.cell? ⟨w3.heap.size, 0, none⟩ = some (.int .i64 X) ∧ w'.cell? ⟨w3.heap.size, 1, none⟩ = some (.int .i64 Y)) (go_keep) (first | (go_at_call 33; (fail_if_success (guard_hyp mfj)); refine (hf2 _).mono ?_; rintro e w' ⟨rfl, hw'⟩; subst w'; have mfj : True := trivial) | (go_at_call 38; (fail_if_success (guard_hyp mtj)); refine (ht2 _).mono ?_; rintro e w' ⟨rfl, hw'⟩; subst w'; have mtj : True := trivial) | (go_at_call 37; (fail_if_success (guard_hyp moj)); refine (ho2 _).mono ?_; rintro e w' ⟨rfl, hw'⟩; subst w'; have moj : True := trivial))
  have B1xxxd := B1xxx.dr
  have B2xxd := B2xx.dr
  have B4d := B4.dr
  have G4d := gb_drew G4
  clear b1_4_0 b1_4_1 b1_4_2 b1_4_3 b1_4_4 b2_4_0 b2_4_1 b4_4_0 b4_4_1
  have b1_5_0 := B1xxxd.cell 0 (v := .int .u8 4) rfl
  have b1_5_1 := B1xxxd.cell 1 (v := .int .i64 x) rfl
  have b1_5_2 := B1xxxd.cell 2 (v := .int .i64 y) rfl
  have b1_5_3 := B1xxxd.cell 3 (v := .int .u8 t) rfl
  have b1_5_4 := B1xxxd.cell 4 (v := .int .i64 z) rfl
  have b2_5_0 := B2xxd.cell 0 (v := .int .i64 a) rfl
  have b2_5_1 := B2xxd.cell 1 (v := .int .i64 b) rfl
  have b4_5_0 := B4d.cell 0 (v := .int .i64 X) rfl
  have b4_5_1 := B4d.cell 1 (v := .int .i64 Y) rfl
  go_wp2
  go_region_held2 (fun w' => w'.cell? ⟨w.heap.size, 0, none⟩ = some (.int .u8 4) ∧ w'.cell? ⟨w.heap.size, 1, none⟩ = some (.int .i64 x) ∧ w'.cell? ⟨w.heap.size, 2, none⟩ = some (.int .i64 y) ∧ w'.cell? ⟨w.heap.size, 3, none⟩ = some (.int .u8 t) ∧ w'.cell? ⟨w.heap.size, 4, none⟩ = some (.int .i64 z) ∧ w'.cell? ⟨W1.heap.size, 0, none⟩ = some (.int .i64 a) ∧ w'.cell? ⟨W1.heap.size, 1, none⟩ = some (.int .i64 b) ∧ w'.cell? ⟨w3.heap.size, 0, none⟩ = some (.int .i64 X) ∧ w'.cell? ⟨w3.heap.size, 1, none⟩ = some (.int .i64 Y)) (go_keep) (first | (go_at_call 33; (fail_if_success (guard_hyp mfi)); refine (hf1 _).mono ?_; rintro e w' ⟨rfl, hw'⟩; subst w'; have mfi : True := trivial) | (go_at_call 38; (fail_if_success (guard_hyp mti)); refine (ht1 _).mono ?_; rintro e w' ⟨rfl, hw'⟩; subst w'; have mti : True := trivial) | (go_at_call 37; (fail_if_success (guard_hyp moi)); refine (ho1 _).mono ?_; rintro e w' ⟨rfl, hw'⟩; subst w'; have moi : True := trivial))
  have B1xxxdd := B1xxxd.dr
  have B2xxdd := B2xxd.dr
  have B4dd := B4d.dr
  have G4dd := gb_drew G4d
  clear b1_5_0 b1_5_1 b1_5_2 b1_5_3 b1_5_4 b2_5_0 b2_5_1 b4_5_0 b4_5_1
  have b1_6_0 := B1xxxdd.cell 0 (v := .int .u8 4) rfl
  have b1_6_1 := B1xxxdd.cell 1 (v := .int .i64 x) rfl
  have b1_6_2 := B1xxxdd.cell 2 (v := .int .i64 y) rfl
  have b1_6_3 := B1xxxdd.cell 3 (v := .int .u8 t) rfl
  have b1_6_4 := B1xxxdd.cell 4 (v := .int .i64 z) rfl
  have b2_6_0 := B2xxdd.cell 0 (v := .int .i64 a) rfl
  have b2_6_1 := B2xxdd.cell 1 (v := .int .i64 b) rfl
  have b4_6_0 := B4dd.cell 0 (v := .int .i64 X) rfl
  have b4_6_1 := B4dd.cell 1 (v := .int .i64 Y) rfl
  go_wp2_with (first | (go_at_call 39; refine (hw _).mono ?_; rintro e wz ⟨rfl, gz⟩))
  go_ret2
  exact ⟨rfl, gb_trans (gb_alloc G4dd _) gz⟩

set_option maxHeartbeats 1000000 in
theorem rpX (k x y t z a b E : Int) (hE : (E == 0) = false) (hc : ∀ w, Calls Try.prog 11 #[.agg #[.int .u8 k, .int .i64 x, .int .i64 y, .int .u8 t, .int .i64 z], .agg #[.int .i64 a, .int .i64 b]] w fun e w' => e = .returned (.tuple #[.agg #[.int .i64 0, .int .i64 0], .int .i64 E]) ∧ w.grownBy w' none) (w : World) : Calls Try.prog 13 #[.agg #[.int .u8 k, .int .i64 x, .int .i64 y, .int .u8 t, .int .i64 z], .agg #[.int .i64 a, .int .i64 b]] w fun e w' => e = .returned (.tuple #[.int .i64 0, .int .i64 E]) ∧ w.grownBy w' none := by
  obtain ⟨W1, hW1, sz1, g1, B1⟩ := boxn w #[.int .u8 k, .int .i64 x, .int .i64 y, .int .u8 t, .int .i64 z] 23
  obtain ⟨W2, hW2, sz2, g2, B2⟩ := boxn W1 #[.int .i64 a, .int .i64 b] 25
  have G2 := gb_trans g1 g2
  have B1x := B1.kept g2 (by simp)
  have b1_2_0 := B1x.cell 0 (v := .int .u8 k) rfl
  have b1_2_1 := B1x.cell 1 (v := .int .i64 x) rfl
  have b1_2_2 := B1x.cell 2 (v := .int .i64 y) rfl
  have b1_2_3 := B1x.cell 3 (v := .int .u8 t) rfl
  have b1_2_4 := B1x.cell 4 (v := .int .i64 z) rfl
  have b2_2_0 := B2.cell 0 (v := .int .i64 a) rfl
  have b2_2_1 := B2.cell 1 (v := .int .i64 b) rfl
  go_enter Try.func13, Try.ntmps13
  go_wp2_with (first | (go_at_call 11; (fail_if_success (guard_hyp g3)); refine (hc _).mono ?_; rintro e w3 ⟨rfl, g3⟩; have G3 := gb_trans G2 g3; have B1xx := B1x.kept g3 (by simp); have B2x := B2.kept g3 (by simp); obtain ⟨W4, hW4, sz4, g4, B4⟩ := boxn w3 #[.int .i64 0, .int .i64 0] 25; have G4 := gb_trans G3 g4; have B1xxx := B1xx.kept g4 (by simp); have B2xx := B2x.kept g4 (by simp); have sm4_0 := Bo.same B4 0 (v := .int .i64 0) rfl; have sm4_1 := Bo.same B4 1 (v := .int .i64 0) rfl; have fz4_0 := B4.frozen 0; have fz4_1 := B4.frozen 1; clear b1_2_0 b1_2_1 b1_2_2 b1_2_3 b1_2_4 b2_2_0 b2_2_1; have b1_4_0 := B1xxx.cell 0 (v := .int .u8 k) rfl; have b1_4_1 := B1xxx.cell 1 (v := .int .i64 x) rfl; have b1_4_2 := B1xxx.cell 2 (v := .int .i64 y) rfl; have b1_4_3 := B1xxx.cell 3 (v := .int .u8 t) rfl; have b1_4_4 := B1xxx.cell 4 (v := .int .i64 z) rfl; have b2_4_0 := B2xx.cell 0 (v := .int .i64 a) rfl; have b2_4_1 := B2xx.cell 1 (v := .int .i64 b) rfl; have b4_4_0 := B4.cell 0 (v := .int .i64 0) rfl; have b4_4_1 := B4.cell 1 (v := .int .i64 0) rfl))
  go_ret2
  exact ⟨rfl, G4⟩
theorem refPartC (k x y t z a b : Int) (ht : 0 ≤ t) (w : World) : Calls Try.prog 13 #[.agg #[.int .u8 k, .int .i64 x, .int .i64 y, .int .u8 t, .int .i64 z], .agg #[.int .i64 a, .int .i64 b]] w fun e w' => e = .returned (.tuple #[.int .i64 (paV k x y t z a b), .int .i64 (ceE k x y t z a b)]) ∧ w.grownBy w' none := by
  have hc := fun w => refCellC k x y t z a b ht w
  by_cases e1 : ceE k x y t z a b = 0
  · have h : Tp.chk k x y t z = 0 := by
      apply Classical.byContradiction
      intro q
      unfold ceE at e1
      rw [if_neg q] at e1
      cases e1
    have ok := Tp.ok_of h
    have hf : (To.frB a || To.frB b) = false := by
      cases hf : (To.frB a || To.frB b)
      · rfl
      · unfold ceE at e1
        rw [if_pos h, if_pos hf] at e1
        cases e1
    have h1 := Bool.or_eq_false_iff.1 hf
    have ba := fr_bd h1.1
    have bb := fr_bd h1.2
    have hk := ok.kind
    have hx := ok.wide
    have hy := ok.high
    have htt := ok.turn
    rw [ce_yes e1, e1] at hc
    have e2 : paV k x y t z a b = ((Fo.pt k t (Nm.divZ (a - To.fi x) x) (Nm.divZ (b - To.fi y) y) : Nat) : Int) := by unfold paV; rw [if_pos e1]
    rw [e2, e1]
    by_cases k4 : k = 4
    · subst k4
      have q : Fo.pt 4 t (Nm.divZ (a - To.fi x) x) (Nm.divZ (b - To.fi y) y) = prt 4 6 (Nm.divZ (a - To.fi x) x) (Nm.divZ (b - To.fi y) y) := (prt_pt 4 t _ _ 4 6 (by rw [if_pos (by omega)]) (by rw [if_pos (by omega)])).symm
      rw [q]
      unfold prt
      cases hj : odB (Nm.divZ (b - To.fi y) y) <;> cases hi : odB (Nm.divZ (a - To.fi x) x)
      · exact rp4ff x y t z a b _ _ hj hi hx.1 hx.2 hy.1 hy.2 ba.1 ba.2 bb.1 bb.2 hc w
      · exact rp4ft x y t z a b _ _ hj hi hx.1 hx.2 hy.1 hy.2 ba.1 ba.2 bb.1 bb.2 hc w
      · exact rp4tf x y t z a b _ _ hj hi hx.1 hx.2 hy.1 hy.2 ba.1 ba.2 bb.1 bb.2 hc w
      · exact rp4tt x y t z a b _ _ hj hi hx.1 hx.2 hy.1 hy.2 ba.1 ba.2 bb.1 bb.2 hc w
    · by_cases k3 : k = 3
      · subst k3
        have hne : t ≠ 0 := fun e => ok.flips e rfl
        obtain rfl | rfl : t = 1 ∨ t = 2 := by omega
        · have q : Fo.pt 3 1 (Nm.divZ (a - To.fi x) x) (Nm.divZ (b - To.fi y) y) = prt 0 6 (Nm.divZ (a - To.fi x) x) (Nm.divZ (b - To.fi y) y) := (prt_pt 3 1 _ _ 0 6 (by decide) (by decide)).symm
          rw [q]
          unfold prt
          cases hj : odB (Nm.divZ (b - To.fi y) y) <;> cases hi : odB (Nm.divZ (a - To.fi x) x)
          · exact rp31f x y z a b _ _ hj hx.1 hx.2 hy.1 hy.2 ba.1 ba.2 bb.1 bb.2 hc w
          · exact rp31f x y z a b _ _ hj hx.1 hx.2 hy.1 hy.2 ba.1 ba.2 bb.1 bb.2 hc w
          · exact rp31t x y z a b _ _ hj hx.1 hx.2 hy.1 hy.2 ba.1 ba.2 bb.1 bb.2 hc w
          · exact rp31t x y z a b _ _ hj hx.1 hx.2 hy.1 hy.2 ba.1 ba.2 bb.1 bb.2 hc w
        · have q : Fo.pt 3 2 (Nm.divZ (a - To.fi x) x) (Nm.divZ (b - To.fi y) y) = prt 4 0 (Nm.divZ (a - To.fi x) x) (Nm.divZ (b - To.fi y) y) := (prt_pt 3 2 _ _ 4 0 (by decide) (by decide)).symm
          rw [q]
          unfold prt
          cases hj : odB (Nm.divZ (b - To.fi y) y) <;> cases hi : odB (Nm.divZ (a - To.fi x) x)
          · exact rp32f x y z a b _ _ hi hx.1 hx.2 hy.1 hy.2 ba.1 ba.2 bb.1 bb.2 hc w
          · exact rp32t x y z a b _ _ hi hx.1 hx.2 hy.1 hy.2 ba.1 ba.2 bb.1 bb.2 hc w
          · exact rp32f x y z a b _ _ hi hx.1 hx.2 hy.1 hy.2 ba.1 ba.2 bb.1 bb.2 hc w
          · exact rp32t x y z a b _ _ hi hx.1 hx.2 hy.1 hy.2 ba.1 ba.2 bb.1 bb.2 hc w
      · have q : Fo.pt k t (Nm.divZ (a - To.fi x) x) (Nm.divZ (b - To.fi y) y) = prt 0 0 (Nm.divZ (a - To.fi x) x) (Nm.divZ (b - To.fi y) y) := (prt_pt k t _ _ 0 0 (by rw [if_neg (by omega)]) (by rw [if_neg (by omega)])).symm
        have q2 : prt 0 0 (Nm.divZ (a - To.fi x) x) (Nm.divZ (b - To.fi y) y) = 0 := by unfold prt; split <;> split <;> decide
        rw [q, q2]
        exact rp0 k x y t z a b _ _ (by simpa using k3) (by simpa using k4) hx.1 hx.2 hy.1 hy.2 ba.1 ba.2 bb.1 bb.2 hc w
  · have e2 : paV k x y t z a b = 0 := by unfold paV; rw [if_neg e1]
    rw [ce_zero e1] at hc
    rw [e2]
    exact rpX k x y t z a b _ (by simpa using e1) hc w
end Go.Proofs.Ytgiiaokkmnjckaa
