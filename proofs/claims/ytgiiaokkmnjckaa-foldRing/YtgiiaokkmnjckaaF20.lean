/- What the document's Ring answers. -/
import Derived.Test.YtgiiaokkmnjckaaF18
namespace Go.Proofs.Ytgiiaokkmnjckaa
open Go.RowKit
open Fl
set_option linter.unusedVariables false
set_option linter.unusedSimpArgs false
set_option maxRecDepth 100000

theorem ret_ii {a b c d : Int} (h : a = b) (h2 : c = d) : Ending.returned (.tuple #[.int .i64 a, .int .i64 c]) = .returned (.tuple #[.int .i64 b, .int .i64 d]) := by rw [h, h2]
set_option maxHeartbeats 600000 in
theorem ballC (n u v : Int) (h0 : 1 ≤ n) (h1 : n ≤ 65536) (u0 : -1 ≤ u) (u1 : u ≤ n) (v0 : -1 ≤ v) (v1 : v ≤ n) (hn : u = -1 ∨ u = n ∨ v = -1 ∨ v = n) (w : World) : Calls Try.prog 43 #[.int .i64 n, .int .i64 u, .int .i64 v] w fun e w' => e = .returned (.tuple #[.int .i64 (Nm.nearZ v 0 (n - 1)), .int .i64 (Nm.nearZ u 0 (n - 1))]) ∧ w' = w := by
  have HN : Hid (u = -1 ∨ u = n ∨ v = -1 ∨ v = n) := hn
  clear hn
  go_enter Try.func43, Try.ntmps43
  go_wp2
  all_goals go_ret2
  all_goals have hn := HN.out
  all_goals simp only [beq_iff_eq, beq_eq_false_iff_ne, ne_eq, Bool.and_eq_true, Bool.and_eq_false_iff, decide_eq_true_eq] at *
  all_goals refine ⟨ret_ii ?_ ?_, trivial⟩
  all_goals unfold Nm.nearZ
  all_goals repeat' split
  all_goals omega
theorem in_to (u l : Int) : inB u l 1 = toB u l := by
  unfold inB toB
  by_cases h : l = 0
  · simp [h]
  · rw [decide_eq_false h]
    congr 1
    congr 1
    exact decide_eq_decide.2 (by omega)

set_option maxHeartbeats 600000 in
theorem rrX (k x y t z a b E : Int) (hE : (E == 0) = false) (hr : ∀ w, Calls Try.prog 30 #[.agg #[.int .u8 k, .int .i64 x, .int .i64 y, .int .u8 t, .int .i64 z], .agg #[.int .i64 a, .int .i64 b]] w fun e w' => e = .returned (.int .i64 E) ∧ w.grownBy w' none) (w : World) : Calls Try.prog 15 #[.agg #[.int .u8 k, .int .i64 x, .int .i64 y, .int .u8 t, .int .i64 z], .agg #[.int .i64 a, .int .i64 b]] w fun e w' => e = .returned (.tuple #[.agg #[.int .i64 0, .int .i64 0], .bool false, .int .i64 E]) ∧ w.grownBy w' none := by
  obtain ⟨fs, hfs⟩ := underP
  obtain ⟨W1, hW1, sz1, g1, B1⟩ := boxn w #[.int .u8 k, .int .i64 x, .int .i64 y, .int .u8 t, .int .i64 z] 23
  obtain ⟨W2, hW2, sz2, g2, B2⟩ := boxn W1 #[.int .i64 a, .int .i64 b] 25
  have G2 := gb_trans g1 g2
  have B1x := B1.kept g2 (by simp)
  obtain ⟨W3, hW3, sz3, g3, B3⟩ := boxn W2 #[.int .i64 0, .int .i64 0] 25
  have G3 := gb_trans G2 g3
  have B1xx := B1x.kept g3 (by simp)
  have B2x := B2.kept g3 (by simp)
  have b1_3_0 := B1xx.cell 0 (v := .int .u8 k) rfl
  have b1_3_1 := B1xx.cell 1 (v := .int .i64 x) rfl
  have b1_3_2 := B1xx.cell 2 (v := .int .i64 y) rfl
  have b1_3_3 := B1xx.cell 3 (v := .int .u8 t) rfl
  have b1_3_4 := B1xx.cell 4 (v := .int .i64 z) rfl
  have b2_3_0 := B2x.cell 0 (v := .int .i64 a) rfl
  have b2_3_1 := B2x.cell 1 (v := .int .i64 b) rfl
  have b3_3_0 := B3.cell 0 (v := .int .i64 0) rfl
  have b3_3_1 := B3.cell 1 (v := .int .i64 0) rfl
  have zb3_3_0 := B3.frozen 0
  have zb3_3_1 := B3.frozen 1
  go_enter Try.func15, Try.ntmps15
  go_wp2_with (first | (go_at_call 30; (fail_if_success (guard_hyp g4)); refine (hr _).mono ?_; rintro e w4 ⟨rfl, g4⟩; have G4 := gb_trans G3 g4; have B1xxx := B1xx.kept g4 (by simp); have B2xx := B2x.kept g4 (by simp); have B3x := B3.kept g4 (by simp); clear b1_3_0 b1_3_1 b1_3_2 b1_3_3 b1_3_4 b2_3_0 b2_3_1 b3_3_0 b3_3_1 zb3_3_0 zb3_3_1; have b1_4_0 := B1xxx.cell 0 (v := .int .u8 k) rfl; have b1_4_1 := B1xxx.cell 1 (v := .int .i64 x) rfl; have b1_4_2 := B1xxx.cell 2 (v := .int .i64 y) rfl; have b1_4_3 := B1xxx.cell 3 (v := .int .u8 t) rfl; have b1_4_4 := B1xxx.cell 4 (v := .int .i64 z) rfl; have b2_4_0 := B2xx.cell 0 (v := .int .i64 a) rfl; have b2_4_1 := B2xx.cell 1 (v := .int .i64 b) rfl; have b3_4_0 := B3x.cell 0 (v := .int .i64 0) rfl; have b3_4_1 := B3x.cell 1 (v := .int .i64 0) rfl; have zb3_4_0 := B3x.frozen 0; have zb3_4_1 := B3x.frozen 1))
  refine ret_c3 (g := W2.heap.size) (cs := #[.int .i64 0, .int .i64 0]) rfl hfs infoP rfl (bo2 B3x) rfl ⟨rfl, gb2 G4 G2.size⟩

set_option maxHeartbeats 600000 in
theorem rrN1 (k x y t z a b : Int) (hx : 0 ≤ x) (hx2 : x ≤ 65536) (hy : 0 ≤ y) (hy2 : y ≤ 65536) (ha : -1099511627776 ≤ a) (ha2 : a ≤ 1099511627776) (hb : -1099511627776 ≤ b) (hb2 : b ≤ 1099511627776) (hr : ∀ w, Calls Try.prog 30 #[.agg #[.int .u8 k, .int .i64 x, .int .i64 y, .int .u8 t, .int .i64 z], .agg #[.int .i64 a, .int .i64 b]] w fun e w' => e = .returned (.int .i64 0) ∧ w.grownBy w' none) (h1 : toB (a - To.fi x) x = false) (w : World) : Calls Try.prog 15 #[.agg #[.int .u8 k, .int .i64 x, .int .i64 y, .int .u8 t, .int .i64 z], .agg #[.int .i64 a, .int .i64 b]] w fun e w' => e = .returned (.tuple #[.agg #[.int .i64 0, .int .i64 0], .bool false, .int .i64 60]) ∧ w.grownBy w' none := by
  obtain ⟨fs, hfs⟩ := underP
  have bx := fi_bd ⟨hx, hx2⟩
  have by' := fi_bd ⟨hy, hy2⟩
  obtain ⟨bx1, bx2⟩ := bx
  obtain ⟨by1, by2⟩ := by'
  have hf1 := refFirstC x hx hx2
  have hf2 := refFirstC y hy hy2
  have wu : IntKind.i64.wrap (a - To.fi x) = (a - To.fi x) := by rw [IntKind.wrap_i64]; omega
  have wv : IntKind.i64.wrap (b - To.fi y) = (b - To.fi y) := by rw [IntKind.wrap_i64]; omega
  have hi1 := refInsideC (a - To.fi x) x 1 hx hx2 (by omega) (by omega)
  have hi2 := refInsideC (b - To.fi y) y 1 hy hy2 (by omega) (by omega)
  rw [in_to] at hi1 hi2
  rw [h1] at hi1
  clear h1
  obtain ⟨W1, hW1, sz1, g1, B1⟩ := boxn w #[.int .u8 k, .int .i64 x, .int .i64 y, .int .u8 t, .int .i64 z] 23
  obtain ⟨W2, hW2, sz2, g2, B2⟩ := boxn W1 #[.int .i64 a, .int .i64 b] 25
  have G2 := gb_trans g1 g2
  have B1x := B1.kept g2 (by simp)
  obtain ⟨W3, hW3, sz3, g3, B3⟩ := boxn W2 #[.int .i64 0, .int .i64 0] 25
  have G3 := gb_trans G2 g3
  have B1xx := B1x.kept g3 (by simp)
  have B2x := B2.kept g3 (by simp)
  have b1_3_0 := B1xx.cell 0 (v := .int .u8 k) rfl
  have b1_3_1 := B1xx.cell 1 (v := .int .i64 x) rfl
  have b1_3_2 := B1xx.cell 2 (v := .int .i64 y) rfl
  have b1_3_3 := B1xx.cell 3 (v := .int .u8 t) rfl
  have b1_3_4 := B1xx.cell 4 (v := .int .i64 z) rfl
  have b2_3_0 := B2x.cell 0 (v := .int .i64 a) rfl
  have b2_3_1 := B2x.cell 1 (v := .int .i64 b) rfl
  have b3_3_0 := B3.cell 0 (v := .int .i64 0) rfl
  have b3_3_1 := B3.cell 1 (v := .int .i64 0) rfl
  have zb3_3_0 := B3.frozen 0
  have zb3_3_1 := B3.frozen 1
  go_enter Try.func15, Try.ntmps15
  go_wp2_with (first | (go_at_call 30; (fail_if_success (guard_hyp g4)); refine (hr _).mono ?_; rintro e w4 ⟨rfl, g4⟩; have G4 := gb_trans G3 g4; have B1xxx := B1xx.kept g4 (by simp); have B2xx := B2x.kept g4 (by simp); have B3x := B3.kept g4 (by simp); clear b1_3_0 b1_3_1 b1_3_2 b1_3_3 b1_3_4 b2_3_0 b2_3_1 b3_3_0 b3_3_1 zb3_3_0 zb3_3_1; have b1_4_0 := B1xxx.cell 0 (v := .int .u8 k) rfl; have b1_4_1 := B1xxx.cell 1 (v := .int .i64 x) rfl; have b1_4_2 := B1xxx.cell 2 (v := .int .i64 y) rfl; have b1_4_3 := B1xxx.cell 3 (v := .int .u8 t) rfl; have b1_4_4 := B1xxx.cell 4 (v := .int .i64 z) rfl; have b2_4_0 := B2xx.cell 0 (v := .int .i64 a) rfl; have b2_4_1 := B2xx.cell 1 (v := .int .i64 b) rfl; have b3_4_0 := B3x.cell 0 (v := .int .i64 0) rfl; have b3_4_1 := B3x.cell 1 (v := .int .i64 0) rfl; have zb3_4_0 := B3x.frozen 0; have zb3_4_1 := B3x.frozen 1))
  go_region_held2 (fun w' => w'.cell? ⟨w.heap.size, 0, none⟩ = some (.int .u8 k) ∧ w'.cell? ⟨w.heap.size, 1, none⟩ = some (.int .i64 x) ∧ w'.cell? ⟨w.heap.size, 2, none⟩ = some (.int .i64 y) ∧ w'.cell? ⟨w.heap.size, 3, none⟩ = some (.int .u8 t) ∧ w'.cell? ⟨w.heap.size, 4, none⟩ = some (.int .i64 z) ∧ w'.cell? ⟨W1.heap.size, 0, none⟩ = some (.int .i64 a) ∧ w'.cell? ⟨W1.heap.size, 1, none⟩ = some (.int .i64 b)) (go_keep) (first | (go_at_call 33; (fail_if_success (guard_hyp mf1)); refine (hf1 _).mono ?_; rintro e w' ⟨rfl, hw'⟩; subst w'; have mf1 : True := trivial))
  have B1xxxd := B1xxx.dr
  have B2xxd := B2xx.dr
  have B3xd := B3x.dr
  have G4d := gb_drew G4
  clear b1_4_0 b1_4_1 b1_4_2 b1_4_3 b1_4_4 b2_4_0 b2_4_1 b3_4_0 b3_4_1 zb3_4_0 zb3_4_1
  have b1_5_0 := B1xxxd.cell 0 (v := .int .u8 k) rfl
  have b1_5_1 := B1xxxd.cell 1 (v := .int .i64 x) rfl
  have b1_5_2 := B1xxxd.cell 2 (v := .int .i64 y) rfl
  have b1_5_3 := B1xxxd.cell 3 (v := .int .u8 t) rfl
  have b1_5_4 := B1xxxd.cell 4 (v := .int .i64 z) rfl
  have b2_5_0 := B2xxd.cell 0 (v := .int .i64 a) rfl
  have b2_5_1 := B2xxd.cell 1 (v := .int .i64 b) rfl
  have b3_5_0 := B3xd.cell 0 (v := .int .i64 0) rfl
  have b3_5_1 := B3xd.cell 1 (v := .int .i64 0) rfl
  have zb3_5_0 := B3xd.frozen 0
  have zb3_5_1 := B3xd.frozen 1
  go_wp2
  go_region_held2 (fun w' => w'.cell? ⟨w.heap.size, 0, none⟩ = some (.int .u8 k) ∧ w'.cell? ⟨w.heap.size, 1, none⟩ = some (.int .i64 x) ∧ w'.cell? ⟨w.heap.size, 2, none⟩ = some (.int .i64 y) ∧ w'.cell? ⟨w.heap.size, 3, none⟩ = some (.int .u8 t) ∧ w'.cell? ⟨w.heap.size, 4, none⟩ = some (.int .i64 z) ∧ w'.cell? ⟨W1.heap.size, 0, none⟩ = some (.int .i64 a) ∧ w'.cell? ⟨W1.heap.size, 1, none⟩ = some (.int .i64 b)) (go_keep) (first | (go_at_call 33; (fail_if_success (guard_hyp mf2)); refine (hf2 _).mono ?_; rintro e w' ⟨rfl, hw'⟩; subst w'; have mf2 : True := trivial))
  have B1xxxdd := B1xxxd.dr
  have B2xxdd := B2xxd.dr
  have B3xdd := B3xd.dr
  have G4dd := gb_drew G4d
  clear b1_5_0 b1_5_1 b1_5_2 b1_5_3 b1_5_4 b2_5_0 b2_5_1 b3_5_0 b3_5_1 zb3_5_0 zb3_5_1
  have b1_6_0 := B1xxxdd.cell 0 (v := .int .u8 k) rfl
  have b1_6_1 := B1xxxdd.cell 1 (v := .int .i64 x) rfl
  have b1_6_2 := B1xxxdd.cell 2 (v := .int .i64 y) rfl
  have b1_6_3 := B1xxxdd.cell 3 (v := .int .u8 t) rfl
  have b1_6_4 := B1xxxdd.cell 4 (v := .int .i64 z) rfl
  have b2_6_0 := B2xxdd.cell 0 (v := .int .i64 a) rfl
  have b2_6_1 := B2xxdd.cell 1 (v := .int .i64 b) rfl
  have b3_6_0 := B3xdd.cell 0 (v := .int .i64 0) rfl
  have b3_6_1 := B3xdd.cell 1 (v := .int .i64 0) rfl
  have zb3_6_0 := B3xdd.frozen 0
  have zb3_6_1 := B3xdd.frozen 1
  have zz0 := B3x.cell 0 (v := .int .i64 0) rfl
  have zz1 := B3x.cell 1 (v := .int .i64 0) rfl
  have zf0 := B3x.frozen 0
  have zf1 := B3x.frozen 1
  go_wp2_with (first | (go_at_call 42; (fail_if_success (guard_hyp mi1)); refine (hi1 _).mono ?_; rintro e w' ⟨rfl, hw'⟩; subst w'; have mi1 : True := trivial) | (go_at_call 42; (fail_if_success (guard_hyp mi2)); refine (hi2 _).mono ?_; rintro e w' ⟨rfl, hw'⟩; subst w'; have mi2 : True := trivial))
  refine ret_c3 (g := W2.heap.size) (cs := #[.int .i64 0, .int .i64 0]) rfl hfs infoP rfl (bo2 B3x).dr.dr rfl ⟨rfl, gb_drew (gb_drew (gb2 G4 G2.size))⟩

set_option maxHeartbeats 600000 in
theorem rrN2 (k x y t z a b : Int) (hx : 0 ≤ x) (hx2 : x ≤ 65536) (hy : 0 ≤ y) (hy2 : y ≤ 65536) (ha : -1099511627776 ≤ a) (ha2 : a ≤ 1099511627776) (hb : -1099511627776 ≤ b) (hb2 : b ≤ 1099511627776) (hr : ∀ w, Calls Try.prog 30 #[.agg #[.int .u8 k, .int .i64 x, .int .i64 y, .int .u8 t, .int .i64 z], .agg #[.int .i64 a, .int .i64 b]] w fun e w' => e = .returned (.int .i64 0) ∧ w.grownBy w' none) (h1 : toB (a - To.fi x) x = true) (h2 : toB (b - To.fi y) y = false) (w : World) : Calls Try.prog 15 #[.agg #[.int .u8 k, .int .i64 x, .int .i64 y, .int .u8 t, .int .i64 z], .agg #[.int .i64 a, .int .i64 b]] w fun e w' => e = .returned (.tuple #[.agg #[.int .i64 0, .int .i64 0], .bool false, .int .i64 60]) ∧ w.grownBy w' none := by
  obtain ⟨fs, hfs⟩ := underP
  have bx := fi_bd ⟨hx, hx2⟩
  have by' := fi_bd ⟨hy, hy2⟩
  obtain ⟨bx1, bx2⟩ := bx
  obtain ⟨by1, by2⟩ := by'
  have hf1 := refFirstC x hx hx2
  have hf2 := refFirstC y hy hy2
  have wu : IntKind.i64.wrap (a - To.fi x) = (a - To.fi x) := by rw [IntKind.wrap_i64]; omega
  have wv : IntKind.i64.wrap (b - To.fi y) = (b - To.fi y) := by rw [IntKind.wrap_i64]; omega
  have hi1 := refInsideC (a - To.fi x) x 1 hx hx2 (by omega) (by omega)
  have hi2 := refInsideC (b - To.fi y) y 1 hy hy2 (by omega) (by omega)
  rw [in_to] at hi1 hi2
  rw [h1] at hi1
  rw [h2] at hi2
  clear h1 h2
  obtain ⟨W1, hW1, sz1, g1, B1⟩ := boxn w #[.int .u8 k, .int .i64 x, .int .i64 y, .int .u8 t, .int .i64 z] 23
  obtain ⟨W2, hW2, sz2, g2, B2⟩ := boxn W1 #[.int .i64 a, .int .i64 b] 25
  have G2 := gb_trans g1 g2
  have B1x := B1.kept g2 (by simp)
  obtain ⟨W3, hW3, sz3, g3, B3⟩ := boxn W2 #[.int .i64 0, .int .i64 0] 25
  have G3 := gb_trans G2 g3
  have B1xx := B1x.kept g3 (by simp)
  have B2x := B2.kept g3 (by simp)
  have b1_3_0 := B1xx.cell 0 (v := .int .u8 k) rfl
  have b1_3_1 := B1xx.cell 1 (v := .int .i64 x) rfl
  have b1_3_2 := B1xx.cell 2 (v := .int .i64 y) rfl
  have b1_3_3 := B1xx.cell 3 (v := .int .u8 t) rfl
  have b1_3_4 := B1xx.cell 4 (v := .int .i64 z) rfl
  have b2_3_0 := B2x.cell 0 (v := .int .i64 a) rfl
  have b2_3_1 := B2x.cell 1 (v := .int .i64 b) rfl
  have b3_3_0 := B3.cell 0 (v := .int .i64 0) rfl
  have b3_3_1 := B3.cell 1 (v := .int .i64 0) rfl
  have zb3_3_0 := B3.frozen 0
  have zb3_3_1 := B3.frozen 1
  go_enter Try.func15, Try.ntmps15
  go_wp2_with (first | (go_at_call 30; (fail_if_success (guard_hyp g4)); refine (hr _).mono ?_; rintro e w4 ⟨rfl, g4⟩; have G4 := gb_trans G3 g4; have B1xxx := B1xx.kept g4 (by simp); have B2xx := B2x.kept g4 (by simp); have B3x := B3.kept g4 (by simp); clear b1_3_0 b1_3_1 b1_3_2 b1_3_3 b1_3_4 b2_3_0 b2_3_1 b3_3_0 b3_3_1 zb3_3_0 zb3_3_1; have b1_4_0 := B1xxx.cell 0 (v := .int .u8 k) rfl; have b1_4_1 := B1xxx.cell 1 (v := .int .i64 x) rfl; have b1_4_2 := B1xxx.cell 2 (v := .int .i64 y) rfl; have b1_4_3 := B1xxx.cell 3 (v := .int .u8 t) rfl; have b1_4_4 := B1xxx.cell 4 (v := .int .i64 z) rfl; have b2_4_0 := B2xx.cell 0 (v := .int .i64 a) rfl; have b2_4_1 := B2xx.cell 1 (v := .int .i64 b) rfl; have b3_4_0 := B3x.cell 0 (v := .int .i64 0) rfl; have b3_4_1 := B3x.cell 1 (v := .int .i64 0) rfl; have zb3_4_0 := B3x.frozen 0; have zb3_4_1 := B3x.frozen 1))
  go_region_held2 (fun w' => w'.cell? ⟨w.heap.size, 0, none⟩ = some (.int .u8 k) ∧ w'.cell? ⟨w.heap.size, 1, none⟩ = some (.int .i64 x) ∧ w'.cell? ⟨w.heap.size, 2, none⟩ = some (.int .i64 y) ∧ w'.cell? ⟨w.heap.size, 3, none⟩ = some (.int .u8 t) ∧ w'.cell? ⟨w.heap.size, 4, none⟩ = some (.int .i64 z) ∧ w'.cell? ⟨W1.heap.size, 0, none⟩ = some (.int .i64 a) ∧ w'.cell? ⟨W1.heap.size, 1, none⟩ = some (.int .i64 b)) (go_keep) (first | (go_at_call 33; (fail_if_success (guard_hyp mf1)); refine (hf1 _).mono ?_; rintro e w' ⟨rfl, hw'⟩; subst w'; have mf1 : True := trivial))
  have B1xxxd := B1xxx.dr
  have B2xxd := B2xx.dr
  have B3xd := B3x.dr
  have G4d := gb_drew G4
  clear b1_4_0 b1_4_1 b1_4_2 b1_4_3 b1_4_4 b2_4_0 b2_4_1 b3_4_0 b3_4_1 zb3_4_0 zb3_4_1
  have b1_5_0 := B1xxxd.cell 0 (v := .int .u8 k) rfl
  have b1_5_1 := B1xxxd.cell 1 (v := .int .i64 x) rfl
  have b1_5_2 := B1xxxd.cell 2 (v := .int .i64 y) rfl
  have b1_5_3 := B1xxxd.cell 3 (v := .int .u8 t) rfl
  have b1_5_4 := B1xxxd.cell 4 (v := .int .i64 z) rfl
  have b2_5_0 := B2xxd.cell 0 (v := .int .i64 a) rfl
  have b2_5_1 := B2xxd.cell 1 (v := .int .i64 b) rfl
  have b3_5_0 := B3xd.cell 0 (v := .int .i64 0) rfl
  have b3_5_1 := B3xd.cell 1 (v := .int .i64 0) rfl
  have zb3_5_0 := B3xd.frozen 0
  have zb3_5_1 := B3xd.frozen 1
  go_wp2
  go_region_held2 (fun w' => w'.cell? ⟨w.heap.size, 0, none⟩ = some (.int .u8 k) ∧ w'.cell? ⟨w.heap.size, 1, none⟩ = some (.int .i64 x) ∧ w'.cell? ⟨w.heap.size, 2, none⟩ = some (.int .i64 y) ∧ w'.cell? ⟨w.heap.size, 3, none⟩ = some (.int .u8 t) ∧ w'.cell? ⟨w.heap.size, 4, none⟩ = some (.int .i64 z) ∧ w'.cell? ⟨W1.heap.size, 0, none⟩ = some (.int .i64 a) ∧ w'.cell? ⟨W1.heap.size, 1, none⟩ = some (.int .i64 b)) (go_keep) (first | (go_at_call 33; (fail_if_success (guard_hyp mf2)); refine (hf2 _).mono ?_; rintro e w' ⟨rfl, hw'⟩; subst w'; have mf2 : True := trivial))
  have B1xxxdd := B1xxxd.dr
  have B2xxdd := B2xxd.dr
  have B3xdd := B3xd.dr
  have G4dd := gb_drew G4d
  clear b1_5_0 b1_5_1 b1_5_2 b1_5_3 b1_5_4 b2_5_0 b2_5_1 b3_5_0 b3_5_1 zb3_5_0 zb3_5_1
  have b1_6_0 := B1xxxdd.cell 0 (v := .int .u8 k) rfl
  have b1_6_1 := B1xxxdd.cell 1 (v := .int .i64 x) rfl
  have b1_6_2 := B1xxxdd.cell 2 (v := .int .i64 y) rfl
  have b1_6_3 := B1xxxdd.cell 3 (v := .int .u8 t) rfl
  have b1_6_4 := B1xxxdd.cell 4 (v := .int .i64 z) rfl
  have b2_6_0 := B2xxdd.cell 0 (v := .int .i64 a) rfl
  have b2_6_1 := B2xxdd.cell 1 (v := .int .i64 b) rfl
  have b3_6_0 := B3xdd.cell 0 (v := .int .i64 0) rfl
  have b3_6_1 := B3xdd.cell 1 (v := .int .i64 0) rfl
  have zb3_6_0 := B3xdd.frozen 0
  have zb3_6_1 := B3xdd.frozen 1
  have zz0 := B3x.cell 0 (v := .int .i64 0) rfl
  have zz1 := B3x.cell 1 (v := .int .i64 0) rfl
  have zf0 := B3x.frozen 0
  have zf1 := B3x.frozen 1
  go_wp2_with (first | (go_at_call 42; (fail_if_success (guard_hyp mi1)); refine (hi1 _).mono ?_; rintro e w' ⟨rfl, hw'⟩; subst w'; have mi1 : True := trivial) | (go_at_call 42; (fail_if_success (guard_hyp mi2)); refine (hi2 _).mono ?_; rintro e w' ⟨rfl, hw'⟩; subst w'; have mi2 : True := trivial))
  refine ret_c3 (g := W2.heap.size) (cs := #[.int .i64 0, .int .i64 0]) rfl hfs infoP rfl (bo2 B3x).dr.dr rfl ⟨rfl, gb_drew (gb_drew (gb2 G4 G2.size))⟩

set_option maxHeartbeats 600000 in
theorem rrIn (k x y t z a b : Int) (hx : 0 ≤ x) (hx2 : x ≤ 65536) (hy : 0 ≤ y) (hy2 : y ≤ 65536) (ha : -1099511627776 ≤ a) (ha2 : a ≤ 1099511627776) (hb : -1099511627776 ≤ b) (hb2 : b ≤ 1099511627776) (hr : ∀ w, Calls Try.prog 30 #[.agg #[.int .u8 k, .int .i64 x, .int .i64 y, .int .u8 t, .int .i64 z], .agg #[.int .i64 a, .int .i64 b]] w fun e w' => e = .returned (.int .i64 0) ∧ w.grownBy w' none) (h1 : toB (a - To.fi x) x = true) (h2 : toB (b - To.fi y) y = true) (hin : ∀ w, Calls Try.prog 34 #[.agg #[.int .u8 k, .int .i64 x, .int .i64 y, .int .u8 t, .int .i64 z], .agg #[.int .i64 a, .int .i64 b]] w fun e w' => e = .returned (.bool true) ∧ w.grownBy w' none) (w : World) : Calls Try.prog 15 #[.agg #[.int .u8 k, .int .i64 x, .int .i64 y, .int .u8 t, .int .i64 z], .agg #[.int .i64 a, .int .i64 b]] w fun e w' => e = .returned (.tuple #[.agg #[.int .i64 a, .int .i64 b], .bool true, .int .i64 0]) ∧ w.grownBy w' none := by
  obtain ⟨fs, hfs⟩ := underP
  have bx := fi_bd ⟨hx, hx2⟩
  have by' := fi_bd ⟨hy, hy2⟩
  obtain ⟨bx1, bx2⟩ := bx
  obtain ⟨by1, by2⟩ := by'
  have hf1 := refFirstC x hx hx2
  have hf2 := refFirstC y hy hy2
  have wu : IntKind.i64.wrap (a - To.fi x) = (a - To.fi x) := by rw [IntKind.wrap_i64]; omega
  have wv : IntKind.i64.wrap (b - To.fi y) = (b - To.fi y) := by rw [IntKind.wrap_i64]; omega
  have hi1 := refInsideC (a - To.fi x) x 1 hx hx2 (by omega) (by omega)
  have hi2 := refInsideC (b - To.fi y) y 1 hy hy2 (by omega) (by omega)
  rw [in_to] at hi1 hi2
  rw [h1] at hi1
  rw [h2] at hi2
  clear h1 h2
  obtain ⟨W1, hW1, sz1, g1, B1⟩ := boxn w #[.int .u8 k, .int .i64 x, .int .i64 y, .int .u8 t, .int .i64 z] 23
  obtain ⟨W2, hW2, sz2, g2, B2⟩ := boxn W1 #[.int .i64 a, .int .i64 b] 25
  have G2 := gb_trans g1 g2
  have B1x := B1.kept g2 (by simp)
  obtain ⟨W3, hW3, sz3, g3, B3⟩ := boxn W2 #[.int .i64 0, .int .i64 0] 25
  have G3 := gb_trans G2 g3
  have B1xx := B1x.kept g3 (by simp)
  have B2x := B2.kept g3 (by simp)
  have b1_3_0 := B1xx.cell 0 (v := .int .u8 k) rfl
  have b1_3_1 := B1xx.cell 1 (v := .int .i64 x) rfl
  have b1_3_2 := B1xx.cell 2 (v := .int .i64 y) rfl
  have b1_3_3 := B1xx.cell 3 (v := .int .u8 t) rfl
  have b1_3_4 := B1xx.cell 4 (v := .int .i64 z) rfl
  have b2_3_0 := B2x.cell 0 (v := .int .i64 a) rfl
  have b2_3_1 := B2x.cell 1 (v := .int .i64 b) rfl
  have b3_3_0 := B3.cell 0 (v := .int .i64 0) rfl
  have b3_3_1 := B3.cell 1 (v := .int .i64 0) rfl
  have zb3_3_0 := B3.frozen 0
  have zb3_3_1 := B3.frozen 1
  go_enter Try.func15, Try.ntmps15
  go_wp2_with (first | (go_at_call 30; (fail_if_success (guard_hyp g4)); refine (hr _).mono ?_; rintro e w4 ⟨rfl, g4⟩; have G4 := gb_trans G3 g4; have B1xxx := B1xx.kept g4 (by simp); have B2xx := B2x.kept g4 (by simp); have B3x := B3.kept g4 (by simp); clear b1_3_0 b1_3_1 b1_3_2 b1_3_3 b1_3_4 b2_3_0 b2_3_1 b3_3_0 b3_3_1 zb3_3_0 zb3_3_1; have b1_4_0 := B1xxx.cell 0 (v := .int .u8 k) rfl; have b1_4_1 := B1xxx.cell 1 (v := .int .i64 x) rfl; have b1_4_2 := B1xxx.cell 2 (v := .int .i64 y) rfl; have b1_4_3 := B1xxx.cell 3 (v := .int .u8 t) rfl; have b1_4_4 := B1xxx.cell 4 (v := .int .i64 z) rfl; have b2_4_0 := B2xx.cell 0 (v := .int .i64 a) rfl; have b2_4_1 := B2xx.cell 1 (v := .int .i64 b) rfl; have b3_4_0 := B3x.cell 0 (v := .int .i64 0) rfl; have b3_4_1 := B3x.cell 1 (v := .int .i64 0) rfl; have zb3_4_0 := B3x.frozen 0; have zb3_4_1 := B3x.frozen 1))
  go_region_held2 (fun w' => w'.cell? ⟨w.heap.size, 0, none⟩ = some (.int .u8 k) ∧ w'.cell? ⟨w.heap.size, 1, none⟩ = some (.int .i64 x) ∧ w'.cell? ⟨w.heap.size, 2, none⟩ = some (.int .i64 y) ∧ w'.cell? ⟨w.heap.size, 3, none⟩ = some (.int .u8 t) ∧ w'.cell? ⟨w.heap.size, 4, none⟩ = some (.int .i64 z) ∧ w'.cell? ⟨W1.heap.size, 0, none⟩ = some (.int .i64 a) ∧ w'.cell? ⟨W1.heap.size, 1, none⟩ = some (.int .i64 b)) (go_keep) (first | (go_at_call 33; (fail_if_success (guard_hyp mf1)); refine (hf1 _).mono ?_; rintro e w' ⟨rfl, hw'⟩; subst w'; have mf1 : True := trivial))
  have B1xxxd := B1xxx.dr
  have B2xxd := B2xx.dr
  have B3xd := B3x.dr
  have G4d := gb_drew G4
  clear b1_4_0 b1_4_1 b1_4_2 b1_4_3 b1_4_4 b2_4_0 b2_4_1 b3_4_0 b3_4_1 zb3_4_0 zb3_4_1
  have b1_5_0 := B1xxxd.cell 0 (v := .int .u8 k) rfl
  have b1_5_1 := B1xxxd.cell 1 (v := .int .i64 x) rfl
  have b1_5_2 := B1xxxd.cell 2 (v := .int .i64 y) rfl
  have b1_5_3 := B1xxxd.cell 3 (v := .int .u8 t) rfl
  have b1_5_4 := B1xxxd.cell 4 (v := .int .i64 z) rfl
  have b2_5_0 := B2xxd.cell 0 (v := .int .i64 a) rfl
  have b2_5_1 := B2xxd.cell 1 (v := .int .i64 b) rfl
  have b3_5_0 := B3xd.cell 0 (v := .int .i64 0) rfl
  have b3_5_1 := B3xd.cell 1 (v := .int .i64 0) rfl
  have zb3_5_0 := B3xd.frozen 0
  have zb3_5_1 := B3xd.frozen 1
  go_wp2
  go_region_held2 (fun w' => w'.cell? ⟨w.heap.size, 0, none⟩ = some (.int .u8 k) ∧ w'.cell? ⟨w.heap.size, 1, none⟩ = some (.int .i64 x) ∧ w'.cell? ⟨w.heap.size, 2, none⟩ = some (.int .i64 y) ∧ w'.cell? ⟨w.heap.size, 3, none⟩ = some (.int .u8 t) ∧ w'.cell? ⟨w.heap.size, 4, none⟩ = some (.int .i64 z) ∧ w'.cell? ⟨W1.heap.size, 0, none⟩ = some (.int .i64 a) ∧ w'.cell? ⟨W1.heap.size, 1, none⟩ = some (.int .i64 b)) (go_keep) (first | (go_at_call 33; (fail_if_success (guard_hyp mf2)); refine (hf2 _).mono ?_; rintro e w' ⟨rfl, hw'⟩; subst w'; have mf2 : True := trivial))
  have B1xxxdd := B1xxxd.dr
  have B2xxdd := B2xxd.dr
  have B3xdd := B3xd.dr
  have G4dd := gb_drew G4d
  clear b1_5_0 b1_5_1 b1_5_2 b1_5_3 b1_5_4 b2_5_0 b2_5_1 b3_5_0 b3_5_1 zb3_5_0 zb3_5_1
  have b1_6_0 := B1xxxdd.cell 0 (v := .int .u8 k) rfl
  have b1_6_1 := B1xxxdd.cell 1 (v := .int .i64 x) rfl
  have b1_6_2 := B1xxxdd.cell 2 (v := .int .i64 y) rfl
  have b1_6_3 := B1xxxdd.cell 3 (v := .int .u8 t) rfl
  have b1_6_4 := B1xxxdd.cell 4 (v := .int .i64 z) rfl
  have b2_6_0 := B2xxdd.cell 0 (v := .int .i64 a) rfl
  have b2_6_1 := B2xxdd.cell 1 (v := .int .i64 b) rfl
  have b3_6_0 := B3xdd.cell 0 (v := .int .i64 0) rfl
  have b3_6_1 := B3xdd.cell 1 (v := .int .i64 0) rfl
  have zb3_6_0 := B3xdd.frozen 0
  have zb3_6_1 := B3xdd.frozen 1
  go_wp2_with (first | (go_at_call 34; (fail_if_success (guard_hyp g7)); refine (hin _).mono ?_; rintro e w7 ⟨rfl, g7⟩; have G7 := gb_trans G4dd g7; have B1xxxddx := B1xxxdd.kept g7 (by simp); have B2xxddx := B2xxdd.kept g7 (by simp); have B3xddx := B3xdd.kept g7 (by simp); clear b1_6_0 b1_6_1 b1_6_2 b1_6_3 b1_6_4 b2_6_0 b2_6_1 b3_6_0 b3_6_1 zb3_6_0 zb3_6_1; have b1_7_0 := B1xxxddx.cell 0 (v := .int .u8 k) rfl; have b1_7_1 := B1xxxddx.cell 1 (v := .int .i64 x) rfl; have b1_7_2 := B1xxxddx.cell 2 (v := .int .i64 y) rfl; have b1_7_3 := B1xxxddx.cell 3 (v := .int .u8 t) rfl; have b1_7_4 := B1xxxddx.cell 4 (v := .int .i64 z) rfl; have b2_7_0 := B2xxddx.cell 0 (v := .int .i64 a) rfl; have b2_7_1 := B2xxddx.cell 1 (v := .int .i64 b) rfl; have b3_7_0 := B3xddx.cell 0 (v := .int .i64 0) rfl; have b3_7_1 := B3xddx.cell 1 (v := .int .i64 0) rfl; have zb3_7_0 := B3xddx.frozen 0; have zb3_7_1 := B3xddx.frozen 1) | (go_at_call 42; (fail_if_success (guard_hyp mi1)); refine (hi1 _).mono ?_; rintro e w' ⟨rfl, hw'⟩; subst w'; have mi1 : True := trivial) | (go_at_call 42; (fail_if_success (guard_hyp mi2)); refine (hi2 _).mono ?_; rintro e w' ⟨rfl, hw'⟩; subst w'; have mi2 : True := trivial))
  refine ret_c3 (g := W2.heap.size) (cs := #[.int .i64 a, .int .i64 b]) rfl hfs infoP rfl (bo2 B3xddx) rfl ⟨rfl, gb2 G7 G2.size⟩

set_option maxHeartbeats 600000 in
theorem rrPl (k x y t z a b : Int) (hx : 0 ≤ x) (hx2 : x ≤ 65536) (hy : 0 ≤ y) (hy2 : y ≤ 65536) (ha : -1099511627776 ≤ a) (ha2 : a ≤ 1099511627776) (hb : -1099511627776 ≤ b) (hb2 : b ≤ 1099511627776) (hr : ∀ w, Calls Try.prog 30 #[.agg #[.int .u8 k, .int .i64 x, .int .i64 y, .int .u8 t, .int .i64 z], .agg #[.int .i64 a, .int .i64 b]] w fun e w' => e = .returned (.int .i64 0) ∧ w.grownBy w' none) (h1 : toB (a - To.fi x) x = true) (h2 : toB (b - To.fi y) y = true) (hin : ∀ w, Calls Try.prog 34 #[.agg #[.int .u8 k, .int .i64 x, .int .i64 y, .int .u8 t, .int .i64 z], .agg #[.int .i64 a, .int .i64 b]] w fun e w' => e = .returned (.bool false) ∧ w.grownBy w' none) (k1 : (k == 1) = true) (w : World) : Calls Try.prog 15 #[.agg #[.int .u8 k, .int .i64 x, .int .i64 y, .int .u8 t, .int .i64 z], .agg #[.int .i64 a, .int .i64 b]] w fun e w' => e = .returned (.tuple #[.agg #[.int .i64 0, .int .i64 0], .bool false, .int .i64 0]) ∧ w.grownBy w' none := by
  obtain ⟨fs, hfs⟩ := underP
  have bx := fi_bd ⟨hx, hx2⟩
  have by' := fi_bd ⟨hy, hy2⟩
  obtain ⟨bx1, bx2⟩ := bx
  obtain ⟨by1, by2⟩ := by'
  have hf1 := refFirstC x hx hx2
  have hf2 := refFirstC y hy hy2
  have wu : IntKind.i64.wrap (a - To.fi x) = (a - To.fi x) := by rw [IntKind.wrap_i64]; omega
  have wv : IntKind.i64.wrap (b - To.fi y) = (b - To.fi y) := by rw [IntKind.wrap_i64]; omega
  have hi1 := refInsideC (a - To.fi x) x 1 hx hx2 (by omega) (by omega)
  have hi2 := refInsideC (b - To.fi y) y 1 hy hy2 (by omega) (by omega)
  rw [in_to] at hi1 hi2
  rw [h1] at hi1
  rw [h2] at hi2
  clear h1 h2
  obtain ⟨W1, hW1, sz1, g1, B1⟩ := boxn w #[.int .u8 k, .int .i64 x, .int .i64 y, .int .u8 t, .int .i64 z] 23
  obtain ⟨W2, hW2, sz2, g2, B2⟩ := boxn W1 #[.int .i64 a, .int .i64 b] 25
  have G2 := gb_trans g1 g2
  have B1x := B1.kept g2 (by simp)
  obtain ⟨W3, hW3, sz3, g3, B3⟩ := boxn W2 #[.int .i64 0, .int .i64 0] 25
  have G3 := gb_trans G2 g3
  have B1xx := B1x.kept g3 (by simp)
  have B2x := B2.kept g3 (by simp)
  have b1_3_0 := B1xx.cell 0 (v := .int .u8 k) rfl
  have b1_3_1 := B1xx.cell 1 (v := .int .i64 x) rfl
  have b1_3_2 := B1xx.cell 2 (v := .int .i64 y) rfl
  have b1_3_3 := B1xx.cell 3 (v := .int .u8 t) rfl
  have b1_3_4 := B1xx.cell 4 (v := .int .i64 z) rfl
  have b2_3_0 := B2x.cell 0 (v := .int .i64 a) rfl
  have b2_3_1 := B2x.cell 1 (v := .int .i64 b) rfl
  have b3_3_0 := B3.cell 0 (v := .int .i64 0) rfl
  have b3_3_1 := B3.cell 1 (v := .int .i64 0) rfl
  have zb3_3_0 := B3.frozen 0
  have zb3_3_1 := B3.frozen 1
  go_enter Try.func15, Try.ntmps15
  go_wp2_with (first | (go_at_call 30; (fail_if_success (guard_hyp g4)); refine (hr _).mono ?_; rintro e w4 ⟨rfl, g4⟩; have G4 := gb_trans G3 g4; have B1xxx := B1xx.kept g4 (by simp); have B2xx := B2x.kept g4 (by simp); have B3x := B3.kept g4 (by simp); clear b1_3_0 b1_3_1 b1_3_2 b1_3_3 b1_3_4 b2_3_0 b2_3_1 b3_3_0 b3_3_1 zb3_3_0 zb3_3_1; have b1_4_0 := B1xxx.cell 0 (v := .int .u8 k) rfl; have b1_4_1 := B1xxx.cell 1 (v := .int .i64 x) rfl; have b1_4_2 := B1xxx.cell 2 (v := .int .i64 y) rfl; have b1_4_3 := B1xxx.cell 3 (v := .int .u8 t) rfl; have b1_4_4 := B1xxx.cell 4 (v := .int .i64 z) rfl; have b2_4_0 := B2xx.cell 0 (v := .int .i64 a) rfl; have b2_4_1 := B2xx.cell 1 (v := .int .i64 b) rfl; have b3_4_0 := B3x.cell 0 (v := .int .i64 0) rfl; have b3_4_1 := B3x.cell 1 (v := .int .i64 0) rfl; have zb3_4_0 := B3x.frozen 0; have zb3_4_1 := B3x.frozen 1))
  go_region_held2 (fun w' => w'.cell? ⟨w.heap.size, 0, none⟩ = some (.int .u8 k) ∧ w'.cell? ⟨w.heap.size, 1, none⟩ = some (.int .i64 x) ∧ w'.cell? ⟨w.heap.size, 2, none⟩ = some (.int .i64 y) ∧ w'.cell? ⟨w.heap.size, 3, none⟩ = some (.int .u8 t) ∧ w'.cell? ⟨w.heap.size, 4, none⟩ = some (.int .i64 z) ∧ w'.cell? ⟨W1.heap.size, 0, none⟩ = some (.int .i64 a) ∧ w'.cell? ⟨W1.heap.size, 1, none⟩ = some (.int .i64 b)) (go_keep) (first | (go_at_call 33; (fail_if_success (guard_hyp mf1)); refine (hf1 _).mono ?_; rintro e w' ⟨rfl, hw'⟩; subst w'; have mf1 : True := trivial))
  have B1xxxd := B1xxx.dr
  have B2xxd := B2xx.dr
  have B3xd := B3x.dr
  have G4d := gb_drew G4
  clear b1_4_0 b1_4_1 b1_4_2 b1_4_3 b1_4_4 b2_4_0 b2_4_1 b3_4_0 b3_4_1 zb3_4_0 zb3_4_1
  have b1_5_0 := B1xxxd.cell 0 (v := .int .u8 k) rfl
  have b1_5_1 := B1xxxd.cell 1 (v := .int .i64 x) rfl
  have b1_5_2 := B1xxxd.cell 2 (v := .int .i64 y) rfl
  have b1_5_3 := B1xxxd.cell 3 (v := .int .u8 t) rfl
  have b1_5_4 := B1xxxd.cell 4 (v := .int .i64 z) rfl
  have b2_5_0 := B2xxd.cell 0 (v := .int .i64 a) rfl
  have b2_5_1 := B2xxd.cell 1 (v := .int .i64 b) rfl
  have b3_5_0 := B3xd.cell 0 (v := .int .i64 0) rfl
  have b3_5_1 := B3xd.cell 1 (v := .int .i64 0) rfl
  have zb3_5_0 := B3xd.frozen 0
  have zb3_5_1 := B3xd.frozen 1
  go_wp2
  go_region_held2 (fun w' => w'.cell? ⟨w.heap.size, 0, none⟩ = some (.int .u8 k) ∧ w'.cell? ⟨w.heap.size, 1, none⟩ = some (.int .i64 x) ∧ w'.cell? ⟨w.heap.size, 2, none⟩ = some (.int .i64 y) ∧ w'.cell? ⟨w.heap.size, 3, none⟩ = some (.int .u8 t) ∧ w'.cell? ⟨w.heap.size, 4, none⟩ = some (.int .i64 z) ∧ w'.cell? ⟨W1.heap.size, 0, none⟩ = some (.int .i64 a) ∧ w'.cell? ⟨W1.heap.size, 1, none⟩ = some (.int .i64 b)) (go_keep) (first | (go_at_call 33; (fail_if_success (guard_hyp mf2)); refine (hf2 _).mono ?_; rintro e w' ⟨rfl, hw'⟩; subst w'; have mf2 : True := trivial))
  have B1xxxdd := B1xxxd.dr
  have B2xxdd := B2xxd.dr
  have B3xdd := B3xd.dr
  have G4dd := gb_drew G4d
  clear b1_5_0 b1_5_1 b1_5_2 b1_5_3 b1_5_4 b2_5_0 b2_5_1 b3_5_0 b3_5_1 zb3_5_0 zb3_5_1
  have b1_6_0 := B1xxxdd.cell 0 (v := .int .u8 k) rfl
  have b1_6_1 := B1xxxdd.cell 1 (v := .int .i64 x) rfl
  have b1_6_2 := B1xxxdd.cell 2 (v := .int .i64 y) rfl
  have b1_6_3 := B1xxxdd.cell 3 (v := .int .u8 t) rfl
  have b1_6_4 := B1xxxdd.cell 4 (v := .int .i64 z) rfl
  have b2_6_0 := B2xxdd.cell 0 (v := .int .i64 a) rfl
  have b2_6_1 := B2xxdd.cell 1 (v := .int .i64 b) rfl
  have b3_6_0 := B3xdd.cell 0 (v := .int .i64 0) rfl
  have b3_6_1 := B3xdd.cell 1 (v := .int .i64 0) rfl
  have zb3_6_0 := B3xdd.frozen 0
  have zb3_6_1 := B3xdd.frozen 1
  go_wp2_with (first | (go_at_call 34; (fail_if_success (guard_hyp g7)); refine (hin _).mono ?_; rintro e w7 ⟨rfl, g7⟩; have G7 := gb_trans G4dd g7; have B1xxxddx := B1xxxdd.kept g7 (by simp); have B2xxddx := B2xxdd.kept g7 (by simp); have B3xddx := B3xdd.kept g7 (by simp); clear b1_6_0 b1_6_1 b1_6_2 b1_6_3 b1_6_4 b2_6_0 b2_6_1 b3_6_0 b3_6_1 zb3_6_0 zb3_6_1; have b1_7_0 := B1xxxddx.cell 0 (v := .int .u8 k) rfl; have b1_7_1 := B1xxxddx.cell 1 (v := .int .i64 x) rfl; have b1_7_2 := B1xxxddx.cell 2 (v := .int .i64 y) rfl; have b1_7_3 := B1xxxddx.cell 3 (v := .int .u8 t) rfl; have b1_7_4 := B1xxxddx.cell 4 (v := .int .i64 z) rfl; have b2_7_0 := B2xxddx.cell 0 (v := .int .i64 a) rfl; have b2_7_1 := B2xxddx.cell 1 (v := .int .i64 b) rfl; have b3_7_0 := B3xddx.cell 0 (v := .int .i64 0) rfl; have b3_7_1 := B3xddx.cell 1 (v := .int .i64 0) rfl; have zb3_7_0 := B3xddx.frozen 0; have zb3_7_1 := B3xddx.frozen 1) | (go_at_call 42; (fail_if_success (guard_hyp mi1)); refine (hi1 _).mono ?_; rintro e w' ⟨rfl, hw'⟩; subst w'; have mi1 : True := trivial) | (go_at_call 42; (fail_if_success (guard_hyp mi2)); refine (hi2 _).mono ?_; rintro e w' ⟨rfl, hw'⟩; subst w'; have mi2 : True := trivial))
  refine ret_c3 (g := W2.heap.size) (cs := #[.int .i64 0, .int .i64 0]) rfl hfs infoP rfl (bo2 B3xddx) rfl ⟨rfl, gb2 G7 G2.size⟩

set_option maxHeartbeats 600000 in
theorem rrGl (k x y t z a b : Int) (hx : 0 ≤ x) (hx2 : x ≤ 65536) (hy : 0 ≤ y) (hy2 : y ≤ 65536) (ha : -1099511627776 ≤ a) (ha2 : a ≤ 1099511627776) (hb : -1099511627776 ≤ b) (hb2 : b ≤ 1099511627776) (hr : ∀ w, Calls Try.prog 30 #[.agg #[.int .u8 k, .int .i64 x, .int .i64 y, .int .u8 t, .int .i64 z], .agg #[.int .i64 a, .int .i64 b]] w fun e w' => e = .returned (.int .i64 0) ∧ w.grownBy w' none) (h1 : toB (a - To.fi x) x = true) (h2 : toB (b - To.fi y) y = true) (hin : ∀ w, Calls Try.prog 34 #[.agg #[.int .u8 k, .int .i64 x, .int .i64 y, .int .u8 t, .int .i64 z], .agg #[.int .i64 a, .int .i64 b]] w fun e w' => e = .returned (.bool false) ∧ w.grownBy w' none) (k1 : (k == 1) = false) (k5 : (k == 5) = false) (P Q er : Int) (hc : ∀ w, Calls Try.prog 11 #[.agg #[.int .u8 k, .int .i64 x, .int .i64 y, .int .u8 t, .int .i64 z], .agg #[.int .i64 a, .int .i64 b]] w fun e w' => e = .returned (.tuple #[.agg #[.int .i64 P, .int .i64 Q], .int .i64 er]) ∧ w.grownBy w' none) (w : World) : Calls Try.prog 15 #[.agg #[.int .u8 k, .int .i64 x, .int .i64 y, .int .u8 t, .int .i64 z], .agg #[.int .i64 a, .int .i64 b]] w fun e w' => e = .returned (.tuple #[.agg #[.int .i64 P, .int .i64 Q], .bool true, .int .i64 er]) ∧ w.grownBy w' none := by
  obtain ⟨fs, hfs⟩ := underP
  have bx := fi_bd ⟨hx, hx2⟩
  have by' := fi_bd ⟨hy, hy2⟩
  obtain ⟨bx1, bx2⟩ := bx
  obtain ⟨by1, by2⟩ := by'
  have hf1 := refFirstC x hx hx2
  have hf2 := refFirstC y hy hy2
  have wu : IntKind.i64.wrap (a - To.fi x) = (a - To.fi x) := by rw [IntKind.wrap_i64]; omega
  have wv : IntKind.i64.wrap (b - To.fi y) = (b - To.fi y) := by rw [IntKind.wrap_i64]; omega
  have hi1 := refInsideC (a - To.fi x) x 1 hx hx2 (by omega) (by omega)
  have hi2 := refInsideC (b - To.fi y) y 1 hy hy2 (by omega) (by omega)
  rw [in_to] at hi1 hi2
  rw [h1] at hi1
  rw [h2] at hi2
  clear h1 h2
  obtain ⟨W1, hW1, sz1, g1, B1⟩ := boxn w #[.int .u8 k, .int .i64 x, .int .i64 y, .int .u8 t, .int .i64 z] 23
  obtain ⟨W2, hW2, sz2, g2, B2⟩ := boxn W1 #[.int .i64 a, .int .i64 b] 25
  have G2 := gb_trans g1 g2
  have B1x := B1.kept g2 (by simp)
  obtain ⟨W3, hW3, sz3, g3, B3⟩ := boxn W2 #[.int .i64 0, .int .i64 0] 25
  have G3 := gb_trans G2 g3
  have B1xx := B1x.kept g3 (by simp)
  have B2x := B2.kept g3 (by simp)
  have b1_3_0 := B1xx.cell 0 (v := .int .u8 k) rfl
  have b1_3_1 := B1xx.cell 1 (v := .int .i64 x) rfl
  have b1_3_2 := B1xx.cell 2 (v := .int .i64 y) rfl
  have b1_3_3 := B1xx.cell 3 (v := .int .u8 t) rfl
  have b1_3_4 := B1xx.cell 4 (v := .int .i64 z) rfl
  have b2_3_0 := B2x.cell 0 (v := .int .i64 a) rfl
  have b2_3_1 := B2x.cell 1 (v := .int .i64 b) rfl
  have b3_3_0 := B3.cell 0 (v := .int .i64 0) rfl
  have b3_3_1 := B3.cell 1 (v := .int .i64 0) rfl
  have zb3_3_0 := B3.frozen 0
  have zb3_3_1 := B3.frozen 1
  go_enter Try.func15, Try.ntmps15
  go_wp2_with (first | (go_at_call 30; (fail_if_success (guard_hyp g4)); refine (hr _).mono ?_; rintro e w4 ⟨rfl, g4⟩; have G4 := gb_trans G3 g4; have B1xxx := B1xx.kept g4 (by simp); have B2xx := B2x.kept g4 (by simp); have B3x := B3.kept g4 (by simp); clear b1_3_0 b1_3_1 b1_3_2 b1_3_3 b1_3_4 b2_3_0 b2_3_1 b3_3_0 b3_3_1 zb3_3_0 zb3_3_1; have b1_4_0 := B1xxx.cell 0 (v := .int .u8 k) rfl; have b1_4_1 := B1xxx.cell 1 (v := .int .i64 x) rfl; have b1_4_2 := B1xxx.cell 2 (v := .int .i64 y) rfl; have b1_4_3 := B1xxx.cell 3 (v := .int .u8 t) rfl; have b1_4_4 := B1xxx.cell 4 (v := .int .i64 z) rfl; have b2_4_0 := B2xx.cell 0 (v := .int .i64 a) rfl; have b2_4_1 := B2xx.cell 1 (v := .int .i64 b) rfl; have b3_4_0 := B3x.cell 0 (v := .int .i64 0) rfl; have b3_4_1 := B3x.cell 1 (v := .int .i64 0) rfl; have zb3_4_0 := B3x.frozen 0; have zb3_4_1 := B3x.frozen 1))
  go_region_held2 (fun w' => w'.cell? ⟨w.heap.size, 0, none⟩ = some (.int .u8 k) ∧ w'.cell? ⟨w.heap.size, 1, none⟩ = some (.int .i64 x) ∧ w'.cell? ⟨w.heap.size, 2, none⟩ = some (.int .i64 y) ∧ w'.cell? ⟨w.heap.size, 3, none⟩ = some (.int .u8 t) ∧ w'.cell? ⟨w.heap.size, 4, none⟩ = some (.int .i64 z) ∧ w'.cell? ⟨W1.heap.size, 0, none⟩ = some (.int .i64 a) ∧ w'.cell? ⟨W1.heap.size, 1, none⟩ = some (.int .i64 b)) (go_keep) (first | (go_at_call 33; (fail_if_success (guard_hyp mf1)); refine (hf1 _).mono ?_; rintro e w' ⟨rfl, hw'⟩; subst w'; have mf1 : True := trivial))
  have B1xxxd := B1xxx.dr
  have B2xxd := B2xx.dr
  have B3xd := B3x.dr
  have G4d := gb_drew G4
  clear b1_4_0 b1_4_1 b1_4_2 b1_4_3 b1_4_4 b2_4_0 b2_4_1 b3_4_0 b3_4_1 zb3_4_0 zb3_4_1
  have b1_5_0 := B1xxxd.cell 0 (v := .int .u8 k) rfl
  have b1_5_1 := B1xxxd.cell 1 (v := .int .i64 x) rfl
  have b1_5_2 := B1xxxd.cell 2 (v := .int .i64 y) rfl
  have b1_5_3 := B1xxxd.cell 3 (v := .int .u8 t) rfl
  have b1_5_4 := B1xxxd.cell 4 (v := .int .i64 z) rfl
  have b2_5_0 := B2xxd.cell 0 (v := .int .i64 a) rfl
  have b2_5_1 := B2xxd.cell 1 (v := .int .i64 b) rfl
  have b3_5_0 := B3xd.cell 0 (v := .int .i64 0) rfl
  have b3_5_1 := B3xd.cell 1 (v := .int .i64 0) rfl
  have zb3_5_0 := B3xd.frozen 0
  have zb3_5_1 := B3xd.frozen 1
  go_wp2
  go_region_held2 (fun w' => w'.cell? ⟨w.heap.size, 0, none⟩ = some (.int .u8 k) ∧ w'.cell? ⟨w.heap.size, 1, none⟩ = some (.int .i64 x) ∧ w'.cell? ⟨w.heap.size, 2, none⟩ = some (.int .i64 y) ∧ w'.cell? ⟨w.heap.size, 3, none⟩ = some (.int .u8 t) ∧ w'.cell? ⟨w.heap.size, 4, none⟩ = some (.int .i64 z) ∧ w'.cell? ⟨W1.heap.size, 0, none⟩ = some (.int .i64 a) ∧ w'.cell? ⟨W1.heap.size, 1, none⟩ = some (.int .i64 b)) (go_keep) (first | (go_at_call 33; (fail_if_success (guard_hyp mf2)); refine (hf2 _).mono ?_; rintro e w' ⟨rfl, hw'⟩; subst w'; have mf2 : True := trivial))
  have B1xxxdd := B1xxxd.dr
  have B2xxdd := B2xxd.dr
  have B3xdd := B3xd.dr
  have G4dd := gb_drew G4d
  clear b1_5_0 b1_5_1 b1_5_2 b1_5_3 b1_5_4 b2_5_0 b2_5_1 b3_5_0 b3_5_1 zb3_5_0 zb3_5_1
  have b1_6_0 := B1xxxdd.cell 0 (v := .int .u8 k) rfl
  have b1_6_1 := B1xxxdd.cell 1 (v := .int .i64 x) rfl
  have b1_6_2 := B1xxxdd.cell 2 (v := .int .i64 y) rfl
  have b1_6_3 := B1xxxdd.cell 3 (v := .int .u8 t) rfl
  have b1_6_4 := B1xxxdd.cell 4 (v := .int .i64 z) rfl
  have b2_6_0 := B2xxdd.cell 0 (v := .int .i64 a) rfl
  have b2_6_1 := B2xxdd.cell 1 (v := .int .i64 b) rfl
  have b3_6_0 := B3xdd.cell 0 (v := .int .i64 0) rfl
  have b3_6_1 := B3xdd.cell 1 (v := .int .i64 0) rfl
  have zb3_6_0 := B3xdd.frozen 0
  have zb3_6_1 := B3xdd.frozen 1
  go_wp2_with (first | (go_at_call 34; (fail_if_success (guard_hyp g7)); refine (hin _).mono ?_; rintro e w7 ⟨rfl, g7⟩; have G7 := gb_trans G4dd g7; have B1xxxddx := B1xxxdd.kept g7 (by simp); have B2xxddx := B2xxdd.kept g7 (by simp); have B3xddx := B3xdd.kept g7 (by simp); clear b1_6_0 b1_6_1 b1_6_2 b1_6_3 b1_6_4 b2_6_0 b2_6_1 b3_6_0 b3_6_1 zb3_6_0 zb3_6_1; have b1_7_0 := B1xxxddx.cell 0 (v := .int .u8 k) rfl; have b1_7_1 := B1xxxddx.cell 1 (v := .int .i64 x) rfl; have b1_7_2 := B1xxxddx.cell 2 (v := .int .i64 y) rfl; have b1_7_3 := B1xxxddx.cell 3 (v := .int .u8 t) rfl; have b1_7_4 := B1xxxddx.cell 4 (v := .int .i64 z) rfl; have b2_7_0 := B2xxddx.cell 0 (v := .int .i64 a) rfl; have b2_7_1 := B2xxddx.cell 1 (v := .int .i64 b) rfl; have b3_7_0 := B3xddx.cell 0 (v := .int .i64 0) rfl; have b3_7_1 := B3xddx.cell 1 (v := .int .i64 0) rfl; have zb3_7_0 := B3xddx.frozen 0; have zb3_7_1 := B3xddx.frozen 1) | (go_at_call 11; (fail_if_success (guard_hyp g8)); refine (hc _).mono ?_; rintro e w8 ⟨rfl, g8⟩; have G8 := gb_trans G7 g8; have B1xxxddxx := B1xxxddx.kept g8 (by simp); have B2xxddxx := B2xxddx.kept g8 (by simp); have B3xddxx := B3xddx.kept g8 (by simp); obtain ⟨W9, hW9, sz9, g9, B9⟩ := boxn w8 #[.int .i64 P, .int .i64 Q] 25; have G9 := gb_trans G8 g9; have B1xxxddxxx := B1xxxddxx.kept g9 (by simp); have B2xxddxxx := B2xxddxx.kept g9 (by simp); have B3xddxxx := B3xddxx.kept g9 (by simp); clear b1_7_0 b1_7_1 b1_7_2 b1_7_3 b1_7_4 b2_7_0 b2_7_1 b3_7_0 b3_7_1 zb3_7_0 zb3_7_1; have b1_9_0 := B1xxxddxxx.cell 0 (v := .int .u8 k) rfl; have b1_9_1 := B1xxxddxxx.cell 1 (v := .int .i64 x) rfl; have b1_9_2 := B1xxxddxxx.cell 2 (v := .int .i64 y) rfl; have b1_9_3 := B1xxxddxxx.cell 3 (v := .int .u8 t) rfl; have b1_9_4 := B1xxxddxxx.cell 4 (v := .int .i64 z) rfl; have b2_9_0 := B2xxddxxx.cell 0 (v := .int .i64 a) rfl; have b2_9_1 := B2xxddxxx.cell 1 (v := .int .i64 b) rfl; have b3_9_0 := B3xddxxx.cell 0 (v := .int .i64 0) rfl; have b3_9_1 := B3xddxxx.cell 1 (v := .int .i64 0) rfl; have zb3_9_0 := B3xddxxx.frozen 0; have zb3_9_1 := B3xddxxx.frozen 1; have b9_9_0 := B9.cell 0 (v := .int .i64 P) rfl; have b9_9_1 := B9.cell 1 (v := .int .i64 Q) rfl) | (go_at_call 42; (fail_if_success (guard_hyp mi1)); refine (hi1 _).mono ?_; rintro e w' ⟨rfl, hw'⟩; subst w'; have mi1 : True := trivial) | (go_at_call 42; (fail_if_success (guard_hyp mi2)); refine (hi2 _).mono ?_; rintro e w' ⟨rfl, hw'⟩; subst w'; have mi2 : True := trivial))
  refine ret_c3 (g := W2.heap.size) (cs := #[.int .i64 P, .int .i64 Q]) rfl hfs infoP rfl (bo2 B3xddxxx) rfl ⟨rfl, gb2 G9 G2.size⟩

set_option maxHeartbeats 600000 in
theorem rrSp (k x y t z a b : Int) (hx : 0 ≤ x) (hx2 : x ≤ 65536) (hy : 0 ≤ y) (hy2 : y ≤ 65536) (ha : -1099511627776 ≤ a) (ha2 : a ≤ 1099511627776) (hb : -1099511627776 ≤ b) (hb2 : b ≤ 1099511627776) (hr : ∀ w, Calls Try.prog 30 #[.agg #[.int .u8 k, .int .i64 x, .int .i64 y, .int .u8 t, .int .i64 z], .agg #[.int .i64 a, .int .i64 b]] w fun e w' => e = .returned (.int .i64 0) ∧ w.grownBy w' none) (h1 : toB (a - To.fi x) x = true) (h2 : toB (b - To.fi y) y = true) (hin : ∀ w, Calls Try.prog 34 #[.agg #[.int .u8 k, .int .i64 x, .int .i64 y, .int .u8 t, .int .i64 z], .agg #[.int .i64 a, .int .i64 b]] w fun e w' => e = .returned (.bool false) ∧ w.grownBy w' none) (k1 : (k == 1) = false) (k5 : (k == 5) = true) (X Y P Q : Int) (hba : ∀ w, Calls Try.prog 43 #[.int .i64 x, .int .i64 (a - To.fi x), .int .i64 (b - To.fi y)] w fun e w' => e = .returned (.tuple #[.int .i64 X, .int .i64 Y]) ∧ w' = w) (hP : IntKind.i64.wrap (X + To.fi x) = P) (hQ : IntKind.i64.wrap (Y + To.fi y) = Q) (w : World) : Calls Try.prog 15 #[.agg #[.int .u8 k, .int .i64 x, .int .i64 y, .int .u8 t, .int .i64 z], .agg #[.int .i64 a, .int .i64 b]] w fun e w' => e = .returned (.tuple #[.agg #[.int .i64 P, .int .i64 Q], .bool true, .int .i64 0]) ∧ w.grownBy w' none := by
  obtain ⟨fs, hfs⟩ := underP
  have bx := fi_bd ⟨hx, hx2⟩
  have by' := fi_bd ⟨hy, hy2⟩
  obtain ⟨bx1, bx2⟩ := bx
  obtain ⟨by1, by2⟩ := by'
  have hf1 := refFirstC x hx hx2
  have hf2 := refFirstC y hy hy2
  have wu : IntKind.i64.wrap (a - To.fi x) = (a - To.fi x) := by rw [IntKind.wrap_i64]; omega
  have wv : IntKind.i64.wrap (b - To.fi y) = (b - To.fi y) := by rw [IntKind.wrap_i64]; omega
  have hi1 := refInsideC (a - To.fi x) x 1 hx hx2 (by omega) (by omega)
  have hi2 := refInsideC (b - To.fi y) y 1 hy hy2 (by omega) (by omega)
  rw [in_to] at hi1 hi2
  rw [h1] at hi1
  rw [h2] at hi2
  clear h1 h2
  obtain ⟨W1, hW1, sz1, g1, B1⟩ := boxn w #[.int .u8 k, .int .i64 x, .int .i64 y, .int .u8 t, .int .i64 z] 23
  obtain ⟨W2, hW2, sz2, g2, B2⟩ := boxn W1 #[.int .i64 a, .int .i64 b] 25
  have G2 := gb_trans g1 g2
  have B1x := B1.kept g2 (by simp)
  obtain ⟨W3, hW3, sz3, g3, B3⟩ := boxn W2 #[.int .i64 0, .int .i64 0] 25
  have G3 := gb_trans G2 g3
  have B1xx := B1x.kept g3 (by simp)
  have B2x := B2.kept g3 (by simp)
  have b1_3_0 := B1xx.cell 0 (v := .int .u8 k) rfl
  have b1_3_1 := B1xx.cell 1 (v := .int .i64 x) rfl
  have b1_3_2 := B1xx.cell 2 (v := .int .i64 y) rfl
  have b1_3_3 := B1xx.cell 3 (v := .int .u8 t) rfl
  have b1_3_4 := B1xx.cell 4 (v := .int .i64 z) rfl
  have b2_3_0 := B2x.cell 0 (v := .int .i64 a) rfl
  have b2_3_1 := B2x.cell 1 (v := .int .i64 b) rfl
  have b3_3_0 := B3.cell 0 (v := .int .i64 0) rfl
  have b3_3_1 := B3.cell 1 (v := .int .i64 0) rfl
  have zb3_3_0 := B3.frozen 0
  have zb3_3_1 := B3.frozen 1
  go_enter Try.func15, Try.ntmps15
  go_wp2_with (first | (go_at_call 30; (fail_if_success (guard_hyp g4)); refine (hr _).mono ?_; rintro e w4 ⟨rfl, g4⟩; have G4 := gb_trans G3 g4; have B1xxx := B1xx.kept g4 (by simp); have B2xx := B2x.kept g4 (by simp); have B3x := B3.kept g4 (by simp); clear b1_3_0 b1_3_1 b1_3_2 b1_3_3 b1_3_4 b2_3_0 b2_3_1 b3_3_0 b3_3_1 zb3_3_0 zb3_3_1; have b1_4_0 := B1xxx.cell 0 (v := .int .u8 k) rfl; have b1_4_1 := B1xxx.cell 1 (v := .int .i64 x) rfl; have b1_4_2 := B1xxx.cell 2 (v := .int .i64 y) rfl; have b1_4_3 := B1xxx.cell 3 (v := .int .u8 t) rfl; have b1_4_4 := B1xxx.cell 4 (v := .int .i64 z) rfl; have b2_4_0 := B2xx.cell 0 (v := .int .i64 a) rfl; have b2_4_1 := B2xx.cell 1 (v := .int .i64 b) rfl; have b3_4_0 := B3x.cell 0 (v := .int .i64 0) rfl; have b3_4_1 := B3x.cell 1 (v := .int .i64 0) rfl; have zb3_4_0 := B3x.frozen 0; have zb3_4_1 := B3x.frozen 1))
  go_region_held2 (fun w' => w'.cell? ⟨w.heap.size, 0, none⟩ = some (.int .u8 k) ∧ w'.cell? ⟨w.heap.size, 1, none⟩ = some (.int .i64 x) ∧ w'.cell? ⟨w.heap.size, 2, none⟩ = some (.int .i64 y) ∧ w'.cell? ⟨w.heap.size, 3, none⟩ = some (.int .u8 t) ∧ w'.cell? ⟨w.heap.size, 4, none⟩ = some (.int .i64 z) ∧ w'.cell? ⟨W1.heap.size, 0, none⟩ = some (.int .i64 a) ∧ w'.cell? ⟨W1.heap.size, 1, none⟩ = some (.int .i64 b)) (go_keep) (first | (go_at_call 33; (fail_if_success (guard_hyp mf1)); refine (hf1 _).mono ?_; rintro e w' ⟨rfl, hw'⟩; subst w'; have mf1 : True := trivial))
  have B1xxxd := B1xxx.dr
  have B2xxd := B2xx.dr
  have B3xd := B3x.dr
  have G4d := gb_drew G4
  clear b1_4_0 b1_4_1 b1_4_2 b1_4_3 b1_4_4 b2_4_0 b2_4_1 b3_4_0 b3_4_1 zb3_4_0 zb3_4_1
  have b1_5_0 := B1xxxd.cell 0 (v := .int .u8 k) rfl
  have b1_5_1 := B1xxxd.cell 1 (v := .int .i64 x) rfl
  have b1_5_2 := B1xxxd.cell 2 (v := .int .i64 y) rfl
  have b1_5_3 := B1xxxd.cell 3 (v := .int .u8 t) rfl
  have b1_5_4 := B1xxxd.cell 4 (v := .int .i64 z) rfl
  have b2_5_0 := B2xxd.cell 0 (v := .int .i64 a) rfl
  have b2_5_1 := B2xxd.cell 1 (v := .int .i64 b) rfl
  have b3_5_0 := B3xd.cell 0 (v := .int .i64 0) rfl
  have b3_5_1 := B3xd.cell 1 (v := .int .i64 0) rfl
  have zb3_5_0 := B3xd.frozen 0
  have zb3_5_1 := B3xd.frozen 1
  go_wp2
  go_region_held2 (fun w' => w'.cell? ⟨w.heap.size, 0, none⟩ = some (.int .u8 k) ∧ w'.cell? ⟨w.heap.size, 1, none⟩ = some (.int .i64 x) ∧ w'.cell? ⟨w.heap.size, 2, none⟩ = some (.int .i64 y) ∧ w'.cell? ⟨w.heap.size, 3, none⟩ = some (.int .u8 t) ∧ w'.cell? ⟨w.heap.size, 4, none⟩ = some (.int .i64 z) ∧ w'.cell? ⟨W1.heap.size, 0, none⟩ = some (.int .i64 a) ∧ w'.cell? ⟨W1.heap.size, 1, none⟩ = some (.int .i64 b)) (go_keep) (first | (go_at_call 33; (fail_if_success (guard_hyp mf2)); refine (hf2 _).mono ?_; rintro e w' ⟨rfl, hw'⟩; subst w'; have mf2 : True := trivial))
  have B1xxxdd := B1xxxd.dr
  have B2xxdd := B2xxd.dr
  have B3xdd := B3xd.dr
  have G4dd := gb_drew G4d
  clear b1_5_0 b1_5_1 b1_5_2 b1_5_3 b1_5_4 b2_5_0 b2_5_1 b3_5_0 b3_5_1 zb3_5_0 zb3_5_1
  have b1_6_0 := B1xxxdd.cell 0 (v := .int .u8 k) rfl
  have b1_6_1 := B1xxxdd.cell 1 (v := .int .i64 x) rfl
  have b1_6_2 := B1xxxdd.cell 2 (v := .int .i64 y) rfl
  have b1_6_3 := B1xxxdd.cell 3 (v := .int .u8 t) rfl
  have b1_6_4 := B1xxxdd.cell 4 (v := .int .i64 z) rfl
  have b2_6_0 := B2xxdd.cell 0 (v := .int .i64 a) rfl
  have b2_6_1 := B2xxdd.cell 1 (v := .int .i64 b) rfl
  have b3_6_0 := B3xdd.cell 0 (v := .int .i64 0) rfl
  have b3_6_1 := B3xdd.cell 1 (v := .int .i64 0) rfl
  have zb3_6_0 := B3xdd.frozen 0
  have zb3_6_1 := B3xdd.frozen 1
  go_wp2_with (first | (go_at_call 34; (fail_if_success (guard_hyp g7)); refine (hin _).mono ?_; rintro e w7 ⟨rfl, g7⟩; have G7 := gb_trans G4dd g7; have B1xxxddx := B1xxxdd.kept g7 (by simp); have B2xxddx := B2xxdd.kept g7 (by simp); have B3xddx := B3xdd.kept g7 (by simp); clear b1_6_0 b1_6_1 b1_6_2 b1_6_3 b1_6_4 b2_6_0 b2_6_1 b3_6_0 b3_6_1 zb3_6_0 zb3_6_1; have b1_7_0 := B1xxxddx.cell 0 (v := .int .u8 k) rfl; have b1_7_1 := B1xxxddx.cell 1 (v := .int .i64 x) rfl; have b1_7_2 := B1xxxddx.cell 2 (v := .int .i64 y) rfl; have b1_7_3 := B1xxxddx.cell 3 (v := .int .u8 t) rfl; have b1_7_4 := B1xxxddx.cell 4 (v := .int .i64 z) rfl; have b2_7_0 := B2xxddx.cell 0 (v := .int .i64 a) rfl; have b2_7_1 := B2xxddx.cell 1 (v := .int .i64 b) rfl; have b3_7_0 := B3xddx.cell 0 (v := .int .i64 0) rfl; have b3_7_1 := B3xddx.cell 1 (v := .int .i64 0) rfl; have zb3_7_0 := B3xddx.frozen 0; have zb3_7_1 := B3xddx.frozen 1) | (go_at_call 42; (fail_if_success (guard_hyp mi1)); refine (hi1 _).mono ?_; rintro e w' ⟨rfl, hw'⟩; subst w'; have mi1 : True := trivial) | (go_at_call 42; (fail_if_success (guard_hyp mi2)); refine (hi2 _).mono ?_; rintro e w' ⟨rfl, hw'⟩; subst w'; have mi2 : True := trivial) | (go_at_call 43; refine (hba _).mono ?_; rintro e w' ⟨rfl, hw'⟩; subst w'))
  have ap0 := Nat.ne_of_lt B1x.lt
  have aq0 := Nat.ne_of_gt B1x.lt
  have ap1 := Nat.ne_of_lt B2.lt
  have aq1 := Nat.ne_of_gt B2.lt
  go_region_held2 (fun w' => w'.cell? ⟨w.heap.size, 0, none⟩ = some (.int .u8 k) ∧ w'.cell? ⟨w.heap.size, 1, none⟩ = some (.int .i64 x) ∧ w'.cell? ⟨w.heap.size, 2, none⟩ = some (.int .i64 y) ∧ w'.cell? ⟨w.heap.size, 3, none⟩ = some (.int .u8 t) ∧ w'.cell? ⟨w.heap.size, 4, none⟩ = some (.int .i64 z) ∧ w'.cell? ⟨W1.heap.size, 0, none⟩ = some (.int .i64 a) ∧ w'.cell? ⟨W1.heap.size, 1, none⟩ = some (.int .i64 b)) (go_keep) (first | (go_at_call 33; (fail_if_success (guard_hyp mf3)); refine (hf1 _).mono ?_; rintro e w' ⟨rfl, hw'⟩; subst w'; have mf3 : True := trivial) | (go_at_call 33; (fail_if_success (guard_hyp mf4)); refine (hf2 _).mono ?_; rintro e w' ⟨rfl, hw'⟩; subst w'; have mf4 : True := trivial))
  all_goals go_wp2
  all_goals refine ret_c3 (g := W2.heap.size) (cs := #[.int .i64 P, .int .i64 Q]) rfl hfs infoP rfl (bo2 B3xddx).dr rfl ⟨rfl, gb_drew (gb2 G7 G2.size)⟩
end Go.Proofs.Ytgiiaokkmnjckaa
