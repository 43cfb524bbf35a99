/- What the document's Cell, Ring and Same answer, by ways. -/
import Derived.BigQuiet
import Derived.Deep.QuietTactic
import Derived.Test.YtgiiaokkmnjckaaF7
import Derived.Test.YtgiiaokkmnjckaaF9
namespace Go.Proofs.Ytgiiaokkmnjckaa
open Go.RowKit
open Fl
set_option linter.unusedVariables false
set_option linter.unusedSimpArgs false
set_option maxRecDepth 100000

/-- What a fault of the topology or of the place is told as. -/
def rfE (k x y t z a b : Int) : Int := if Tp.chk k x y t z = 0 then (if (To.frB a || To.frB b) = true then 5 else 0) else 9

theorem refusedNo (k x y t z a b : Int) (ht : 0 ≤ t) (h : ¬ Tp.chk k x y t z = 0) (w : World) : Calls Try.prog 30 #[.agg #[.int .u8 k, .int .i64 x, .int .i64 y, .int .u8 t, .int .i64 z], .agg #[.int .i64 a, .int .i64 b]] w fun e w' => e = .returned (.int .i64 9) ∧ w.grownBy w' none := by
  have hc := To.refCheckC k x y t z ht
  have hn := refNear6
  have hb : ((Tp.chk k x y t z) == 0) = false := beq_eq_false_iff_ne.2 h
  generalize Tp.chk k x y t z = er at *
  obtain ⟨W1, hW1, sz1, g1, B1⟩ := boxn w #[.int .u8 k, .int .i64 x, .int .i64 y, .int .u8 t, .int .i64 z] 23
  obtain ⟨W2, hW2, sz2, g2, B2⟩ := boxn W1 #[.int .i64 a, .int .i64 b] 25
  have G2 := gb_trans g1 g2
  have B1x := B1.kept g2 (by simp)
  have b1_2_0 := B1x.cell 0 (v := .int .u8 k) rfl
  have b1_2_1 := B1x.cell 1 (v := .int .i64 x) rfl
  have b1_2_2 := B1x.cell 2 (v := .int .i64 y) rfl
  have b1_2_3 := B1x.cell 3 (v := .int .u8 t) rfl
  have b1_2_4 := B1x.cell 4 (v := .int .i64 z) rfl
  have b2_2_0 := B2.cell 0 (v := .int .i64 a) rfl
  have b2_2_1 := B2.cell 1 (v := .int .i64 b) rfl
  go_enter Try.func30, Try.ntmps30
  go_wp2_with (first | (go_at_call 44; (fail_if_success (guard_hyp g3)); refine (hc _).mono ?_; rintro e w3 ⟨rfl, g3⟩; have G3 := gb_trans G2 g3; have B1xx := B1x.kept g3 (by simp); have B2x := B2.kept g3 (by simp); clear b1_2_0 b1_2_1 b1_2_2 b1_2_3 b1_2_4 b2_2_0 b2_2_1; have b1_3_0 := B1xx.cell 0 (v := .int .u8 k) rfl; have b1_3_1 := B1xx.cell 1 (v := .int .i64 x) rfl; have b1_3_2 := B1xx.cell 2 (v := .int .i64 y) rfl; have b1_3_3 := B1xx.cell 3 (v := .int .u8 t) rfl; have b1_3_4 := B1xx.cell 4 (v := .int .i64 z) rfl; have b2_3_0 := B2x.cell 0 (v := .int .i64 a) rfl; have b2_3_1 := B2x.cell 1 (v := .int .i64 b) rfl) | (go_at_call 65; refine (hn _ _).mono ?_; rintro e w' ⟨rfl, hw'⟩; subst w'))
  go_ret
  exact ⟨rfl, G3⟩

theorem refusedF1 (k x y t z a b : Int) (ht : 0 ≤ t) (h : Tp.chk k x y t z = 0) (h1 : To.frB a = true) (w : World) : Calls Try.prog 30 #[.agg #[.int .u8 k, .int .i64 x, .int .i64 y, .int .u8 t, .int .i64 z], .agg #[.int .i64 a, .int .i64 b]] w fun e w' => e = .returned (.int .i64 5) ∧ w.grownBy w' none := by
  have hc := To.refCheckC k x y t z ht
  have hn := refNear6
  rw [h] at hc
  clear h
  obtain ⟨W1, hW1, sz1, g1, B1⟩ := boxn w #[.int .u8 k, .int .i64 x, .int .i64 y, .int .u8 t, .int .i64 z] 23
  obtain ⟨W2, hW2, sz2, g2, B2⟩ := boxn W1 #[.int .i64 a, .int .i64 b] 25
  have G2 := gb_trans g1 g2
  have B1x := B1.kept g2 (by simp)
  have b1_2_0 := B1x.cell 0 (v := .int .u8 k) rfl
  have b1_2_1 := B1x.cell 1 (v := .int .i64 x) rfl
  have b1_2_2 := B1x.cell 2 (v := .int .i64 y) rfl
  have b1_2_3 := B1x.cell 3 (v := .int .u8 t) rfl
  have b1_2_4 := B1x.cell 4 (v := .int .i64 z) rfl
  have b2_2_0 := B2.cell 0 (v := .int .i64 a) rfl
  have b2_2_1 := B2.cell 1 (v := .int .i64 b) rfl
  go_enter Try.func30, Try.ntmps30
  go_wp2_with (first | (go_at_call 44; (fail_if_success (guard_hyp g3)); refine (hc _).mono ?_; rintro e w3 ⟨rfl, g3⟩; have G3 := gb_trans G2 g3; have B1xx := B1x.kept g3 (by simp); have B2x := B2.kept g3 (by simp); clear b1_2_0 b1_2_1 b1_2_2 b1_2_3 b1_2_4 b2_2_0 b2_2_1; have b1_3_0 := B1xx.cell 0 (v := .int .u8 k) rfl; have b1_3_1 := B1xx.cell 1 (v := .int .i64 x) rfl; have b1_3_2 := B1xx.cell 2 (v := .int .i64 y) rfl; have b1_3_3 := B1xx.cell 3 (v := .int .u8 t) rfl; have b1_3_4 := B1xx.cell 4 (v := .int .i64 z) rfl; have b2_3_0 := B2x.cell 0 (v := .int .i64 a) rfl; have b2_3_1 := B2x.cell 1 (v := .int .i64 b) rfl) | (go_at_call 65; refine (hn _ _).mono ?_; rintro e w' ⟨rfl, hw'⟩; subst w'))
  go_ret
  exact ⟨rfl, G3⟩

theorem refusedF2 (k x y t z a b : Int) (ht : 0 ≤ t) (h : Tp.chk k x y t z = 0) (h1 : To.frB a = false) (h2 : To.frB b = true) (w : World) : Calls Try.prog 30 #[.agg #[.int .u8 k, .int .i64 x, .int .i64 y, .int .u8 t, .int .i64 z], .agg #[.int .i64 a, .int .i64 b]] w fun e w' => e = .returned (.int .i64 5) ∧ w.grownBy w' none := by
  have hc := To.refCheckC k x y t z ht
  have hn := refNear6
  rw [h] at hc
  clear h
  obtain ⟨W1, hW1, sz1, g1, B1⟩ := boxn w #[.int .u8 k, .int .i64 x, .int .i64 y, .int .u8 t, .int .i64 z] 23
  obtain ⟨W2, hW2, sz2, g2, B2⟩ := boxn W1 #[.int .i64 a, .int .i64 b] 25
  have G2 := gb_trans g1 g2
  have B1x := B1.kept g2 (by simp)
  have b1_2_0 := B1x.cell 0 (v := .int .u8 k) rfl
  have b1_2_1 := B1x.cell 1 (v := .int .i64 x) rfl
  have b1_2_2 := B1x.cell 2 (v := .int .i64 y) rfl
  have b1_2_3 := B1x.cell 3 (v := .int .u8 t) rfl
  have b1_2_4 := B1x.cell 4 (v := .int .i64 z) rfl
  have b2_2_0 := B2.cell 0 (v := .int .i64 a) rfl
  have b2_2_1 := B2.cell 1 (v := .int .i64 b) rfl
  go_enter Try.func30, Try.ntmps30
  go_wp2_with (first | (go_at_call 44; (fail_if_success (guard_hyp g3)); refine (hc _).mono ?_; rintro e w3 ⟨rfl, g3⟩; have G3 := gb_trans G2 g3; have B1xx := B1x.kept g3 (by simp); have B2x := B2.kept g3 (by simp); clear b1_2_0 b1_2_1 b1_2_2 b1_2_3 b1_2_4 b2_2_0 b2_2_1; have b1_3_0 := B1xx.cell 0 (v := .int .u8 k) rfl; have b1_3_1 := B1xx.cell 1 (v := .int .i64 x) rfl; have b1_3_2 := B1xx.cell 2 (v := .int .i64 y) rfl; have b1_3_3 := B1xx.cell 3 (v := .int .u8 t) rfl; have b1_3_4 := B1xx.cell 4 (v := .int .i64 z) rfl; have b2_3_0 := B2x.cell 0 (v := .int .i64 a) rfl; have b2_3_1 := B2x.cell 1 (v := .int .i64 b) rfl) | (go_at_call 65; refine (hn _ _).mono ?_; rintro e w' ⟨rfl, hw'⟩; subst w'))
  go_ret
  exact ⟨rfl, G3⟩

theorem refusedOk (k x y t z a b : Int) (ht : 0 ≤ t) (h : Tp.chk k x y t z = 0) (h1 : To.frB a = false) (h2 : To.frB b = false) (w : World) : Calls Try.prog 30 #[.agg #[.int .u8 k, .int .i64 x, .int .i64 y, .int .u8 t, .int .i64 z], .agg #[.int .i64 a, .int .i64 b]] w fun e w' => e = .returned (.int .i64 0) ∧ w.grownBy w' none := by
  have hc := To.refCheckC k x y t z ht
  have hn := refNear6
  rw [h] at hc
  clear h
  obtain ⟨W1, hW1, sz1, g1, B1⟩ := boxn w #[.int .u8 k, .int .i64 x, .int .i64 y, .int .u8 t, .int .i64 z] 23
  obtain ⟨W2, hW2, sz2, g2, B2⟩ := boxn W1 #[.int .i64 a, .int .i64 b] 25
  have G2 := gb_trans g1 g2
  have B1x := B1.kept g2 (by simp)
  have b1_2_0 := B1x.cell 0 (v := .int .u8 k) rfl
  have b1_2_1 := B1x.cell 1 (v := .int .i64 x) rfl
  have b1_2_2 := B1x.cell 2 (v := .int .i64 y) rfl
  have b1_2_3 := B1x.cell 3 (v := .int .u8 t) rfl
  have b1_2_4 := B1x.cell 4 (v := .int .i64 z) rfl
  have b2_2_0 := B2.cell 0 (v := .int .i64 a) rfl
  have b2_2_1 := B2.cell 1 (v := .int .i64 b) rfl
  go_enter Try.func30, Try.ntmps30
  go_wp2_with (first | (go_at_call 44; (fail_if_success (guard_hyp g3)); refine (hc _).mono ?_; rintro e w3 ⟨rfl, g3⟩; have G3 := gb_trans G2 g3; have B1xx := B1x.kept g3 (by simp); have B2x := B2.kept g3 (by simp); clear b1_2_0 b1_2_1 b1_2_2 b1_2_3 b1_2_4 b2_2_0 b2_2_1; have b1_3_0 := B1xx.cell 0 (v := .int .u8 k) rfl; have b1_3_1 := B1xx.cell 1 (v := .int .i64 x) rfl; have b1_3_2 := B1xx.cell 2 (v := .int .i64 y) rfl; have b1_3_3 := B1xx.cell 3 (v := .int .u8 t) rfl; have b1_3_4 := B1xx.cell 4 (v := .int .i64 z) rfl; have b2_3_0 := B2x.cell 0 (v := .int .i64 a) rfl; have b2_3_1 := B2x.cell 1 (v := .int .i64 b) rfl) | (go_at_call 65; refine (hn _ _).mono ?_; rintro e w' ⟨rfl, hw'⟩; subst w'))
  go_ret
  exact ⟨rfl, G3⟩

theorem refusedC (k x y t z a b : Int) (ht : 0 ≤ t) (w : World) : Calls Try.prog 30 #[.agg #[.int .u8 k, .int .i64 x, .int .i64 y, .int .u8 t, .int .i64 z], .agg #[.int .i64 a, .int .i64 b]] w fun e w' => e = .returned (.int .i64 (rfE k x y t z a b)) ∧ w.grownBy w' none := by
  unfold rfE
  by_cases h : Tp.chk k x y t z = 0
  · rw [if_pos h]
    cases h1 : To.frB a
    · cases h2 : To.frB b
      · exact refusedOk k x y t z a b ht h h1 h2 w
      · exact refusedF2 k x y t z a b ht h h1 h2 w
    · exact refusedF1 k x y t z a b ht h h1 w
  · rw [if_neg h]
    exact refusedNo k x y t z a b ht h w

set_option maxHeartbeats 1000000 in
theorem inF1 (k x y t z a b : Int) (hx : 0 ≤ x) (hx2 : x ≤ 65536) (hy : 0 ≤ y) (hy2 : y ≤ 65536) (ha : -1099511627776 ≤ a) (ha2 : a ≤ 1099511627776) (hb : -1099511627776 ≤ b) (hb2 : b ≤ 1099511627776) (h1 : inB (a - To.fi x) x 0 = false) (w : World) : Calls Try.prog 34 #[.agg #[.int .u8 k, .int .i64 x, .int .i64 y, .int .u8 t, .int .i64 z], .agg #[.int .i64 a, .int .i64 b]] w fun e w' => e = .returned (.bool false) ∧ w.grownBy w' none := by
  have bx := fi_bd ⟨hx, hx2⟩
  have by' := fi_bd ⟨hy, hy2⟩
  obtain ⟨bx1, bx2⟩ := bx
  obtain ⟨by1, by2⟩ := by'
  have hf1 := refFirstC x hx hx2
  have hf2 := refFirstC y hy hy2
  have wu : IntKind.i64.wrap (a - To.fi x) = (a - To.fi x) := by rw [IntKind.wrap_i64]; omega
  have wv : IntKind.i64.wrap (b - To.fi y) = (b - To.fi y) := by rw [IntKind.wrap_i64]; omega
  have hi1 := refInsideC (a - To.fi x) x 0 hx hx2 (by omega) (by omega)
  have hi2 := refInsideC (b - To.fi y) y 0 hy hy2 (by omega) (by omega)
  rw [h1] at hi1
  clear h1
  obtain ⟨W1, hW1, sz1, g1, B1⟩ := boxn w #[.int .u8 k, .int .i64 x, .int .i64 y, .int .u8 t, .int .i64 z] 23
  obtain ⟨W2, hW2, sz2, g2, B2⟩ := boxn W1 #[.int .i64 a, .int .i64 b] 25
  have G2 := gb_trans g1 g2
  have B1x := B1.kept g2 (by simp)
  have b1_2_0 := B1x.cell 0 (v := .int .u8 k) rfl
  have b1_2_1 := B1x.cell 1 (v := .int .i64 x) rfl
  have b1_2_2 := B1x.cell 2 (v := .int .i64 y) rfl
  have b1_2_3 := B1x.cell 3 (v := .int .u8 t) rfl
  have b1_2_4 := B1x.cell 4 (v := .int .i64 z) rfl
  have b2_2_0 := B2.cell 0 (v := .int .i64 a) rfl
  have b2_2_1 := B2.cell 1 (v := .int .i64 b) rfl
  go_enter Try.func34, Try.ntmps34
  go_wp2
  go_quiet (first | (go_at_call_of 33 (Value.int IntKind.i64 x); refine Calls.quiet_of_same (hf1 _)) | (go_at_call_of 42 (Value.int IntKind.i64 (a - To.fi x)); refine Calls.quiet_of_same (hi1 _)) | (go_at_call_of 33 (Value.int IntKind.i64 y); refine Calls.quiet_of_same (hf2 _)) | (go_at_call_of 42 (Value.int IntKind.i64 (b - To.fi y)); refine Calls.quiet_of_same (hi2 _)))
  go_wp2
  go_ret
  exact ⟨rfl, gb_drewN G2 _⟩

set_option maxHeartbeats 1000000 in
theorem inF2 (k x y t z a b : Int) (hx : 0 ≤ x) (hx2 : x ≤ 65536) (hy : 0 ≤ y) (hy2 : y ≤ 65536) (ha : -1099511627776 ≤ a) (ha2 : a ≤ 1099511627776) (hb : -1099511627776 ≤ b) (hb2 : b ≤ 1099511627776) (h1 : inB (a - To.fi x) x 0 = true) (h2 : inB (b - To.fi y) y 0 = false) (w : World) : Calls Try.prog 34 #[.agg #[.int .u8 k, .int .i64 x, .int .i64 y, .int .u8 t, .int .i64 z], .agg #[.int .i64 a, .int .i64 b]] w fun e w' => e = .returned (.bool false) ∧ w.grownBy w' none := by
  have bx := fi_bd ⟨hx, hx2⟩
  have by' := fi_bd ⟨hy, hy2⟩
  obtain ⟨bx1, bx2⟩ := bx
  obtain ⟨by1, by2⟩ := by'
  have hf1 := refFirstC x hx hx2
  have hf2 := refFirstC y hy hy2
  have wu : IntKind.i64.wrap (a - To.fi x) = (a - To.fi x) := by rw [IntKind.wrap_i64]; omega
  have wv : IntKind.i64.wrap (b - To.fi y) = (b - To.fi y) := by rw [IntKind.wrap_i64]; omega
  have hi1 := refInsideC (a - To.fi x) x 0 hx hx2 (by omega) (by omega)
  have hi2 := refInsideC (b - To.fi y) y 0 hy hy2 (by omega) (by omega)
  rw [h1] at hi1
  clear h1
  rw [h2] at hi2
  clear h2
  obtain ⟨W1, hW1, sz1, g1, B1⟩ := boxn w #[.int .u8 k, .int .i64 x, .int .i64 y, .int .u8 t, .int .i64 z] 23
  obtain ⟨W2, hW2, sz2, g2, B2⟩ := boxn W1 #[.int .i64 a, .int .i64 b] 25
  have G2 := gb_trans g1 g2
  have B1x := B1.kept g2 (by simp)
  have b1_2_0 := B1x.cell 0 (v := .int .u8 k) rfl
  have b1_2_1 := B1x.cell 1 (v := .int .i64 x) rfl
  have b1_2_2 := B1x.cell 2 (v := .int .i64 y) rfl
  have b1_2_3 := B1x.cell 3 (v := .int .u8 t) rfl
  have b1_2_4 := B1x.cell 4 (v := .int .i64 z) rfl
  have b2_2_0 := B2.cell 0 (v := .int .i64 a) rfl
  have b2_2_1 := B2.cell 1 (v := .int .i64 b) rfl
  go_enter Try.func34, Try.ntmps34
  go_wp2
  go_quiet (first | (go_at_call_of 33 (Value.int IntKind.i64 x); refine Calls.quiet_of_same (hf1 _)) | (go_at_call_of 42 (Value.int IntKind.i64 (a - To.fi x)); refine Calls.quiet_of_same (hi1 _)) | (go_at_call_of 33 (Value.int IntKind.i64 y); refine Calls.quiet_of_same (hf2 _)) | (go_at_call_of 42 (Value.int IntKind.i64 (b - To.fi y)); refine Calls.quiet_of_same (hi2 _)))
  go_wp2
  go_ret
  exact ⟨rfl, gb_drewN G2 _⟩

set_option maxHeartbeats 1000000 in
theorem inT (k x y t z a b : Int) (hx : 0 ≤ x) (hx2 : x ≤ 65536) (hy : 0 ≤ y) (hy2 : y ≤ 65536) (ha : -1099511627776 ≤ a) (ha2 : a ≤ 1099511627776) (hb : -1099511627776 ≤ b) (hb2 : b ≤ 1099511627776) (h1 : inB (a - To.fi x) x 0 = true) (h2 : inB (b - To.fi y) y 0 = true) (w : World) : Calls Try.prog 34 #[.agg #[.int .u8 k, .int .i64 x, .int .i64 y, .int .u8 t, .int .i64 z], .agg #[.int .i64 a, .int .i64 b]] w fun e w' => e = .returned (.bool true) ∧ w.grownBy w' none := by
  have bx := fi_bd ⟨hx, hx2⟩
  have by' := fi_bd ⟨hy, hy2⟩
  obtain ⟨bx1, bx2⟩ := bx
  obtain ⟨by1, by2⟩ := by'
  have hf1 := refFirstC x hx hx2
  have hf2 := refFirstC y hy hy2
  have wu : IntKind.i64.wrap (a - To.fi x) = (a - To.fi x) := by rw [IntKind.wrap_i64]; omega
  have wv : IntKind.i64.wrap (b - To.fi y) = (b - To.fi y) := by rw [IntKind.wrap_i64]; omega
  have hi1 := refInsideC (a - To.fi x) x 0 hx hx2 (by omega) (by omega)
  have hi2 := refInsideC (b - To.fi y) y 0 hy hy2 (by omega) (by omega)
  rw [h1] at hi1
  clear h1
  rw [h2] at hi2
  clear h2
  obtain ⟨W1, hW1, sz1, g1, B1⟩ := boxn w #[.int .u8 k, .int .i64 x, .int .i64 y, .int .u8 t, .int .i64 z] 23
  obtain ⟨W2, hW2, sz2, g2, B2⟩ := boxn W1 #[.int .i64 a, .int .i64 b] 25
  have G2 := gb_trans g1 g2
  have B1x := B1.kept g2 (by simp)
  have b1_2_0 := B1x.cell 0 (v := .int .u8 k) rfl
  have b1_2_1 := B1x.cell 1 (v := .int .i64 x) rfl
  have b1_2_2 := B1x.cell 2 (v := .int .i64 y) rfl
  have b1_2_3 := B1x.cell 3 (v := .int .u8 t) rfl
  have b1_2_4 := B1x.cell 4 (v := .int .i64 z) rfl
  have b2_2_0 := B2.cell 0 (v := .int .i64 a) rfl
  have b2_2_1 := B2.cell 1 (v := .int .i64 b) rfl
  go_enter Try.func34, Try.ntmps34
  go_wp2
  go_quiet (first | (go_at_call_of 33 (Value.int IntKind.i64 x); refine Calls.quiet_of_same (hf1 _)) | (go_at_call_of 42 (Value.int IntKind.i64 (a - To.fi x)); refine Calls.quiet_of_same (hi1 _)) | (go_at_call_of 33 (Value.int IntKind.i64 y); refine Calls.quiet_of_same (hf2 _)) | (go_at_call_of 42 (Value.int IntKind.i64 (b - To.fi y)); refine Calls.quiet_of_same (hi2 _)))
  go_wp2
  go_ret
  exact ⟨rfl, gb_drewN G2 _⟩

theorem in_li (n l : Int) : inB (n - To.fi l) l 0 = To.liB n l := by
  have h := li_iff (n := n) (l := l)
  have h2 : inB (n - To.fi l) l 0 = true ↔ l = 0 ∨ (0 ≤ n - To.fi l ∧ n - To.fi l < l) := by
    unfold inB
    simp only [Bool.or_eq_true, Bool.and_eq_true, decide_eq_true_eq]
    omega
  exact Bool.eq_iff_iff.2 (h2.trans h.symm)
theorem refInC (k x y t z a b : Int) (ok : Tp.Ok k x y t z) (h1 : To.frB a = false) (h2 : To.frB b = false) (w : World) : Calls Try.prog 34 #[.agg #[.int .u8 k, .int .i64 x, .int .i64 y, .int .u8 t, .int .i64 z], .agg #[.int .i64 a, .int .i64 b]] w fun e w' => e = .returned (.bool (giB x y a b)) ∧ w.grownBy w' none := by
  have hx := ok.wide
  have hy := ok.high
  have ba := fr_bd h1
  have bb := fr_bd h2
  unfold giB
  rw [← in_li, ← in_li]
  cases q1 : inB (a - To.fi x) x 0
  · exact inF1 k x y t z a b hx.1 hx.2 hy.1 hy.2 ba.1 ba.2 bb.1 bb.2 q1 w
  · cases q2 : inB (b - To.fi y) y 0
    · exact inF2 k x y t z a b hx.1 hx.2 hy.1 hy.2 ba.1 ba.2 bb.1 bb.2 q1 q2 w
    · exact inT k x y t z a b hx.1 hx.2 hy.1 hy.2 ba.1 ba.2 bb.1 bb.2 q1 q2 w

set_option maxHeartbeats 1000000 in
theorem refCellX (k x y t z a b E : Int) (hE : (E == 0) = false) (hr : ∀ w, Calls Try.prog 30 #[.agg #[.int .u8 k, .int .i64 x, .int .i64 y, .int .u8 t, .int .i64 z], .agg #[.int .i64 a, .int .i64 b]] w fun e w' => e = .returned (.int .i64 E) ∧ w.grownBy w' none) (w : World) : Calls Try.prog 11 #[.agg #[.int .u8 k, .int .i64 x, .int .i64 y, .int .u8 t, .int .i64 z], .agg #[.int .i64 a, .int .i64 b]] w fun e w' => e = .returned (.tuple #[.agg #[.int .i64 0, .int .i64 0], .int .i64 E]) ∧ w.grownBy w' none := by
  obtain ⟨fs, hfs⟩ := underP
  obtain ⟨W1, hW1, sz1, g1, B1⟩ := boxn w #[.int .u8 k, .int .i64 x, .int .i64 y, .int .u8 t, .int .i64 z] 23
  obtain ⟨W2, hW2, sz2, g2, B2⟩ := boxn W1 #[.int .i64 a, .int .i64 b] 25
  have G2 := gb_trans g1 g2
  have B1x := B1.kept g2 (by simp)
  obtain ⟨W3, hW3, sz3, g3, B3⟩ := boxn W2 #[.int .i64 0, .int .i64 0] 25
  have G3 := gb_trans G2 g3
  have B1xx := B1x.kept g3 (by simp)
  have B2x := B2.kept g3 (by simp)
  have b1_3_0 := B1xx.cell 0 (v := .int .u8 k) rfl
  have b1_3_1 := B1xx.cell 1 (v := .int .i64 x) rfl
  have b1_3_2 := B1xx.cell 2 (v := .int .i64 y) rfl
  have b1_3_3 := B1xx.cell 3 (v := .int .u8 t) rfl
  have b1_3_4 := B1xx.cell 4 (v := .int .i64 z) rfl
  have b2_3_0 := B2x.cell 0 (v := .int .i64 a) rfl
  have b2_3_1 := B2x.cell 1 (v := .int .i64 b) rfl
  have b3_3_0 := B3.cell 0 (v := .int .i64 0) rfl
  have b3_3_1 := B3.cell 1 (v := .int .i64 0) rfl
  have zb3_3_0 := B3.frozen 0
  have zb3_3_1 := B3.frozen 1
  go_enter Try.func11, Try.ntmps11
  go_wp2_with (first | (go_at_call 30; (fail_if_success (guard_hyp g4)); refine (hr _).mono ?_; rintro e w4 ⟨rfl, g4⟩; have G4 := gb_trans G3 g4; have B1xxx := B1xx.kept g4 (by simp); have B2xx := B2x.kept g4 (by simp); have B3x := B3.kept g4 (by simp); clear b1_3_0 b1_3_1 b1_3_2 b1_3_3 b1_3_4 b2_3_0 b2_3_1 b3_3_0 b3_3_1 zb3_3_0 zb3_3_1; have b1_4_0 := B1xxx.cell 0 (v := .int .u8 k) rfl; have b1_4_1 := B1xxx.cell 1 (v := .int .i64 x) rfl; have b1_4_2 := B1xxx.cell 2 (v := .int .i64 y) rfl; have b1_4_3 := B1xxx.cell 3 (v := .int .u8 t) rfl; have b1_4_4 := B1xxx.cell 4 (v := .int .i64 z) rfl; have b2_4_0 := B2xx.cell 0 (v := .int .i64 a) rfl; have b2_4_1 := B2xx.cell 1 (v := .int .i64 b) rfl; have b3_4_0 := B3x.cell 0 (v := .int .i64 0) rfl; have b3_4_1 := B3x.cell 1 (v := .int .i64 0) rfl; have zb3_4_0 := B3x.frozen 0; have zb3_4_1 := B3x.frozen 1))
  refine ret_c2 (g := W2.heap.size) (cs := #[.int .i64 0, .int .i64 0]) rfl hfs infoP rfl (bo2 B3x) rfl ⟨rfl, gb2 G4 G2.size⟩

set_option maxHeartbeats 1000000 in
theorem refCellO (k x y t z a b : Int) (hr : ∀ w, Calls Try.prog 30 #[.agg #[.int .u8 k, .int .i64 x, .int .i64 y, .int .u8 t, .int .i64 z], .agg #[.int .i64 a, .int .i64 b]] w fun e w' => e = .returned (.int .i64 0) ∧ w.grownBy w' none) (hgl : glB k = false) (hi : ∀ w, Calls Try.prog 34 #[.agg #[.int .u8 k, .int .i64 x, .int .i64 y, .int .u8 t, .int .i64 z], .agg #[.int .i64 a, .int .i64 b]] w fun e w' => e = .returned (.bool false) ∧ w.grownBy w' none) (w : World) : Calls Try.prog 11 #[.agg #[.int .u8 k, .int .i64 x, .int .i64 y, .int .u8 t, .int .i64 z], .agg #[.int .i64 a, .int .i64 b]] w fun e w' => e = .returned (.tuple #[.agg #[.int .i64 0, .int .i64 0], .int .i64 60]) ∧ w.grownBy w' none := by
  obtain ⟨fs, hfs⟩ := underP
  have hg := refGluedC k x y t z
  rw [hgl] at hg
  clear hgl
  obtain ⟨W1, hW1, sz1, g1, B1⟩ := boxn w #[.int .u8 k, .int .i64 x, .int .i64 y, .int .u8 t, .int .i64 z] 23
  obtain ⟨W2, hW2, sz2, g2, B2⟩ := boxn W1 #[.int .i64 a, .int .i64 b] 25
  have G2 := gb_trans g1 g2
  have B1x := B1.kept g2 (by simp)
  obtain ⟨W3, hW3, sz3, g3, B3⟩ := boxn W2 #[.int .i64 0, .int .i64 0] 25
  have G3 := gb_trans G2 g3
  have B1xx := B1x.kept g3 (by simp)
  have B2x := B2.kept g3 (by simp)
  have b1_3_0 := B1xx.cell 0 (v := .int .u8 k) rfl
  have b1_3_1 := B1xx.cell 1 (v := .int .i64 x) rfl
  have b1_3_2 := B1xx.cell 2 (v := .int .i64 y) rfl
  have b1_3_3 := B1xx.cell 3 (v := .int .u8 t) rfl
  have b1_3_4 := B1xx.cell 4 (v := .int .i64 z) rfl
  have b2_3_0 := B2x.cell 0 (v := .int .i64 a) rfl
  have b2_3_1 := B2x.cell 1 (v := .int .i64 b) rfl
  have b3_3_0 := B3.cell 0 (v := .int .i64 0) rfl
  have b3_3_1 := B3.cell 1 (v := .int .i64 0) rfl
  have zb3_3_0 := B3.frozen 0
  have zb3_3_1 := B3.frozen 1
  go_enter Try.func11, Try.ntmps11
  go_wp2_with (first | (go_at_call 30; (fail_if_success (guard_hyp g4)); refine (hr _).mono ?_; rintro e w4 ⟨rfl, g4⟩; have G4 := gb_trans G3 g4; have B1xxx := B1xx.kept g4 (by simp); have B2xx := B2x.kept g4 (by simp); have B3x := B3.kept g4 (by simp); clear b1_3_0 b1_3_1 b1_3_2 b1_3_3 b1_3_4 b2_3_0 b2_3_1 b3_3_0 b3_3_1 zb3_3_0 zb3_3_1; have b1_4_0 := B1xxx.cell 0 (v := .int .u8 k) rfl; have b1_4_1 := B1xxx.cell 1 (v := .int .i64 x) rfl; have b1_4_2 := B1xxx.cell 2 (v := .int .i64 y) rfl; have b1_4_3 := B1xxx.cell 3 (v := .int .u8 t) rfl; have b1_4_4 := B1xxx.cell 4 (v := .int .i64 z) rfl; have b2_4_0 := B2xx.cell 0 (v := .int .i64 a) rfl; have b2_4_1 := B2xx.cell 1 (v := .int .i64 b) rfl; have b3_4_0 := B3x.cell 0 (v := .int .i64 0) rfl; have b3_4_1 := B3x.cell 1 (v := .int .i64 0) rfl; have zb3_4_0 := B3x.frozen 0; have zb3_4_1 := B3x.frozen 1) | (go_at_call 31; (fail_if_success (guard_hyp g5)); refine (hg _).mono ?_; rintro e w5 ⟨rfl, g5⟩; have G5 := gb_trans G4 g5; have B1xxxx := B1xxx.kept g5 (by simp); have B2xxx := B2xx.kept g5 (by simp); have B3xx := B3x.kept g5 (by simp); clear b1_4_0 b1_4_1 b1_4_2 b1_4_3 b1_4_4 b2_4_0 b2_4_1 b3_4_0 b3_4_1 zb3_4_0 zb3_4_1; have b1_5_0 := B1xxxx.cell 0 (v := .int .u8 k) rfl; have b1_5_1 := B1xxxx.cell 1 (v := .int .i64 x) rfl; have b1_5_2 := B1xxxx.cell 2 (v := .int .i64 y) rfl; have b1_5_3 := B1xxxx.cell 3 (v := .int .u8 t) rfl; have b1_5_4 := B1xxxx.cell 4 (v := .int .i64 z) rfl; have b2_5_0 := B2xxx.cell 0 (v := .int .i64 a) rfl; have b2_5_1 := B2xxx.cell 1 (v := .int .i64 b) rfl; have b3_5_0 := B3xx.cell 0 (v := .int .i64 0) rfl; have b3_5_1 := B3xx.cell 1 (v := .int .i64 0) rfl; have zb3_5_0 := B3xx.frozen 0; have zb3_5_1 := B3xx.frozen 1) | (go_at_call 34; (fail_if_success (guard_hyp g6)); refine (hi _).mono ?_; rintro e w6 ⟨rfl, g6⟩; have G6 := gb_trans G5 g6; have B1xxxxx := B1xxxx.kept g6 (by simp); have B2xxxx := B2xxx.kept g6 (by simp); have B3xxx := B3xx.kept g6 (by simp); clear b1_5_0 b1_5_1 b1_5_2 b1_5_3 b1_5_4 b2_5_0 b2_5_1 b3_5_0 b3_5_1 zb3_5_0 zb3_5_1; have b1_6_0 := B1xxxxx.cell 0 (v := .int .u8 k) rfl; have b1_6_1 := B1xxxxx.cell 1 (v := .int .i64 x) rfl; have b1_6_2 := B1xxxxx.cell 2 (v := .int .i64 y) rfl; have b1_6_3 := B1xxxxx.cell 3 (v := .int .u8 t) rfl; have b1_6_4 := B1xxxxx.cell 4 (v := .int .i64 z) rfl; have b2_6_0 := B2xxxx.cell 0 (v := .int .i64 a) rfl; have b2_6_1 := B2xxxx.cell 1 (v := .int .i64 b) rfl; have b3_6_0 := B3xxx.cell 0 (v := .int .i64 0) rfl; have b3_6_1 := B3xxx.cell 1 (v := .int .i64 0) rfl; have zb3_6_0 := B3xxx.frozen 0; have zb3_6_1 := B3xxx.frozen 1))
  refine ret_c2 (g := W2.heap.size) (cs := #[.int .i64 0, .int .i64 0]) rfl hfs infoP rfl (bo2 B3xxx) rfl ⟨rfl, gb2 G6 G2.size⟩

set_option maxHeartbeats 1000000 in
theorem refCellI (k x y t z a b : Int) (hr : ∀ w, Calls Try.prog 30 #[.agg #[.int .u8 k, .int .i64 x, .int .i64 y, .int .u8 t, .int .i64 z], .agg #[.int .i64 a, .int .i64 b]] w fun e w' => e = .returned (.int .i64 0) ∧ w.grownBy w' none) (hgl : glB k = false) (hi : ∀ w, Calls Try.prog 34 #[.agg #[.int .u8 k, .int .i64 x, .int .i64 y, .int .u8 t, .int .i64 z], .agg #[.int .i64 a, .int .i64 b]] w fun e w' => e = .returned (.bool true) ∧ w.grownBy w' none) (w : World) : Calls Try.prog 11 #[.agg #[.int .u8 k, .int .i64 x, .int .i64 y, .int .u8 t, .int .i64 z], .agg #[.int .i64 a, .int .i64 b]] w fun e w' => e = .returned (.tuple #[.agg #[.int .i64 a, .int .i64 b], .int .i64 0]) ∧ w.grownBy w' none := by
  obtain ⟨fs, hfs⟩ := underP
  have hg := refGluedC k x y t z
  rw [hgl] at hg
  clear hgl
  obtain ⟨W1, hW1, sz1, g1, B1⟩ := boxn w #[.int .u8 k, .int .i64 x, .int .i64 y, .int .u8 t, .int .i64 z] 23
  obtain ⟨W2, hW2, sz2, g2, B2⟩ := boxn W1 #[.int .i64 a, .int .i64 b] 25
  have G2 := gb_trans g1 g2
  have B1x := B1.kept g2 (by simp)
  obtain ⟨W3, hW3, sz3, g3, B3⟩ := boxn W2 #[.int .i64 0, .int .i64 0] 25
  have G3 := gb_trans G2 g3
  have B1xx := B1x.kept g3 (by simp)
  have B2x := B2.kept g3 (by simp)
  have b1_3_0 := B1xx.cell 0 (v := .int .u8 k) rfl
  have b1_3_1 := B1xx.cell 1 (v := .int .i64 x) rfl
  have b1_3_2 := B1xx.cell 2 (v := .int .i64 y) rfl
  have b1_3_3 := B1xx.cell 3 (v := .int .u8 t) rfl
  have b1_3_4 := B1xx.cell 4 (v := .int .i64 z) rfl
  have b2_3_0 := B2x.cell 0 (v := .int .i64 a) rfl
  have b2_3_1 := B2x.cell 1 (v := .int .i64 b) rfl
  have b3_3_0 := B3.cell 0 (v := .int .i64 0) rfl
  have b3_3_1 := B3.cell 1 (v := .int .i64 0) rfl
  have zb3_3_0 := B3.frozen 0
  have zb3_3_1 := B3.frozen 1
  go_enter Try.func11, Try.ntmps11
  go_wp2_with (first | (go_at_call 30; (fail_if_success (guard_hyp g4)); refine (hr _).mono ?_; rintro e w4 ⟨rfl, g4⟩; have G4 := gb_trans G3 g4; have B1xxx := B1xx.kept g4 (by simp); have B2xx := B2x.kept g4 (by simp); have B3x := B3.kept g4 (by simp); clear b1_3_0 b1_3_1 b1_3_2 b1_3_3 b1_3_4 b2_3_0 b2_3_1 b3_3_0 b3_3_1 zb3_3_0 zb3_3_1; have b1_4_0 := B1xxx.cell 0 (v := .int .u8 k) rfl; have b1_4_1 := B1xxx.cell 1 (v := .int .i64 x) rfl; have b1_4_2 := B1xxx.cell 2 (v := .int .i64 y) rfl; have b1_4_3 := B1xxx.cell 3 (v := .int .u8 t) rfl; have b1_4_4 := B1xxx.cell 4 (v := .int .i64 z) rfl; have b2_4_0 := B2xx.cell 0 (v := .int .i64 a) rfl; have b2_4_1 := B2xx.cell 1 (v := .int .i64 b) rfl; have b3_4_0 := B3x.cell 0 (v := .int .i64 0) rfl; have b3_4_1 := B3x.cell 1 (v := .int .i64 0) rfl; have zb3_4_0 := B3x.frozen 0; have zb3_4_1 := B3x.frozen 1) | (go_at_call 31; (fail_if_success (guard_hyp g5)); refine (hg _).mono ?_; rintro e w5 ⟨rfl, g5⟩; have G5 := gb_trans G4 g5; have B1xxxx := B1xxx.kept g5 (by simp); have B2xxx := B2xx.kept g5 (by simp); have B3xx := B3x.kept g5 (by simp); clear b1_4_0 b1_4_1 b1_4_2 b1_4_3 b1_4_4 b2_4_0 b2_4_1 b3_4_0 b3_4_1 zb3_4_0 zb3_4_1; have b1_5_0 := B1xxxx.cell 0 (v := .int .u8 k) rfl; have b1_5_1 := B1xxxx.cell 1 (v := .int .i64 x) rfl; have b1_5_2 := B1xxxx.cell 2 (v := .int .i64 y) rfl; have b1_5_3 := B1xxxx.cell 3 (v := .int .u8 t) rfl; have b1_5_4 := B1xxxx.cell 4 (v := .int .i64 z) rfl; have b2_5_0 := B2xxx.cell 0 (v := .int .i64 a) rfl; have b2_5_1 := B2xxx.cell 1 (v := .int .i64 b) rfl; have b3_5_0 := B3xx.cell 0 (v := .int .i64 0) rfl; have b3_5_1 := B3xx.cell 1 (v := .int .i64 0) rfl; have zb3_5_0 := B3xx.frozen 0; have zb3_5_1 := B3xx.frozen 1) | (go_at_call 34; (fail_if_success (guard_hyp g6)); refine (hi _).mono ?_; rintro e w6 ⟨rfl, g6⟩; have G6 := gb_trans G5 g6; have B1xxxxx := B1xxxx.kept g6 (by simp); have B2xxxx := B2xxx.kept g6 (by simp); have B3xxx := B3xx.kept g6 (by simp); clear b1_5_0 b1_5_1 b1_5_2 b1_5_3 b1_5_4 b2_5_0 b2_5_1 b3_5_0 b3_5_1 zb3_5_0 zb3_5_1; have b1_6_0 := B1xxxxx.cell 0 (v := .int .u8 k) rfl; have b1_6_1 := B1xxxxx.cell 1 (v := .int .i64 x) rfl; have b1_6_2 := B1xxxxx.cell 2 (v := .int .i64 y) rfl; have b1_6_3 := B1xxxxx.cell 3 (v := .int .u8 t) rfl; have b1_6_4 := B1xxxxx.cell 4 (v := .int .i64 z) rfl; have b2_6_0 := B2xxxx.cell 0 (v := .int .i64 a) rfl; have b2_6_1 := B2xxxx.cell 1 (v := .int .i64 b) rfl; have b3_6_0 := B3xxx.cell 0 (v := .int .i64 0) rfl; have b3_6_1 := B3xxx.cell 1 (v := .int .i64 0) rfl; have zb3_6_0 := B3xxx.frozen 0; have zb3_6_1 := B3xxx.frozen 1))
  refine ret_c2 (g := W2.heap.size) (cs := #[.int .i64 a, .int .i64 b]) rfl hfs infoP rfl (bo2 B3xxx) rfl ⟨rfl, gb2 G6 G2.size⟩

set_option maxHeartbeats 1000000 in
theorem refCellG (k x y t z a b : Int) (hx : 0 ≤ x) (hx2 : x ≤ 65536) (hy : 0 ≤ y) (hy2 : y ≤ 65536) (ha : -1099511627776 ≤ a) (ha2 : a ≤ 1099511627776) (hb : -1099511627776 ≤ b) (hb2 : b ≤ 1099511627776) (hr : ∀ w, Calls Try.prog 30 #[.agg #[.int .u8 k, .int .i64 x, .int .i64 y, .int .u8 t, .int .i64 z], .agg #[.int .i64 a, .int .i64 b]] w fun e w' => e = .returned (.int .i64 0) ∧ w.grownBy w' none) (hgl : glB k = true) (X Y P Q : Int) (hfo : ∀ w, Calls Try.prog 32 #[.agg #[.int .u8 k, .int .i64 x, .int .i64 y, .int .u8 t, .int .i64 z], .int .i64 (a - To.fi x), .int .i64 (b - To.fi y)] w fun e w' => e = .returned (.tuple #[.int .i64 X, .int .i64 Y]) ∧ w.grownBy w' none) (hP : IntKind.i64.wrap (X + To.fi x) = P) (hQ : IntKind.i64.wrap (Y + To.fi y) = Q) (w : World) : Calls Try.prog 11 #[.agg #[.int .u8 k, .int .i64 x, .int .i64 y, .int .u8 t, .int .i64 z], .agg #[.int .i64 a, .int .i64 b]] w fun e w' => e = .returned (.tuple #[.agg #[.int .i64 P, .int .i64 Q], .int .i64 0]) ∧ w.grownBy w' none := by
  obtain ⟨fs, hfs⟩ := underP
  have hg := refGluedC k x y t z
  rw [hgl] at hg
  clear hgl
  have bx := fi_bd ⟨hx, hx2⟩
  have by' := fi_bd ⟨hy, hy2⟩
  obtain ⟨bx1, bx2⟩ := bx
  obtain ⟨by1, by2⟩ := by'
  have hf1 := refFirstC x hx hx2
  have hf2 := refFirstC y hy hy2
  have wu : IntKind.i64.wrap (a - To.fi x) = (a - To.fi x) := by rw [IntKind.wrap_i64]; omega
  have wv : IntKind.i64.wrap (b - To.fi y) = (b - To.fi y) := by rw [IntKind.wrap_i64]; omega
  obtain ⟨W1, hW1, sz1, g1, B1⟩ := boxn w #[.int .u8 k, .int .i64 x, .int .i64 y, .int .u8 t, .int .i64 z] 23
  obtain ⟨W2, hW2, sz2, g2, B2⟩ := boxn W1 #[.int .i64 a, .int .i64 b] 25
  have G2 := gb_trans g1 g2
  have B1x := B1.kept g2 (by simp)
  obtain ⟨W3, hW3, sz3, g3, B3⟩ := boxn W2 #[.int .i64 0, .int .i64 0] 25
  have G3 := gb_trans G2 g3
  have B1xx := B1x.kept g3 (by simp)
  have B2x := B2.kept g3 (by simp)
  have b1_3_0 := B1xx.cell 0 (v := .int .u8 k) rfl
  have b1_3_1 := B1xx.cell 1 (v := .int .i64 x) rfl
  have b1_3_2 := B1xx.cell 2 (v := .int .i64 y) rfl
  have b1_3_3 := B1xx.cell 3 (v := .int .u8 t) rfl
  have b1_3_4 := B1xx.cell 4 (v := .int .i64 z) rfl
  have b2_3_0 := B2x.cell 0 (v := .int .i64 a) rfl
  have b2_3_1 := B2x.cell 1 (v := .int .i64 b) rfl
  have b3_3_0 := B3.cell 0 (v := .int .i64 0) rfl
  have b3_3_1 := B3.cell 1 (v := .int .i64 0) rfl
  have zb3_3_0 := B3.frozen 0
  have zb3_3_1 := B3.frozen 1
  go_enter Try.func11, Try.ntmps11
  go_wp2_with (first | (go_at_call 30; (fail_if_success (guard_hyp g4)); refine (hr _).mono ?_; rintro e w4 ⟨rfl, g4⟩; have G4 := gb_trans G3 g4; have B1xxx := B1xx.kept g4 (by simp); have B2xx := B2x.kept g4 (by simp); have B3x := B3.kept g4 (by simp); clear b1_3_0 b1_3_1 b1_3_2 b1_3_3 b1_3_4 b2_3_0 b2_3_1 b3_3_0 b3_3_1 zb3_3_0 zb3_3_1; have b1_4_0 := B1xxx.cell 0 (v := .int .u8 k) rfl; have b1_4_1 := B1xxx.cell 1 (v := .int .i64 x) rfl; have b1_4_2 := B1xxx.cell 2 (v := .int .i64 y) rfl; have b1_4_3 := B1xxx.cell 3 (v := .int .u8 t) rfl; have b1_4_4 := B1xxx.cell 4 (v := .int .i64 z) rfl; have b2_4_0 := B2xx.cell 0 (v := .int .i64 a) rfl; have b2_4_1 := B2xx.cell 1 (v := .int .i64 b) rfl; have b3_4_0 := B3x.cell 0 (v := .int .i64 0) rfl; have b3_4_1 := B3x.cell 1 (v := .int .i64 0) rfl; have zb3_4_0 := B3x.frozen 0; have zb3_4_1 := B3x.frozen 1) | (go_at_call 31; (fail_if_success (guard_hyp g5)); refine (hg _).mono ?_; rintro e w5 ⟨rfl, g5⟩; have G5 := gb_trans G4 g5; have B1xxxx := B1xxx.kept g5 (by simp); have B2xxx := B2xx.kept g5 (by simp); have B3xx := B3x.kept g5 (by simp); clear b1_4_0 b1_4_1 b1_4_2 b1_4_3 b1_4_4 b2_4_0 b2_4_1 b3_4_0 b3_4_1 zb3_4_0 zb3_4_1; have b1_5_0 := B1xxxx.cell 0 (v := .int .u8 k) rfl; have b1_5_1 := B1xxxx.cell 1 (v := .int .i64 x) rfl; have b1_5_2 := B1xxxx.cell 2 (v := .int .i64 y) rfl; have b1_5_3 := B1xxxx.cell 3 (v := .int .u8 t) rfl; have b1_5_4 := B1xxxx.cell 4 (v := .int .i64 z) rfl; have b2_5_0 := B2xxx.cell 0 (v := .int .i64 a) rfl; have b2_5_1 := B2xxx.cell 1 (v := .int .i64 b) rfl; have b3_5_0 := B3xx.cell 0 (v := .int .i64 0) rfl; have b3_5_1 := B3xx.cell 1 (v := .int .i64 0) rfl; have zb3_5_0 := B3xx.frozen 0; have zb3_5_1 := B3xx.frozen 1))
  go_region_held2 (fun w' => w'.cell? ⟨w.heap.size, 0, none⟩ = some (.int .u8 k) ∧ w'.cell? ⟨w.heap.size, 1, none⟩ = some (.int .i64 x) ∧ w'.cell? ⟨w.heap.size, 2, none⟩ = some (.int .i64 y) ∧ w'.cell? ⟨w.heap.size, 3, none⟩ = some (.int .u8 t) ∧ w'.cell? ⟨w.heap.size, 4, none⟩ = some (.int .i64 z) ∧ w'.cell? ⟨W1.heap.size, 0, none⟩ = some (.int .i64 a) ∧ w'.cell? ⟨W1.heap.size, 1, none⟩ = some (.int .i64 b)) (go_keep) (first | (go_at_call 33; (fail_if_success (guard_hyp mf1)); refine (hf1 _).mono ?_; rintro e w' ⟨rfl, hw'⟩; subst w'; have mf1 : True := trivial) | (go_at_call 33; (fail_if_success (guard_hyp mf2)); refine (hf2 _).mono ?_; rintro e w' ⟨rfl, hw'⟩; subst w'; have mf2 : True := trivial) | (go_at_call 32; refine (hfo _).mono ?_; rintro e w6 ⟨rfl, g6⟩; have G6 := gb_trans (gb_drew G5) g6; have B1xxxxr := B1xxxx.dr.kept g6 (by simp); have B2xxxr := B2xxx.dr.kept g6 (by simp); have B3xxr := B3xx.dr.kept g6 (by simp); have b1_6_0 := B1xxxxr.cell 0 (v := .int .u8 k) rfl; have b1_6_1 := B1xxxxr.cell 1 (v := .int .i64 x) rfl; have b1_6_2 := B1xxxxr.cell 2 (v := .int .i64 y) rfl; have b1_6_3 := B1xxxxr.cell 3 (v := .int .u8 t) rfl; have b1_6_4 := B1xxxxr.cell 4 (v := .int .i64 z) rfl; have b2_6_0 := B2xxxr.cell 0 (v := .int .i64 a) rfl; have b2_6_1 := B2xxxr.cell 1 (v := .int .i64 b) rfl; have b3_6_0 := B3xxr.cell 0 (v := .int .i64 0) rfl; have b3_6_1 := B3xxr.cell 1 (v := .int .i64 0) rfl; have zb3_6_0 := B3xxr.frozen 0; have zb3_6_1 := B3xxr.frozen 1))
  go_wp2
  have ap0 := Nat.ne_of_lt B1x.lt
  have aq0 := Nat.ne_of_gt B1x.lt
  have ap1 := Nat.ne_of_lt B2.lt
  have aq1 := Nat.ne_of_gt B2.lt
  go_region_held2 (fun w' => w'.cell? ⟨w.heap.size, 0, none⟩ = some (.int .u8 k) ∧ w'.cell? ⟨w.heap.size, 1, none⟩ = some (.int .i64 x) ∧ w'.cell? ⟨w.heap.size, 2, none⟩ = some (.int .i64 y) ∧ w'.cell? ⟨w.heap.size, 3, none⟩ = some (.int .u8 t) ∧ w'.cell? ⟨w.heap.size, 4, none⟩ = some (.int .i64 z) ∧ w'.cell? ⟨W1.heap.size, 0, none⟩ = some (.int .i64 a) ∧ w'.cell? ⟨W1.heap.size, 1, none⟩ = some (.int .i64 b)) (go_keep) (first | (go_at_call 33; (fail_if_success (guard_hyp mf3)); refine (hf1 _).mono ?_; rintro e w' ⟨rfl, hw'⟩; subst w'; have mf3 : True := trivial) | (go_at_call 33; (fail_if_success (guard_hyp mf4)); refine (hf2 _).mono ?_; rintro e w' ⟨rfl, hw'⟩; subst w'; have mf4 : True := trivial))
  all_goals go_wp2
  all_goals refine ret_c2 (g := W2.heap.size) (cs := #[.int .i64 P, .int .i64 Q]) rfl hfs infoP rfl (bo2 B3xxr).dr rfl ⟨rfl, gb_drew (gb2 G6 G2.size)⟩
end Go.Proofs.Ytgiiaokkmnjckaa
