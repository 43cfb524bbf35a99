/- What the document's Near, Turn, quarters, whole and parts answer. -/
import Derived.Test.YtgiiaokkmnjckaaI7
namespace Go.Proofs.Ytgiiaokkmnjckaa
open Go.RowKit
open Fl
set_option linter.unusedVariables false
set_option linter.unusedSimpArgs false
set_option maxRecDepth 100000

theorem refTurn0 (w : World) : Calls Try.prog 103 #[.int .i64 0] w fun e w' => e = .returned (.complex .f64 4607182418800017408 0) ∧ w.grownBy w' none := by
  have st := stC
  go_enter Try.func103, Try.ntmps103
  go_wp2
  go_ret
  exact ⟨rfl, World.grownBy_alloc _ _ _⟩

theorem refTurn1 (w : World) : Calls Try.prog 103 #[.int .i64 1] w fun e w' => e = .returned (.complex .f64 0 4607182418800017408) ∧ w.grownBy w' none := by
  have st := stC
  go_enter Try.func103, Try.ntmps103
  go_wp2
  go_ret
  exact ⟨rfl, World.grownBy_alloc _ _ _⟩

theorem refTurn2 (w : World) : Calls Try.prog 103 #[.int .i64 2] w fun e w' => e = .returned (.complex .f64 13830554455654793216 0) ∧ w.grownBy w' none := by
  have st := stC
  go_enter Try.func103, Try.ntmps103
  go_wp2
  go_ret
  exact ⟨rfl, World.grownBy_alloc _ _ _⟩

theorem refTurn3 (w : World) : Calls Try.prog 103 #[.int .i64 3] w fun e w' => e = .returned (.complex .f64 0 13830554455654793216) ∧ w.grownBy w' none := by
  have st := stC
  go_enter Try.func103, Try.ntmps103
  go_wp2
  go_ret
  exact ⟨rfl, World.grownBy_alloc _ _ _⟩

theorem refTurn4 (w : World) : Calls Try.prog 103 #[.int .i64 4] w fun e w' => e = .returned (.complex .f64 4607182418800017408 0) ∧ w.grownBy w' none := by
  have st := stC
  go_enter Try.func103, Try.ntmps103
  go_wp2
  go_ret
  exact ⟨rfl, World.grownBy_alloc _ _ _⟩

theorem refTurn5 (w : World) : Calls Try.prog 103 #[.int .i64 5] w fun e w' => e = .returned (.complex .f64 0 4607182418800017408) ∧ w.grownBy w' none := by
  have st := stC
  go_enter Try.func103, Try.ntmps103
  go_wp2
  go_ret
  exact ⟨rfl, World.grownBy_alloc _ _ _⟩

theorem refTurn6 (w : World) : Calls Try.prog 103 #[.int .i64 6] w fun e w' => e = .returned (.complex .f64 13830554455654793216 0) ∧ w.grownBy w' none := by
  have st := stC
  go_enter Try.func103, Try.ntmps103
  go_wp2
  go_ret
  exact ⟨rfl, World.grownBy_alloc _ _ _⟩

theorem refTurn7 (w : World) : Calls Try.prog 103 #[.int .i64 7] w fun e w' => e = .returned (.complex .f64 0 13830554455654793216) ∧ w.grownBy w' none := by
  have st := stC
  go_enter Try.func103, Try.ntmps103
  go_wp2
  go_ret
  exact ⟨rfl, World.grownBy_alloc _ _ _⟩

theorem refTurnC (k : Nat) (h : k < 8) (w : World) : Calls Try.prog 103 #[.int .i64 k] w fun e w' => e = .returned (.complex .f64 (pa k) (pb k)) ∧ w.grownBy w' none := by
  obtain rfl | rfl | rfl | rfl | rfl | rfl | rfl | rfl : k = 0 ∨ k = 1 ∨ k = 2 ∨ k = 3 ∨ k = 4 ∨ k = 5 ∨ k = 6 ∨ k = 7 := by omega
  · exact refTurn0 w
  · exact refTurn1 w
  · exact refTurn2 w
  · exact refTurn3 w
  · exact refTurn4 w
  · exact refTurn5 w
  · exact refTurn6 w
  · exact refTurn7 w

theorem refQuartersYes (a b q : Nat) (hq : q < 4) (ha : Is a (tx q)) (hb : Is b (ty q)) (w : World) : Calls Try.prog 94 #[.complex .f64 a b] w fun e w' => e = .returned (.int .i64 q) ∧ w.grownBy w' none := by
  have o1 := is_order ha is1
  have o2 := is_order ha is0
  have o3 := is_order ha isM1
  have p1 := is_order hb is1
  have p2 := is_order hb is0
  have p3 := is_order hb isM1
  replace o1 : FloatKind.f64.format.order a 4607182418800017408 = _ := o1
  replace o2 : FloatKind.f64.format.order a 0 = _ := o2
  replace o3 : FloatKind.f64.format.order a 13830554455654793216 = _ := o3
  replace p1 : FloatKind.f64.format.order b 4607182418800017408 = _ := p1
  replace p2 : FloatKind.f64.format.order b 0 = _ := p2
  replace p3 : FloatKind.f64.format.order b 13830554455654793216 = _ := p3
  clear ha hb
  obtain rfl | rfl | rfl | rfl : q = 0 ∨ q = 1 ∨ q = 2 ∨ q = 3 := by omega
  · simp only [show tx 0 = 1 from rfl, show ty 0 = 0 from rfl] at o1 o2 o3 p1 p2 p3
    clear hq
    go_enter Try.func94, Try.ntmps94
    go_wp2
    refine wp_loop_rounds 5 ?_
    rw [rounds_succ]
    go_wp2_with (first | (go_at_call 103; (fail_if_success (guard_hyp g0)); refine (refTurn0 _).mono ?_; rintro e w0 ⟨rfl, g0⟩))
    go_ret
    exact ⟨rfl, g0⟩
  · simp only [show tx 1 = 0 from rfl, show ty 1 = 1 from rfl] at o1 o2 o3 p1 p2 p3
    clear hq
    go_enter Try.func94, Try.ntmps94
    go_wp2
    refine wp_loop_rounds 5 ?_
    rw [rounds_succ]
    go_wp2_with (first | (go_at_call 103; (fail_if_success (guard_hyp g0)); refine (refTurn0 _).mono ?_; rintro e w0 ⟨rfl, g0⟩))
    rw [rounds_succ]
    go_wp2_with (first | (go_at_call 103; (fail_if_success (guard_hyp g1)); refine (refTurn1 _).mono ?_; rintro e w1 ⟨rfl, g1⟩))
    go_ret
    exact ⟨rfl, gb_trans (g0) g1⟩
  · simp only [show tx 2 = -1 from rfl, show ty 2 = 0 from rfl] at o1 o2 o3 p1 p2 p3
    clear hq
    go_enter Try.func94, Try.ntmps94
    go_wp2
    refine wp_loop_rounds 5 ?_
    rw [rounds_succ]
    go_wp2_with (first | (go_at_call 103; (fail_if_success (guard_hyp g0)); refine (refTurn0 _).mono ?_; rintro e w0 ⟨rfl, g0⟩))
    rw [rounds_succ]
    go_wp2_with (first | (go_at_call 103; (fail_if_success (guard_hyp g1)); refine (refTurn1 _).mono ?_; rintro e w1 ⟨rfl, g1⟩))
    rw [rounds_succ]
    go_wp2_with (first | (go_at_call 103; (fail_if_success (guard_hyp g2)); refine (refTurn2 _).mono ?_; rintro e w2 ⟨rfl, g2⟩))
    go_ret
    exact ⟨rfl, gb_trans (gb_trans (g0) g1) g2⟩
  · simp only [show tx 3 = 0 from rfl, show ty 3 = -1 from rfl] at o1 o2 o3 p1 p2 p3
    clear hq
    go_enter Try.func94, Try.ntmps94
    go_wp2
    refine wp_loop_rounds 5 ?_
    rw [rounds_succ]
    go_wp2_with (first | (go_at_call 103; (fail_if_success (guard_hyp g0)); refine (refTurn0 _).mono ?_; rintro e w0 ⟨rfl, g0⟩))
    rw [rounds_succ]
    go_wp2_with (first | (go_at_call 103; (fail_if_success (guard_hyp g1)); refine (refTurn1 _).mono ?_; rintro e w1 ⟨rfl, g1⟩))
    rw [rounds_succ]
    go_wp2_with (first | (go_at_call 103; (fail_if_success (guard_hyp g2)); refine (refTurn2 _).mono ?_; rintro e w2 ⟨rfl, g2⟩))
    rw [rounds_succ]
    go_wp2_with (first | (go_at_call 103; (fail_if_success (guard_hyp g3)); refine (refTurn3 _).mono ?_; rintro e w3 ⟨rfl, g3⟩))
    go_ret
    exact ⟨rfl, gb_trans (gb_trans (gb_trans (g0) g1) g2) g3⟩
theorem refQuartersNo (a b : Nat) (h : ¬ Tu a b) (w : World) : Calls Try.prog 94 #[.complex .f64 a b] w fun e w' => e = .returned (.int .i64 (-1)) ∧ w.grownBy w' none := by
  have n0 : ((FloatKind.f64.format.order a 4607182418800017408 == some .eq) && (FloatKind.f64.format.order b 0 == some .eq)) = false := by
    refine Bool.eq_false_iff.2 fun k => h ⟨0, by decide, ?_, ?_⟩
    · exact (order_is' is1).1 (Bool.and_eq_true_iff.1 k).1
    · exact (order_is' is0).1 (Bool.and_eq_true_iff.1 k).2
  have n1 : ((FloatKind.f64.format.order a 0 == some .eq) && (FloatKind.f64.format.order b 4607182418800017408 == some .eq)) = false := by
    refine Bool.eq_false_iff.2 fun k => h ⟨1, by decide, ?_, ?_⟩
    · exact (order_is' is0).1 (Bool.and_eq_true_iff.1 k).1
    · exact (order_is' is1).1 (Bool.and_eq_true_iff.1 k).2
  have n2 : ((FloatKind.f64.format.order a 13830554455654793216 == some .eq) && (FloatKind.f64.format.order b 0 == some .eq)) = false := by
    refine Bool.eq_false_iff.2 fun k => h ⟨2, by decide, ?_, ?_⟩
    · exact (order_is' isM1).1 (Bool.and_eq_true_iff.1 k).1
    · exact (order_is' is0).1 (Bool.and_eq_true_iff.1 k).2
  have n3 : ((FloatKind.f64.format.order a 0 == some .eq) && (FloatKind.f64.format.order b 13830554455654793216 == some .eq)) = false := by
    refine Bool.eq_false_iff.2 fun k => h ⟨3, by decide, ?_, ?_⟩
    · exact (order_is' is0).1 (Bool.and_eq_true_iff.1 k).1
    · exact (order_is' isM1).1 (Bool.and_eq_true_iff.1 k).2
  clear h
  go_enter Try.func94, Try.ntmps94
  go_wp2
  refine wp_loop_rounds 5 ?_
  rw [rounds_succ]
  go_wp2_with (first | (go_at_call 103; (fail_if_success (guard_hyp g0)); refine (refTurn0 _).mono ?_; rintro e w0 ⟨rfl, g0⟩))
  rw [rounds_succ]
  go_wp2_with (first | (go_at_call 103; (fail_if_success (guard_hyp g1)); refine (refTurn1 _).mono ?_; rintro e w1 ⟨rfl, g1⟩))
  rw [rounds_succ]
  go_wp2_with (first | (go_at_call 103; (fail_if_success (guard_hyp g2)); refine (refTurn2 _).mono ?_; rintro e w2 ⟨rfl, g2⟩))
  rw [rounds_succ]
  go_wp2_with (first | (go_at_call 103; (fail_if_success (guard_hyp g3)); refine (refTurn3 _).mono ?_; rintro e w3 ⟨rfl, g3⟩))
  rw [rounds_succ]
  go_wp2
  go_ret
  exact ⟨rfl, gb_trans (gb_trans (gb_trans (g0) g1) g2) g3⟩

theorem refWholeC (b : Nat) (w : World) : Calls Try.prog 95 #[.float .f64 b] w fun e w' => (∃ n : Int, e = .returned (.tuple #[.int .i64 n, .bool (whB b)]) ∧ (whB b = true → Is b n)) ∧ w' = w := by
  rcases whole_cases b 14010698440749613056 4787326403894837248 is_lo is_hi with ⟨h1, h⟩ | ⟨h1, h2, h⟩ | ⟨h1, h2, t, r, ht, hi, hr, hrun, hw⟩
  · rw [whB_no h]
    replace h1 : (FloatKind.f64.format.order b 14010698440749613056 == some .gt || FloatKind.f64.format.order b 14010698440749613056 == some .eq) = false := h1
    clear h
    go_enter Try.func95, Try.ntmps95
    go_wp2
    go_ret2
    exact ⟨⟨0, rfl, fun k => absurd k (by decide)⟩, rfl⟩
  · rw [whB_no h]
    replace h1 : (FloatKind.f64.format.order b 14010698440749613056 == some .gt || FloatKind.f64.format.order b 14010698440749613056 == some .eq) = true := h1
    replace h2 : (FloatKind.f64.format.order b 4787326403894837248 == some .lt || FloatKind.f64.format.order b 4787326403894837248 == some .eq) = false := h2
    clear h
    go_enter Try.func95, Try.ntmps95
    go_wp2
    go_ret2
    exact ⟨⟨0, rfl, fun k => absurd k (by decide)⟩, rfl⟩
  · have hft : Is (floatOfInt .f64 t) t := is_fl (by omega)
    have e : (FloatKind.f64.format.order (floatOfInt .f64 t) b == some .eq) = whB b := by
      by_cases q : Is b t
      · rw [whB_yes (hw.2 q)]; exact (order_is hft).2 q
      · rw [whB_no (fun k => q (hw.1 k))]
        exact Bool.eq_false_iff.2 fun k => q ((order_is hft).1 k)
    have fin : whB b = true → Is b t := fun k => hw.1 (wh_of k)
    have hc := fun w => run_convert_float_int (P := Try.prog) w 89 3 .f64 .i64 b t (by kernel_rfl) (by kernel_rfl) hi
    generalize whB b = c at e fin ⊢
    replace h1 : (FloatKind.f64.format.order b 14010698440749613056 == some .gt || FloatKind.f64.format.order b 14010698440749613056 == some .eq) = true := h1
    replace h2 : (FloatKind.f64.format.order b 4787326403894837248 == some .lt || FloatKind.f64.format.order b 4787326403894837248 == some .eq) = true := h2
    clear hw hrun hr hi ht hft
    go_enter Try.func95, Try.ntmps95
    go_wp2
    go_ret2
    exact ⟨⟨t, rfl, fin⟩, rfl⟩

theorem results_tmp4 {fn : Func} {t u v x : Tmp} (h : fn.results = #[.tmp t, .tmp u, .tmp v, .tmp x]) (tmps : Array Value) (P : Program) (w : World) :
    (results fn tmps).run P w = .ok (.tuple #[tmps.getD t undef, tmps.getD u undef, tmps.getD v undef, tmps.getD x undef]) w := by
  simp [results, h]
theorem refPartsNo (a b : Nat) (f : Bool) (c d : Nat) (h : vB a b c d = false) (w : World) : Calls Try.prog 73 #[.agg (mv a b f c d)] w fun e w' => e = .returned (.tuple #[.int .i64 0, .int .i64 0, .int .i64 0, .bool false]) ∧ w.grownBy w' none := by
  obtain ⟨W1, hW1, sz1, g1, B1⟩ := boxn w (mv a b f c d) 41
  have c0 := B1.cell 0 (v := .complex .f64 a b) rfl; have c1 := B1.cell 1 (v := .bool f) rfl; have c2 := B1.cell 2 (v := .complex .f64 c d) rfl
  by_cases ht : Tu a b
  · unfold vB at h
    rw [tu_yes ht] at h
    obtain ⟨q, hq, q1, q2⟩ := ht
    have hh := refQuartersYes a b q hq q1 q2
    obtain ⟨Q, hQ⟩ : ∃ Q : Int, (q : Int) = Q := ⟨_, rfl⟩
    rw [hQ] at hh
    have hQ0 : ¬ Q < 0 := by omega
    clear q1 q2 hQ hq
    cases h1 : whB c
    · clear h
      go_enter Try.func73, Try.ntmps73
      go_wp2_with (first | (go_at_call 94; refine (hh _).mono ?_; rintro e w2 ⟨rfl, g2⟩; have B2 := B1.kept g2 (by simp); have d0 := B2.cell 0 (v := .complex .f64 a b) rfl; have d1 := B2.cell 1 (v := .bool f) rfl; have d2 := B2.cell 2 (v := .complex .f64 c d) rfl) | (go_at_call 95; (fail_if_success (guard_hyp x1)); refine (refWholeC c _).mono ?_; rintro e w' ⟨⟨x1, rfl, i1⟩, hw'⟩; subst w') | (go_at_call 95; refine (refWholeC d _).mono ?_; rintro e w' ⟨⟨y1, rfl, i2⟩, hw'⟩; subst w'))
      refine bodyPost_ret (results_tmp4 rfl _ _ _) rfl ?_
      exact ⟨rfl, gb_trans g1 g2⟩
    · have h2 : whB d = false := by rw [h1] at h; exact h
      clear h
      go_enter Try.func73, Try.ntmps73
      go_wp2_with (first | (go_at_call 94; refine (hh _).mono ?_; rintro e w2 ⟨rfl, g2⟩; have B2 := B1.kept g2 (by simp); have d0 := B2.cell 0 (v := .complex .f64 a b) rfl; have d1 := B2.cell 1 (v := .bool f) rfl; have d2 := B2.cell 2 (v := .complex .f64 c d) rfl) | (go_at_call 95; (fail_if_success (guard_hyp x1)); refine (refWholeC c _).mono ?_; rintro e w' ⟨⟨x1, rfl, i1⟩, hw'⟩; subst w') | (go_at_call 95; refine (refWholeC d _).mono ?_; rintro e w' ⟨⟨y1, rfl, i2⟩, hw'⟩; subst w'))
      refine bodyPost_ret (results_tmp4 rfl _ _ _) rfl ?_
      exact ⟨rfl, gb_trans g1 g2⟩
  · have hh := refQuartersNo a b ht
    clear h ht
    go_enter Try.func73, Try.ntmps73
    go_wp2_with (first | (go_at_call 94; refine (hh _).mono ?_; rintro e w2 ⟨rfl, g2⟩; have B2 := B1.kept g2 (by simp); have d0 := B2.cell 0 (v := .complex .f64 a b) rfl; have d1 := B2.cell 1 (v := .bool f) rfl; have d2 := B2.cell 2 (v := .complex .f64 c d) rfl) | (go_at_call 95; (fail_if_success (guard_hyp x1)); refine (refWholeC c _).mono ?_; rintro e w' ⟨⟨x1, rfl, i1⟩, hw'⟩; subst w') | (go_at_call 95; refine (refWholeC d _).mono ?_; rintro e w' ⟨⟨y1, rfl, i2⟩, hw'⟩; subst w'))
    refine bodyPost_ret (results_tmp4 rfl _ _ _) rfl ?_
    exact ⟨rfl, gb_trans g1 g2⟩
theorem refPartsYes (a b : Nat) (f : Bool) (c d : Nat) {k : Nat} {x y : Int} (h : May a b f c d k x y) (w : World) : Calls Try.prog 73 #[.agg (mv a b f c d)] w fun e w' => e = .returned (.tuple #[.int .i64 k, .int .i64 x, .int .i64 y, .bool true]) ∧ w.grownBy w' none := by
  obtain ⟨W1, hW1, sz1, g1, B1⟩ := boxn w (mv a b f c d) 41
  have c0 := B1.cell 0 (v := .complex .f64 a b) rfl; have c1 := B1.cell 1 (v := .bool f) rfl; have c2 := B1.cell 2 (v := .complex .f64 c d) rfl
  have hh := refQuartersYes a b (k % 4) (by omega) ((tx_mod k).1 ▸ h.t1) ((tx_mod k).2 ▸ h.t2)
  have hc : whB c = true := (whB_is h.m1).trans h.n1
  have hd : whB d = true := (whB_is h.m2).trans h.n2
  have j1 := h.m1
  have j2 := h.m2
  have hk := h.lt
  have hf := h.fl
  clear h
  obtain ⟨Q, hQ⟩ : ∃ Q : Int, ((k % 4 : Nat) : Int) = Q := ⟨_, rfl⟩
  rw [hQ] at hh
  have hQ0 : ¬ Q < 0 := by omega
  have hQ3 : Q ≤ 3 := by omega
  have HQ : Hid ((k : Int) = if f then Q + 4 else Q) := by
    unfold Hid
    rw [hf]
    unfold fl4
    by_cases h4 : 4 ≤ k
    · rw [decide_eq_true h4]; simp; omega
    · rw [decide_eq_false h4]; simp; omega
  clear hf hQ hk
  replace j1 : Hid _ := j1
  replace j2 : Hid _ := j2
  cases f
  all_goals
    go_enter Try.func73, Try.ntmps73
    go_wp2_with (first | (go_at_call 94; refine (hh _).mono ?_; rintro e w2 ⟨rfl, g2⟩; have B2 := B1.kept g2 (by simp); have d0 := B2.cell 0 (v := .complex .f64 a b) rfl; have d1 := B2.cell 1 (v := _) rfl; have d2 := B2.cell 2 (v := .complex .f64 c d) rfl) | (go_at_call 95; (fail_if_success (guard_hyp x1)); refine (refWholeC c _).mono ?_; rintro e w' ⟨⟨x1, rfl, i1⟩, hw'⟩; subst w') | (go_at_call 95; refine (refWholeC d _).mono ?_; rintro e w' ⟨⟨y1, rfl, i2⟩, hw'⟩; subst w'))
    refine bodyPost_ret (results_tmp4 rfl _ _ _) rfl ?_
    rw [HQ.out, val_inj j1.out (i1 hc), val_inj j2.out (i2 hd)]
    exact ⟨rfl, gb_trans g1 g2⟩
end Go.Proofs.Ytgiiaokkmnjckaa
