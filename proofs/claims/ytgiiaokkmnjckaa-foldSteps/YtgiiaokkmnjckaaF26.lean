/- The walk of FoldSteps. -/
import Derived.Test.YtgiiaokkmnjckaaF17
import Derived.Test.YtgiiaokkmnjckaaF25
namespace Go.Proofs.Ytgiiaokkmnjckaa
open Go.RowKit
open Fl
set_option linter.unusedVariables false
set_option linter.unusedSimpArgs false
set_option maxRecDepth 100000
/-- A quiet walk, shut: so that nothing looks ahead through operations that are passed over. -/
structure Wq (P : Program) (ops : Array Oper) (C : World → Prop) (Q : Act → Prop) (l : List Oper) (a : Act) : Prop where
  out : wpQuiet P ops C Q l a
theorem Wq.step {P : Program} {ops : Array Oper} {C : World → Prop} {Q : Act → Prop} {a : Act} {o : Oper} {rest : List Oper} (h : ∀ K : Act → Prop, (∀ a, Wq P ops C Q rest a → K a) → if Region.wanted o (yielded ops a.tmps) then o.quiet P a C K else K (a.put o.dst undef)) : Wq P ops C Q (o :: rest) a :=
  ⟨wpQuiet_step (fun K hK => h K (fun a ha => hK a ha.out))⟩
theorem Wq.nil {P : Program} {ops : Array Oper} {C : World → Prop} {Q : Act → Prop} {a : Act} (h : Q a) : Wq P ops C Q [] a := ⟨wpQuiet_nil h⟩
theorem mixedS : Try.prog.follows .mixedOrders = true := by kernel_rfl

set_option maxHeartbeats 1000000 in
theorem stepsN (k x y t z a b dx dy : Int) (hg : ∀ w, Calls Try.prog 21 #[.agg #[.int .u8 k, .int .i64 x, .int .i64 y, .int .u8 t, .int .i64 z]] w fun e w' => e = .returned (.bool false) ∧ w.grownBy w' none) (w : World) : Calls Try.prog 8 #[.agg #[.int .u8 k, .int .i64 x, .int .i64 y, .int .u8 t, .int .i64 z], .agg #[.int .i64 a, .int .i64 b], .int .i64 dx, .int .i64 dy] w fun e w' => e = .returned (.bool true) ∧ w.grownBy w' none := by
  obtain ⟨W1, hW1, sz1, g1, B1⟩ := boxn w #[.int .u8 k, .int .i64 x, .int .i64 y, .int .u8 t, .int .i64 z] 23
  obtain ⟨W2, hW2, sz2, g2, B2⟩ := boxn W1 #[.int .i64 a, .int .i64 b] 25
  have G2 := gb_trans g1 g2
  have B1x := B1.kept g2 (by simp)
  have b1_2_0 := B1x.cell 0 (v := .int .u8 k) rfl
  have b1_2_1 := B1x.cell 1 (v := .int .i64 x) rfl
  have b1_2_2 := B1x.cell 2 (v := .int .i64 y) rfl
  have b1_2_3 := B1x.cell 3 (v := .int .u8 t) rfl
  have b1_2_4 := B1x.cell 4 (v := .int .i64 z) rfl
  have b2_2_0 := B2.cell 0 (v := .int .i64 a) rfl
  have b2_2_1 := B2.cell 1 (v := .int .i64 b) rfl
  go_enter Try.func8, Try.ntmps8
  go_wp2_with (first | (go_at_call 9; (fail_if_success (guard_hyp g3)); refine (awakeC _).mono ?_; rintro e w3 ⟨rfl, g3⟩; have G3 := gb_trans G2 g3; have B1xx := B1x.kept g3 (by simp); have B2x := B2.kept g3 (by simp); clear b1_2_0 b1_2_1 b1_2_2 b1_2_3 b1_2_4 b2_2_0 b2_2_1; have b1_3_0 := B1xx.cell 0 (v := .int .u8 k) rfl; have b1_3_1 := B1xx.cell 1 (v := .int .i64 x) rfl; have b1_3_2 := B1xx.cell 2 (v := .int .i64 y) rfl; have b1_3_3 := B1xx.cell 3 (v := .int .u8 t) rfl; have b1_3_4 := B1xx.cell 4 (v := .int .i64 z) rfl; have b2_3_0 := B2x.cell 0 (v := .int .i64 a) rfl; have b2_3_1 := B2x.cell 1 (v := .int .i64 b) rfl) | (go_at_call 21; (fail_if_success (guard_hyp g4)); refine (hg _).mono ?_; rintro e w4 ⟨rfl, g4⟩; have G4 := gb_trans G3 g4; have B1xxx := B1xx.kept g4 (by simp); have B2xx := B2x.kept g4 (by simp); clear b1_3_0 b1_3_1 b1_3_2 b1_3_3 b1_3_4 b2_3_0 b2_3_1; have b1_4_0 := B1xxx.cell 0 (v := .int .u8 k) rfl; have b1_4_1 := B1xxx.cell 1 (v := .int .i64 x) rfl; have b1_4_2 := B1xxx.cell 2 (v := .int .i64 y) rfl; have b1_4_3 := B1xxx.cell 3 (v := .int .u8 t) rfl; have b1_4_4 := B1xxx.cell 4 (v := .int .i64 z) rfl; have b2_4_0 := B2xx.cell 0 (v := .int .i64 a) rfl; have b2_4_1 := B2xx.cell 1 (v := .int .i64 b) rfl))
  go_ret
  exact ⟨rfl, G4⟩
set_option maxHeartbeats 1000000 in
theorem stepsA (k x y t z a b dx dy p1 p2 d1 d2 q1 q2 : Int) (wq1 : IntKind.i64.wrap (p1 + d1) = q1) (wq2 : IntKind.i64.wrap (p2 + d2) = q2) (ca1 ca2 cb1 cb2 : Int) (K : Nat) (hh : ∀ w, Calls Try.prog 23 #[.agg #[.int .u8 k, .int .i64 x, .int .i64 y, .int .u8 t, .int .i64 z]] w fun e w' => e = .returned (.tuple #[.agg #[.int .i64 (To.fi x), .int .i64 (To.fi y), .int .i64 x, .int .i64 y], .int .i64 0]) ∧ w.grownBy w' none) (hs : ∀ w, Calls Try.prog 12 #[.agg #[.int .u8 k, .int .i64 x, .int .i64 y, .int .u8 t, .int .i64 z], .agg #[.int .i64 p1, .int .i64 p2]] w fun e w' => e = .returned (.tuple #[.int .i64 (K : Nat), .int .i64 0]) ∧ w.grownBy w' none) (hca : ∀ w, Calls Try.prog 10 #[.agg #[.int .u8 k, .int .i64 x, .int .i64 y, .int .u8 t, .int .i64 z], .agg #[.int .i64 p1, .int .i64 p2]] w fun e w' => e = .returned (.tuple #[.agg #[.int .i64 ca1, .int .i64 ca2], .int .i64 0]) ∧ w.grownBy w' none) (hcb : ∀ w, Calls Try.prog 10 #[.agg #[.int .u8 k, .int .i64 x, .int .i64 y, .int .u8 t, .int .i64 z], .agg #[.int .i64 q1, .int .i64 q2]] w fun e w' => e = .returned (.tuple #[.agg #[.int .i64 cb1, .int .i64 cb2], .int .i64 0]) ∧ w.grownBy w' none) (u1 u2 v1 v2 i1 i2 j1 j2 : Int) (wu1 : IntKind.i64.wrap (p1 - To.fi x) = u1) (wu2 : IntKind.i64.wrap (q1 - To.fi x) = u2) (wv1 : IntKind.i64.wrap (p2 - To.fi y) = v1) (wv2 : IntKind.i64.wrap (q2 - To.fi y) = v2) (ht1 : ∀ w, Calls Try.prog 26 #[.int .i64 u1, .int .i64 x] w fun e w' => e = .returned (.int .i64 i1) ∧ w' = w) (ht2 : ∀ w, Calls Try.prog 26 #[.int .i64 u2, .int .i64 x] w fun e w' => e = .returned (.int .i64 i2) ∧ w' = w) (ht3 : ∀ w, Calls Try.prog 26 #[.int .i64 v1, .int .i64 y] w fun e w' => e = .returned (.int .i64 j1) ∧ w' = w) (ht4 : ∀ w, Calls Try.prog 26 #[.int .i64 v2, .int .i64 y] w fun e w' => e = .returned (.int .i64 j2) ∧ w' = w) (hi : (i1 != i2) = true) (hg : ∀ w, Calls Try.prog 21 #[.agg #[.int .u8 k, .int .i64 x, .int .i64 y, .int .u8 t, .int .i64 z]] w fun e w' => e = .returned (.bool true) ∧ w.grownBy w' none) (hn1 : ∀ w, Calls Try.prog 22 #[.int .i64 a, .int .i64 549755813888] w fun e w' => e = .returned (.int .i64 p1) ∧ w' = w) (hn2 : ∀ w, Calls Try.prog 22 #[.int .i64 b, .int .i64 549755813888] w fun e w' => e = .returned (.int .i64 p2) ∧ w' = w) (hm1 : ∀ w, Calls Try.prog 22 #[.int .i64 dx, .int .i64 1] w fun e w' => e = .returned (.int .i64 d1) ∧ w' = w) (hm2 : ∀ w, Calls Try.prog 22 #[.int .i64 dy, .int .i64 1] w fun e w' => e = .returned (.int .i64 d2) ∧ w' = w) (w : World) : Calls Try.prog 8 #[.agg #[.int .u8 k, .int .i64 x, .int .i64 y, .int .u8 t, .int .i64 z], .agg #[.int .i64 a, .int .i64 b], .int .i64 dx, .int .i64 dy] w fun e w' => e = .returned (.bool true) ∧ w.grownBy w' none := by
  obtain ⟨W1, hW1, sz1, g1, B1⟩ := boxn w #[.int .u8 k, .int .i64 x, .int .i64 y, .int .u8 t, .int .i64 z] 23
  obtain ⟨W2, hW2, sz2, g2, B2⟩ := boxn W1 #[.int .i64 a, .int .i64 b] 25
  have G2 := gb_trans g1 g2
  have B1x := B1.kept g2 (by simp)
  have b1_2_0 := B1x.cell 0 (v := .int .u8 k) rfl
  have b1_2_1 := B1x.cell 1 (v := .int .i64 x) rfl
  have b1_2_2 := B1x.cell 2 (v := .int .i64 y) rfl
  have b1_2_3 := B1x.cell 3 (v := .int .u8 t) rfl
  have b1_2_4 := B1x.cell 4 (v := .int .i64 z) rfl
  have b2_2_0 := B2.cell 0 (v := .int .i64 a) rfl
  have b2_2_1 := B2.cell 1 (v := .int .i64 b) rfl
  go_enter Try.func8, Try.ntmps8
  go_wp2_with (first | (go_at_call 9; (fail_if_success (guard_hyp g3)); refine (awakeC _).mono ?_; rintro e w3 ⟨rfl, g3⟩; have G3 := gb_trans G2 g3; have B1xx := B1x.kept g3 (by simp); have B2x := B2.kept g3 (by simp); clear b1_2_0 b1_2_1 b1_2_2 b1_2_3 b1_2_4 b2_2_0 b2_2_1; have b1_3_0 := B1xx.cell 0 (v := .int .u8 k) rfl; have b1_3_1 := B1xx.cell 1 (v := .int .i64 x) rfl; have b1_3_2 := B1xx.cell 2 (v := .int .i64 y) rfl; have b1_3_3 := B1xx.cell 3 (v := .int .u8 t) rfl; have b1_3_4 := B1xx.cell 4 (v := .int .i64 z) rfl; have b2_3_0 := B2x.cell 0 (v := .int .i64 a) rfl; have b2_3_1 := B2x.cell 1 (v := .int .i64 b) rfl) | (go_at_call 21; (fail_if_success (guard_hyp g4)); refine (hg _).mono ?_; rintro e w4 ⟨rfl, g4⟩; have G4 := gb_trans G3 g4; have B1xxx := B1xx.kept g4 (by simp); have B2xx := B2x.kept g4 (by simp); clear b1_3_0 b1_3_1 b1_3_2 b1_3_3 b1_3_4 b2_3_0 b2_3_1; have b1_4_0 := B1xxx.cell 0 (v := .int .u8 k) rfl; have b1_4_1 := B1xxx.cell 1 (v := .int .i64 x) rfl; have b1_4_2 := B1xxx.cell 2 (v := .int .i64 y) rfl; have b1_4_3 := B1xxx.cell 3 (v := .int .u8 t) rfl; have b1_4_4 := B1xxx.cell 4 (v := .int .i64 z) rfl; have b2_4_0 := B2xx.cell 0 (v := .int .i64 a) rfl; have b2_4_1 := B2xx.cell 1 (v := .int .i64 b) rfl))
  have f0 := B2xx.frozen 0
  have f1 := B2xx.frozen 1
  obtain ⟨W5, hW5⟩ : ∃ W5, (w4.setCell ⟨W1.heap.size, 0, none⟩ (.int .i64 p1)).setCell ⟨W1.heap.size, 1, none⟩ (.int .i64 p2) = W5 := ⟨_, rfl⟩
  have nep : W1.heap.size ≠ w.heap.size := by have := sz1.out; omega
  have T5 : Bo W5 w.heap.size 23 #[.int .u8 k, .int .i64 x, .int .i64 y, .int .u8 t, .int .i64 z] := hW5 ▸ (B1xxx.set2 nep).set2 nep
  have P5 : Bo W5 W1.heap.size 25 #[.int .i64 p1, .int .i64 p2] := hW5 ▸ bo2 B2xx
  have G5 : w.grownBy W5 none := hW5 ▸ gb2 G4 g1.size
  clear nep
  refine region_tail 7 mixedS (by kernel_rfl) ?_
  simp only [List.take_succ_cons, List.take_zero, List.drop_succ_cons, List.drop_zero]
  iterate 2 still_step
  still_call (hn1 _)
  iterate 2 still_step
  still_call (hn2 _)
  iterate 1 still_step
  refine wpStill_nil ?_
  go_wp2
  clear b1_4_0 b1_4_1 b1_4_2 b1_4_3 b1_4_4 b2_4_0 b2_4_1 f0 f1
  obtain ⟨W6, hW6, sz6, g6, Q6⟩ := boxn W5 #[.int .i64 q1, .int .i64 q2] 25
  have T6 := T5.kept g6 (by simp)
  have P6 := P5.kept g6 (by simp)
  have G6 := gb_trans G5 g6
  have p5_0 := P5.cell 0 (v := .int .i64 p1) rfl
  have p5_1 := P5.cell 1 (v := .int .i64 p2) rfl
  have p6_0 := P6.cell 0 (v := .int .i64 p1) rfl
  have p6_1 := P6.cell 1 (v := .int .i64 p2) rfl
  go_region_held2 (fun w' => w'.cell? ⟨W1.heap.size, 0, none⟩ = some (.int .i64 p1) ∧ w'.cell? ⟨W1.heap.size, 1, none⟩ = some (.int .i64 p2)) (go_keep) (first | (go_at_call 22; (fail_if_success (guard_hyp mm1)); refine (hm1 _).mono ?_; rintro e w' ⟨rfl, hw'⟩; subst w'; have mm1 : True := trivial) | (go_at_call 22; (fail_if_success (guard_hyp mm2)); refine (hm2 _).mono ?_; rintro e w' ⟨rfl, hw'⟩; subst w'; have mm2 : True := trivial))
  all_goals have T6d := T6.dr.dr
  all_goals have P6d := P6.dr.dr
  all_goals have Q6d := Q6.dr.dr
  all_goals have G6d := gb_drew (gb_drew G6)
  all_goals clear p5_0 p5_1 p6_0 p6_1
  all_goals have bt_z_0 := T6d.cell 0 (v := .int .u8 k) rfl
  all_goals have bt_z_1 := T6d.cell 1 (v := .int .i64 x) rfl
  all_goals have bt_z_2 := T6d.cell 2 (v := .int .i64 y) rfl
  all_goals have bt_z_3 := T6d.cell 3 (v := .int .u8 t) rfl
  all_goals have bt_z_4 := T6d.cell 4 (v := .int .i64 z) rfl
  all_goals have bp_z_0 := P6d.cell 0 (v := .int .i64 p1) rfl
  all_goals have bp_z_1 := P6d.cell 1 (v := .int .i64 p2) rfl
  all_goals have bq_z_0 := Q6d.cell 0 (v := .int .i64 q1) rfl
  all_goals have bq_z_1 := Q6d.cell 1 (v := .int .i64 q2) rfl
  all_goals go_wp2_with (first | (go_at_call 23; (fail_if_success (guard_hyp g11)); refine (hh _).mono ?_; rintro e w11 ⟨rfl, g11⟩; have G11 := gb_trans G6d g11; have T6dx := T6d.kept g11 (by simp); have P6dx := P6d.kept g11 (by simp); have Q6dx := Q6d.kept g11 (by simp); obtain ⟨W12, hW12, sz12, g12, B12⟩ := boxn w11 #[.int .i64 (To.fi x), .int .i64 (To.fi y), .int .i64 x, .int .i64 y] 49; have G12 := gb_trans G11 g12; have T6dxx := T6dx.kept g12 (by simp); have P6dxx := P6dx.kept g12 (by simp); have Q6dxx := Q6dx.kept g12 (by simp); clear bt_z_0 bt_z_1 bt_z_2 bt_z_3 bt_z_4 bp_z_0 bp_z_1 bq_z_0 bq_z_1; have bt_12_0 := T6dxx.cell 0 (v := .int .u8 k) rfl; have bt_12_1 := T6dxx.cell 1 (v := .int .i64 x) rfl; have bt_12_2 := T6dxx.cell 2 (v := .int .i64 y) rfl; have bt_12_3 := T6dxx.cell 3 (v := .int .u8 t) rfl; have bt_12_4 := T6dxx.cell 4 (v := .int .i64 z) rfl; have bp_12_0 := P6dxx.cell 0 (v := .int .i64 p1) rfl; have bp_12_1 := P6dxx.cell 1 (v := .int .i64 p2) rfl; have bq_12_0 := Q6dxx.cell 0 (v := .int .i64 q1) rfl; have bq_12_1 := Q6dxx.cell 1 (v := .int .i64 q2) rfl; have b12_12_0 := B12.cell 0 (v := .int .i64 (To.fi x)) rfl; have b12_12_1 := B12.cell 1 (v := .int .i64 (To.fi y)) rfl; have b12_12_2 := B12.cell 2 (v := .int .i64 x) rfl; have b12_12_3 := B12.cell 3 (v := .int .i64 y) rfl) | (go_at_call 12; (fail_if_success (guard_hyp g13)); refine (hs _).mono ?_; rintro e w13 ⟨rfl, g13⟩; have G13 := gb_trans G12 g13; have T6dxxx := T6dxx.kept g13 (by simp); have P6dxxx := P6dxx.kept g13 (by simp); have Q6dxxx := Q6dxx.kept g13 (by simp); have B12x := B12.kept g13 (by simp); clear bt_12_0 bt_12_1 bt_12_2 bt_12_3 bt_12_4 bp_12_0 bp_12_1 bq_12_0 bq_12_1 b12_12_0 b12_12_1 b12_12_2 b12_12_3; have bt_13_0 := T6dxxx.cell 0 (v := .int .u8 k) rfl; have bt_13_1 := T6dxxx.cell 1 (v := .int .i64 x) rfl; have bt_13_2 := T6dxxx.cell 2 (v := .int .i64 y) rfl; have bt_13_3 := T6dxxx.cell 3 (v := .int .u8 t) rfl; have bt_13_4 := T6dxxx.cell 4 (v := .int .i64 z) rfl; have bp_13_0 := P6dxxx.cell 0 (v := .int .i64 p1) rfl; have bp_13_1 := P6dxxx.cell 1 (v := .int .i64 p2) rfl; have bq_13_0 := Q6dxxx.cell 0 (v := .int .i64 q1) rfl; have bq_13_1 := Q6dxxx.cell 1 (v := .int .i64 q2) rfl; have b12_13_0 := B12x.cell 0 (v := .int .i64 (To.fi x)) rfl; have b12_13_1 := B12x.cell 1 (v := .int .i64 (To.fi y)) rfl; have b12_13_2 := B12x.cell 2 (v := .int .i64 x) rfl; have b12_13_3 := B12x.cell 3 (v := .int .i64 y) rfl) | (go_at_call 10; (fail_if_success (guard_hyp g14)); refine (hca _).mono ?_; rintro e w14 ⟨rfl, g14⟩; have G14 := gb_trans G13 g14; have T6dxxxx := T6dxxx.kept g14 (by simp); have P6dxxxx := P6dxxx.kept g14 (by simp); have Q6dxxxx := Q6dxxx.kept g14 (by simp); have B12xx := B12x.kept g14 (by simp); obtain ⟨W15, hW15, sz15, g15, B15⟩ := boxn w14 #[.int .i64 ca1, .int .i64 ca2] 25; have G15 := gb_trans G14 g15; have T6dxxxxx := T6dxxxx.kept g15 (by simp); have P6dxxxxx := P6dxxxx.kept g15 (by simp); have Q6dxxxxx := Q6dxxxx.kept g15 (by simp); have B12xxx := B12xx.kept g15 (by simp); clear bt_13_0 bt_13_1 bt_13_2 bt_13_3 bt_13_4 bp_13_0 bp_13_1 bq_13_0 bq_13_1 b12_13_0 b12_13_1 b12_13_2 b12_13_3; have bt_15_0 := T6dxxxxx.cell 0 (v := .int .u8 k) rfl; have bt_15_1 := T6dxxxxx.cell 1 (v := .int .i64 x) rfl; have bt_15_2 := T6dxxxxx.cell 2 (v := .int .i64 y) rfl; have bt_15_3 := T6dxxxxx.cell 3 (v := .int .u8 t) rfl; have bt_15_4 := T6dxxxxx.cell 4 (v := .int .i64 z) rfl; have bp_15_0 := P6dxxxxx.cell 0 (v := .int .i64 p1) rfl; have bp_15_1 := P6dxxxxx.cell 1 (v := .int .i64 p2) rfl; have bq_15_0 := Q6dxxxxx.cell 0 (v := .int .i64 q1) rfl; have bq_15_1 := Q6dxxxxx.cell 1 (v := .int .i64 q2) rfl; have b12_15_0 := B12xxx.cell 0 (v := .int .i64 (To.fi x)) rfl; have b12_15_1 := B12xxx.cell 1 (v := .int .i64 (To.fi y)) rfl; have b12_15_2 := B12xxx.cell 2 (v := .int .i64 x) rfl; have b12_15_3 := B12xxx.cell 3 (v := .int .i64 y) rfl; have b15_15_0 := B15.cell 0 (v := .int .i64 ca1) rfl; have b15_15_1 := B15.cell 1 (v := .int .i64 ca2) rfl) | (go_at_call 10; (fail_if_success (guard_hyp g16)); refine (hcb _).mono ?_; rintro e w16 ⟨rfl, g16⟩; have G16 := gb_trans G15 g16; have T6dxxxxxx := T6dxxxxx.kept g16 (by simp); have P6dxxxxxx := P6dxxxxx.kept g16 (by simp); have Q6dxxxxxx := Q6dxxxxx.kept g16 (by simp); have B12xxxx := B12xxx.kept g16 (by simp); have B15x := B15.kept g16 (by simp); obtain ⟨W17, hW17, sz17, g17, B17⟩ := boxn w16 #[.int .i64 cb1, .int .i64 cb2] 25; have G17 := gb_trans G16 g17; have T6dxxxxxxx := T6dxxxxxx.kept g17 (by simp); have P6dxxxxxxx := P6dxxxxxx.kept g17 (by simp); have Q6dxxxxxxx := Q6dxxxxxx.kept g17 (by simp); have B12xxxxx := B12xxxx.kept g17 (by simp); have B15xx := B15x.kept g17 (by simp); clear bt_15_0 bt_15_1 bt_15_2 bt_15_3 bt_15_4 bp_15_0 bp_15_1 bq_15_0 bq_15_1 b12_15_0 b12_15_1 b12_15_2 b12_15_3 b15_15_0 b15_15_1; have bt_17_0 := T6dxxxxxxx.cell 0 (v := .int .u8 k) rfl; have bt_17_1 := T6dxxxxxxx.cell 1 (v := .int .i64 x) rfl; have bt_17_2 := T6dxxxxxxx.cell 2 (v := .int .i64 y) rfl; have bt_17_3 := T6dxxxxxxx.cell 3 (v := .int .u8 t) rfl; have bt_17_4 := T6dxxxxxxx.cell 4 (v := .int .i64 z) rfl; have bp_17_0 := P6dxxxxxxx.cell 0 (v := .int .i64 p1) rfl; have bp_17_1 := P6dxxxxxxx.cell 1 (v := .int .i64 p2) rfl; have bq_17_0 := Q6dxxxxxxx.cell 0 (v := .int .i64 q1) rfl; have bq_17_1 := Q6dxxxxxxx.cell 1 (v := .int .i64 q2) rfl; have b12_17_0 := B12xxxxx.cell 0 (v := .int .i64 (To.fi x)) rfl; have b12_17_1 := B12xxxxx.cell 1 (v := .int .i64 (To.fi y)) rfl; have b12_17_2 := B12xxxxx.cell 2 (v := .int .i64 x) rfl; have b12_17_3 := B12xxxxx.cell 3 (v := .int .i64 y) rfl; have b15_17_0 := B15xx.cell 0 (v := .int .i64 ca1) rfl; have b15_17_1 := B15xx.cell 1 (v := .int .i64 ca2) rfl; have b17_17_0 := B17.cell 0 (v := .int .i64 cb1) rfl; have b17_17_1 := B17.cell 1 (v := .int .i64 cb2) rfl))
  all_goals refine wp_region_quiet_lit (by kernel_rfl) (by kernel_rfl) (Wq.out ?_)
  all_goals iterate 7 (refine Wq.step (fun K hK => ?_); go_simp; refine hK _ ?_; clear hK K)
  all_goals (refine Wq.step (fun K hK => ?_); go_simp; apply Exists.intro; refine ⟨fun _ => ?_, hK _ ?_⟩; exact Calls.quiet_of_same (ht1 _); clear hK K)
  all_goals iterate 7 (refine Wq.step (fun K hK => ?_); go_simp; refine hK _ ?_; clear hK K)
  all_goals (refine Wq.step (fun K hK => ?_); go_simp; apply Exists.intro; refine ⟨fun _ => ?_, hK _ ?_⟩; exact Calls.quiet_of_same (ht2 _); clear hK K)
  all_goals iterate 2 (refine Wq.step (fun K hK => ?_); go_simp; refine hK _ ?_; clear hK K)
  all_goals iterate 18 (refine Wq.step (fun K hK => ?_); go_simp; refine hK _ ?_; clear hK K)
  all_goals refine Wq.nil ?_
  all_goals intro _ hw'
  all_goals obtain ⟨nq, hw2⟩ := hw'
  all_goals subst hw2
  all_goals go_wp2
  all_goals go_ret
  all_goals exact ⟨rfl, gb_drewN G17 _⟩
set_option maxHeartbeats 1000000 in
theorem stepsB (k x y t z a b dx dy p1 p2 d1 d2 q1 q2 : Int) (wq1 : IntKind.i64.wrap (p1 + d1) = q1) (wq2 : IntKind.i64.wrap (p2 + d2) = q2) (ca1 ca2 cb1 cb2 : Int) (K : Nat) (hh : ∀ w, Calls Try.prog 23 #[.agg #[.int .u8 k, .int .i64 x, .int .i64 y, .int .u8 t, .int .i64 z]] w fun e w' => e = .returned (.tuple #[.agg #[.int .i64 (To.fi x), .int .i64 (To.fi y), .int .i64 x, .int .i64 y], .int .i64 0]) ∧ w.grownBy w' none) (hs : ∀ w, Calls Try.prog 12 #[.agg #[.int .u8 k, .int .i64 x, .int .i64 y, .int .u8 t, .int .i64 z], .agg #[.int .i64 p1, .int .i64 p2]] w fun e w' => e = .returned (.tuple #[.int .i64 (K : Nat), .int .i64 0]) ∧ w.grownBy w' none) (hca : ∀ w, Calls Try.prog 10 #[.agg #[.int .u8 k, .int .i64 x, .int .i64 y, .int .u8 t, .int .i64 z], .agg #[.int .i64 p1, .int .i64 p2]] w fun e w' => e = .returned (.tuple #[.agg #[.int .i64 ca1, .int .i64 ca2], .int .i64 0]) ∧ w.grownBy w' none) (hcb : ∀ w, Calls Try.prog 10 #[.agg #[.int .u8 k, .int .i64 x, .int .i64 y, .int .u8 t, .int .i64 z], .agg #[.int .i64 q1, .int .i64 q2]] w fun e w' => e = .returned (.tuple #[.agg #[.int .i64 cb1, .int .i64 cb2], .int .i64 0]) ∧ w.grownBy w' none) (u1 u2 v1 v2 i1 j1 j2 : Int) (wu1 : IntKind.i64.wrap (p1 - To.fi x) = u1) (wu2 : IntKind.i64.wrap (q1 - To.fi x) = u2) (wv1 : IntKind.i64.wrap (p2 - To.fi y) = v1) (wv2 : IntKind.i64.wrap (q2 - To.fi y) = v2) (ht1 : ∀ w, Calls Try.prog 26 #[.int .i64 u1, .int .i64 x] w fun e w' => e = .returned (.int .i64 i1) ∧ w' = w) (ht2 : ∀ w, Calls Try.prog 26 #[.int .i64 u2, .int .i64 x] w fun e w' => e = .returned (.int .i64 i1) ∧ w' = w) (ht3 : ∀ w, Calls Try.prog 26 #[.int .i64 v1, .int .i64 y] w fun e w' => e = .returned (.int .i64 j1) ∧ w' = w) (ht4 : ∀ w, Calls Try.prog 26 #[.int .i64 v2, .int .i64 y] w fun e w' => e = .returned (.int .i64 j2) ∧ w' = w) (hi : (i1 != i1) = false) (hj : (j1 != j2) = true) (hg : ∀ w, Calls Try.prog 21 #[.agg #[.int .u8 k, .int .i64 x, .int .i64 y, .int .u8 t, .int .i64 z]] w fun e w' => e = .returned (.bool true) ∧ w.grownBy w' none) (hn1 : ∀ w, Calls Try.prog 22 #[.int .i64 a, .int .i64 549755813888] w fun e w' => e = .returned (.int .i64 p1) ∧ w' = w) (hn2 : ∀ w, Calls Try.prog 22 #[.int .i64 b, .int .i64 549755813888] w fun e w' => e = .returned (.int .i64 p2) ∧ w' = w) (hm1 : ∀ w, Calls Try.prog 22 #[.int .i64 dx, .int .i64 1] w fun e w' => e = .returned (.int .i64 d1) ∧ w' = w) (hm2 : ∀ w, Calls Try.prog 22 #[.int .i64 dy, .int .i64 1] w fun e w' => e = .returned (.int .i64 d2) ∧ w' = w) (w : World) : Calls Try.prog 8 #[.agg #[.int .u8 k, .int .i64 x, .int .i64 y, .int .u8 t, .int .i64 z], .agg #[.int .i64 a, .int .i64 b], .int .i64 dx, .int .i64 dy] w fun e w' => e = .returned (.bool true) ∧ w.grownBy w' none := by
  obtain ⟨W1, hW1, sz1, g1, B1⟩ := boxn w #[.int .u8 k, .int .i64 x, .int .i64 y, .int .u8 t, .int .i64 z] 23
  obtain ⟨W2, hW2, sz2, g2, B2⟩ := boxn W1 #[.int .i64 a, .int .i64 b] 25
  have G2 := gb_trans g1 g2
  have B1x := B1.kept g2 (by simp)
  have b1_2_0 := B1x.cell 0 (v := .int .u8 k) rfl
  have b1_2_1 := B1x.cell 1 (v := .int .i64 x) rfl
  have b1_2_2 := B1x.cell 2 (v := .int .i64 y) rfl
  have b1_2_3 := B1x.cell 3 (v := .int .u8 t) rfl
  have b1_2_4 := B1x.cell 4 (v := .int .i64 z) rfl
  have b2_2_0 := B2.cell 0 (v := .int .i64 a) rfl
  have b2_2_1 := B2.cell 1 (v := .int .i64 b) rfl
  go_enter Try.func8, Try.ntmps8
  go_wp2_with (first | (go_at_call 9; (fail_if_success (guard_hyp g3)); refine (awakeC _).mono ?_; rintro e w3 ⟨rfl, g3⟩; have G3 := gb_trans G2 g3; have B1xx := B1x.kept g3 (by simp); have B2x := B2.kept g3 (by simp); clear b1_2_0 b1_2_1 b1_2_2 b1_2_3 b1_2_4 b2_2_0 b2_2_1; have b1_3_0 := B1xx.cell 0 (v := .int .u8 k) rfl; have b1_3_1 := B1xx.cell 1 (v := .int .i64 x) rfl; have b1_3_2 := B1xx.cell 2 (v := .int .i64 y) rfl; have b1_3_3 := B1xx.cell 3 (v := .int .u8 t) rfl; have b1_3_4 := B1xx.cell 4 (v := .int .i64 z) rfl; have b2_3_0 := B2x.cell 0 (v := .int .i64 a) rfl; have b2_3_1 := B2x.cell 1 (v := .int .i64 b) rfl) | (go_at_call 21; (fail_if_success (guard_hyp g4)); refine (hg _).mono ?_; rintro e w4 ⟨rfl, g4⟩; have G4 := gb_trans G3 g4; have B1xxx := B1xx.kept g4 (by simp); have B2xx := B2x.kept g4 (by simp); clear b1_3_0 b1_3_1 b1_3_2 b1_3_3 b1_3_4 b2_3_0 b2_3_1; have b1_4_0 := B1xxx.cell 0 (v := .int .u8 k) rfl; have b1_4_1 := B1xxx.cell 1 (v := .int .i64 x) rfl; have b1_4_2 := B1xxx.cell 2 (v := .int .i64 y) rfl; have b1_4_3 := B1xxx.cell 3 (v := .int .u8 t) rfl; have b1_4_4 := B1xxx.cell 4 (v := .int .i64 z) rfl; have b2_4_0 := B2xx.cell 0 (v := .int .i64 a) rfl; have b2_4_1 := B2xx.cell 1 (v := .int .i64 b) rfl))
  have f0 := B2xx.frozen 0
  have f1 := B2xx.frozen 1
  obtain ⟨W5, hW5⟩ : ∃ W5, (w4.setCell ⟨W1.heap.size, 0, none⟩ (.int .i64 p1)).setCell ⟨W1.heap.size, 1, none⟩ (.int .i64 p2) = W5 := ⟨_, rfl⟩
  have nep : W1.heap.size ≠ w.heap.size := by have := sz1.out; omega
  have T5 : Bo W5 w.heap.size 23 #[.int .u8 k, .int .i64 x, .int .i64 y, .int .u8 t, .int .i64 z] := hW5 ▸ (B1xxx.set2 nep).set2 nep
  have P5 : Bo W5 W1.heap.size 25 #[.int .i64 p1, .int .i64 p2] := hW5 ▸ bo2 B2xx
  have G5 : w.grownBy W5 none := hW5 ▸ gb2 G4 g1.size
  clear nep
  refine region_tail 7 mixedS (by kernel_rfl) ?_
  simp only [List.take_succ_cons, List.take_zero, List.drop_succ_cons, List.drop_zero]
  iterate 2 still_step
  still_call (hn1 _)
  iterate 2 still_step
  still_call (hn2 _)
  iterate 1 still_step
  refine wpStill_nil ?_
  go_wp2
  clear b1_4_0 b1_4_1 b1_4_2 b1_4_3 b1_4_4 b2_4_0 b2_4_1 f0 f1
  obtain ⟨W6, hW6, sz6, g6, Q6⟩ := boxn W5 #[.int .i64 q1, .int .i64 q2] 25
  have T6 := T5.kept g6 (by simp)
  have P6 := P5.kept g6 (by simp)
  have G6 := gb_trans G5 g6
  have p5_0 := P5.cell 0 (v := .int .i64 p1) rfl
  have p5_1 := P5.cell 1 (v := .int .i64 p2) rfl
  have p6_0 := P6.cell 0 (v := .int .i64 p1) rfl
  have p6_1 := P6.cell 1 (v := .int .i64 p2) rfl
  go_region_held2 (fun w' => w'.cell? ⟨W1.heap.size, 0, none⟩ = some (.int .i64 p1) ∧ w'.cell? ⟨W1.heap.size, 1, none⟩ = some (.int .i64 p2)) (go_keep) (first | (go_at_call 22; (fail_if_success (guard_hyp mm1)); refine (hm1 _).mono ?_; rintro e w' ⟨rfl, hw'⟩; subst w'; have mm1 : True := trivial) | (go_at_call 22; (fail_if_success (guard_hyp mm2)); refine (hm2 _).mono ?_; rintro e w' ⟨rfl, hw'⟩; subst w'; have mm2 : True := trivial))
  all_goals have T6d := T6.dr.dr
  all_goals have P6d := P6.dr.dr
  all_goals have Q6d := Q6.dr.dr
  all_goals have G6d := gb_drew (gb_drew G6)
  all_goals clear p5_0 p5_1 p6_0 p6_1
  all_goals have bt_z_0 := T6d.cell 0 (v := .int .u8 k) rfl
  all_goals have bt_z_1 := T6d.cell 1 (v := .int .i64 x) rfl
  all_goals have bt_z_2 := T6d.cell 2 (v := .int .i64 y) rfl
  all_goals have bt_z_3 := T6d.cell 3 (v := .int .u8 t) rfl
  all_goals have bt_z_4 := T6d.cell 4 (v := .int .i64 z) rfl
  all_goals have bp_z_0 := P6d.cell 0 (v := .int .i64 p1) rfl
  all_goals have bp_z_1 := P6d.cell 1 (v := .int .i64 p2) rfl
  all_goals have bq_z_0 := Q6d.cell 0 (v := .int .i64 q1) rfl
  all_goals have bq_z_1 := Q6d.cell 1 (v := .int .i64 q2) rfl
  all_goals go_wp2_with (first | (go_at_call 23; (fail_if_success (guard_hyp g11)); refine (hh _).mono ?_; rintro e w11 ⟨rfl, g11⟩; have G11 := gb_trans G6d g11; have T6dx := T6d.kept g11 (by simp); have P6dx := P6d.kept g11 (by simp); have Q6dx := Q6d.kept g11 (by simp); obtain ⟨W12, hW12, sz12, g12, B12⟩ := boxn w11 #[.int .i64 (To.fi x), .int .i64 (To.fi y), .int .i64 x, .int .i64 y] 49; have G12 := gb_trans G11 g12; have T6dxx := T6dx.kept g12 (by simp); have P6dxx := P6dx.kept g12 (by simp); have Q6dxx := Q6dx.kept g12 (by simp); clear bt_z_0 bt_z_1 bt_z_2 bt_z_3 bt_z_4 bp_z_0 bp_z_1 bq_z_0 bq_z_1; have bt_12_0 := T6dxx.cell 0 (v := .int .u8 k) rfl; have bt_12_1 := T6dxx.cell 1 (v := .int .i64 x) rfl; have bt_12_2 := T6dxx.cell 2 (v := .int .i64 y) rfl; have bt_12_3 := T6dxx.cell 3 (v := .int .u8 t) rfl; have bt_12_4 := T6dxx.cell 4 (v := .int .i64 z) rfl; have bp_12_0 := P6dxx.cell 0 (v := .int .i64 p1) rfl; have bp_12_1 := P6dxx.cell 1 (v := .int .i64 p2) rfl; have bq_12_0 := Q6dxx.cell 0 (v := .int .i64 q1) rfl; have bq_12_1 := Q6dxx.cell 1 (v := .int .i64 q2) rfl; have b12_12_0 := B12.cell 0 (v := .int .i64 (To.fi x)) rfl; have b12_12_1 := B12.cell 1 (v := .int .i64 (To.fi y)) rfl; have b12_12_2 := B12.cell 2 (v := .int .i64 x) rfl; have b12_12_3 := B12.cell 3 (v := .int .i64 y) rfl) | (go_at_call 12; (fail_if_success (guard_hyp g13)); refine (hs _).mono ?_; rintro e w13 ⟨rfl, g13⟩; have G13 := gb_trans G12 g13; have T6dxxx := T6dxx.kept g13 (by simp); have P6dxxx := P6dxx.kept g13 (by simp); have Q6dxxx := Q6dxx.kept g13 (by simp); have B12x := B12.kept g13 (by simp); clear bt_12_0 bt_12_1 bt_12_2 bt_12_3 bt_12_4 bp_12_0 bp_12_1 bq_12_0 bq_12_1 b12_12_0 b12_12_1 b12_12_2 b12_12_3; have bt_13_0 := T6dxxx.cell 0 (v := .int .u8 k) rfl; have bt_13_1 := T6dxxx.cell 1 (v := .int .i64 x) rfl; have bt_13_2 := T6dxxx.cell 2 (v := .int .i64 y) rfl; have bt_13_3 := T6dxxx.cell 3 (v := .int .u8 t) rfl; have bt_13_4 := T6dxxx.cell 4 (v := .int .i64 z) rfl; have bp_13_0 := P6dxxx.cell 0 (v := .int .i64 p1) rfl; have bp_13_1 := P6dxxx.cell 1 (v := .int .i64 p2) rfl; have bq_13_0 := Q6dxxx.cell 0 (v := .int .i64 q1) rfl; have bq_13_1 := Q6dxxx.cell 1 (v := .int .i64 q2) rfl; have b12_13_0 := B12x.cell 0 (v := .int .i64 (To.fi x)) rfl; have b12_13_1 := B12x.cell 1 (v := .int .i64 (To.fi y)) rfl; have b12_13_2 := B12x.cell 2 (v := .int .i64 x) rfl; have b12_13_3 := B12x.cell 3 (v := .int .i64 y) rfl) | (go_at_call 10; (fail_if_success (guard_hyp g14)); refine (hca _).mono ?_; rintro e w14 ⟨rfl, g14⟩; have G14 := gb_trans G13 g14; have T6dxxxx := T6dxxx.kept g14 (by simp); have P6dxxxx := P6dxxx.kept g14 (by simp); have Q6dxxxx := Q6dxxx.kept g14 (by simp); have B12xx := B12x.kept g14 (by simp); obtain ⟨W15, hW15, sz15, g15, B15⟩ := boxn w14 #[.int .i64 ca1, .int .i64 ca2] 25; have G15 := gb_trans G14 g15; have T6dxxxxx := T6dxxxx.kept g15 (by simp); have P6dxxxxx := P6dxxxx.kept g15 (by simp); have Q6dxxxxx := Q6dxxxx.kept g15 (by simp); have B12xxx := B12xx.kept g15 (by simp); clear bt_13_0 bt_13_1 bt_13_2 bt_13_3 bt_13_4 bp_13_0 bp_13_1 bq_13_0 bq_13_1 b12_13_0 b12_13_1 b12_13_2 b12_13_3; have bt_15_0 := T6dxxxxx.cell 0 (v := .int .u8 k) rfl; have bt_15_1 := T6dxxxxx.cell 1 (v := .int .i64 x) rfl; have bt_15_2 := T6dxxxxx.cell 2 (v := .int .i64 y) rfl; have bt_15_3 := T6dxxxxx.cell 3 (v := .int .u8 t) rfl; have bt_15_4 := T6dxxxxx.cell 4 (v := .int .i64 z) rfl; have bp_15_0 := P6dxxxxx.cell 0 (v := .int .i64 p1) rfl; have bp_15_1 := P6dxxxxx.cell 1 (v := .int .i64 p2) rfl; have bq_15_0 := Q6dxxxxx.cell 0 (v := .int .i64 q1) rfl; have bq_15_1 := Q6dxxxxx.cell 1 (v := .int .i64 q2) rfl; have b12_15_0 := B12xxx.cell 0 (v := .int .i64 (To.fi x)) rfl; have b12_15_1 := B12xxx.cell 1 (v := .int .i64 (To.fi y)) rfl; have b12_15_2 := B12xxx.cell 2 (v := .int .i64 x) rfl; have b12_15_3 := B12xxx.cell 3 (v := .int .i64 y) rfl; have b15_15_0 := B15.cell 0 (v := .int .i64 ca1) rfl; have b15_15_1 := B15.cell 1 (v := .int .i64 ca2) rfl) | (go_at_call 10; (fail_if_success (guard_hyp g16)); refine (hcb _).mono ?_; rintro e w16 ⟨rfl, g16⟩; have G16 := gb_trans G15 g16; have T6dxxxxxx := T6dxxxxx.kept g16 (by simp); have P6dxxxxxx := P6dxxxxx.kept g16 (by simp); have Q6dxxxxxx := Q6dxxxxx.kept g16 (by simp); have B12xxxx := B12xxx.kept g16 (by simp); have B15x := B15.kept g16 (by simp); obtain ⟨W17, hW17, sz17, g17, B17⟩ := boxn w16 #[.int .i64 cb1, .int .i64 cb2] 25; have G17 := gb_trans G16 g17; have T6dxxxxxxx := T6dxxxxxx.kept g17 (by simp); have P6dxxxxxxx := P6dxxxxxx.kept g17 (by simp); have Q6dxxxxxxx := Q6dxxxxxx.kept g17 (by simp); have B12xxxxx := B12xxxx.kept g17 (by simp); have B15xx := B15x.kept g17 (by simp); clear bt_15_0 bt_15_1 bt_15_2 bt_15_3 bt_15_4 bp_15_0 bp_15_1 bq_15_0 bq_15_1 b12_15_0 b12_15_1 b12_15_2 b12_15_3 b15_15_0 b15_15_1; have bt_17_0 := T6dxxxxxxx.cell 0 (v := .int .u8 k) rfl; have bt_17_1 := T6dxxxxxxx.cell 1 (v := .int .i64 x) rfl; have bt_17_2 := T6dxxxxxxx.cell 2 (v := .int .i64 y) rfl; have bt_17_3 := T6dxxxxxxx.cell 3 (v := .int .u8 t) rfl; have bt_17_4 := T6dxxxxxxx.cell 4 (v := .int .i64 z) rfl; have bp_17_0 := P6dxxxxxxx.cell 0 (v := .int .i64 p1) rfl; have bp_17_1 := P6dxxxxxxx.cell 1 (v := .int .i64 p2) rfl; have bq_17_0 := Q6dxxxxxxx.cell 0 (v := .int .i64 q1) rfl; have bq_17_1 := Q6dxxxxxxx.cell 1 (v := .int .i64 q2) rfl; have b12_17_0 := B12xxxxx.cell 0 (v := .int .i64 (To.fi x)) rfl; have b12_17_1 := B12xxxxx.cell 1 (v := .int .i64 (To.fi y)) rfl; have b12_17_2 := B12xxxxx.cell 2 (v := .int .i64 x) rfl; have b12_17_3 := B12xxxxx.cell 3 (v := .int .i64 y) rfl; have b15_17_0 := B15xx.cell 0 (v := .int .i64 ca1) rfl; have b15_17_1 := B15xx.cell 1 (v := .int .i64 ca2) rfl; have b17_17_0 := B17.cell 0 (v := .int .i64 cb1) rfl; have b17_17_1 := B17.cell 1 (v := .int .i64 cb2) rfl))
  all_goals refine wp_region_quiet_lit (by kernel_rfl) (by kernel_rfl) (Wq.out ?_)
  all_goals iterate 7 (refine Wq.step (fun K hK => ?_); go_simp; refine hK _ ?_; clear hK K)
  all_goals (refine Wq.step (fun K hK => ?_); go_simp; apply Exists.intro; refine ⟨fun _ => ?_, hK _ ?_⟩; exact Calls.quiet_of_same (ht1 _); clear hK K)
  all_goals iterate 7 (refine Wq.step (fun K hK => ?_); go_simp; refine hK _ ?_; clear hK K)
  all_goals (refine Wq.step (fun K hK => ?_); go_simp; apply Exists.intro; refine ⟨fun _ => ?_, hK _ ?_⟩; exact Calls.quiet_of_same (ht2 _); clear hK K)
  all_goals iterate 2 (refine Wq.step (fun K hK => ?_); go_simp; refine hK _ ?_; clear hK K)
  all_goals iterate 7 (refine Wq.step (fun K hK => ?_); go_simp; refine hK _ ?_; clear hK K)
  all_goals (refine Wq.step (fun K hK => ?_); go_simp; apply Exists.intro; refine ⟨fun _ => ?_, hK _ ?_⟩; exact Calls.quiet_of_same (ht3 _); clear hK K)
  all_goals iterate 7 (refine Wq.step (fun K hK => ?_); go_simp; refine hK _ ?_; clear hK K)
  all_goals (refine Wq.step (fun K hK => ?_); go_simp; apply Exists.intro; refine ⟨fun _ => ?_, hK _ ?_⟩; exact Calls.quiet_of_same (ht4 _); clear hK K)
  all_goals iterate 2 (refine Wq.step (fun K hK => ?_); go_simp; refine hK _ ?_; clear hK K)
  all_goals refine Wq.nil ?_
  all_goals intro _ hw'
  all_goals obtain ⟨nq, hw2⟩ := hw'
  all_goals subst hw2
  all_goals go_wp2
  all_goals go_ret
  all_goals exact ⟨rfl, gb_drewN G17 _⟩
end Go.Proofs.Ytgiiaokkmnjckaa
