/- What turned and wrongStar of a draft answer. -/
import Derived.Test.YteegbhnfkcbnoaaDoorP6
import Derived.Test.YteegbhnfkcbnoaaDoorT3
namespace Go.Proofs.YteegbhnfkcbnoaaDoor
open Go.RowKit
set_option linter.unusedVariables false
set_option linter.unusedSimpArgs false
set_option maxRecDepth 100000

/-- The table of Turns, as it is laid. -/
def Tf (w : World) : Prop := w.cell? ⟨0, 0, none⟩ = some (.int .u8 1) ∧ w.cell? ⟨0, 1, none⟩ = some (.int .u8 2)
theorem tfK {w w' : World} (h : Hid (Tf w)) (hg : w.grownBy w' none) : Hid (Tf w') :=
  ⟨hg.cell h.out.1 (by simp), hg.cell h.out.2 (by simp)⟩

set_option maxHeartbeats 1000000 in
theorem turned0 (k l : Nat) (P Q : Tp.Pt) (w : World) (hT : Hid (Tf w)) : Calls Tryd.prog 41 #[.agg #[.int .u8 k, .int .i64 (P.pl : Nat), .int .i64 (P.len : Nat), .int .i64 (P.star : Nat), .int .i64 (P.sign : Nat), .int .i64 P.sh, .int .i64 (Q.pl : Nat), .int .i64 (Q.len : Nat), .int .i64 (Q.star : Nat), .int .i64 (Q.sign : Nat), .int .i64 Q.sh, .int .i64 (l : Nat)], .int .i64 0] w fun e w' => e = .returned (.agg #[.int .u8 k, .int .i64 (P.len : Nat), .int .i64 (Q.len : Nat), .int .u8 1, .int .i64 P.sh]) ∧ w.grownBy w' none := by
  obtain ⟨fs, hfs⟩ := underT
  obtain ⟨W1, hW1, sz1, g1, B1⟩ := boxn w #[.int .u8 k, .int .i64 (P.pl : Nat), .int .i64 (P.len : Nat), .int .i64 (P.star : Nat), .int .i64 (P.sign : Nat), .int .i64 P.sh, .int .i64 (Q.pl : Nat), .int .i64 (Q.len : Nat), .int .i64 (Q.star : Nat), .int .i64 (Q.sign : Nat), .int .i64 Q.sh, .int .i64 (l : Nat)] 40
  obtain ⟨W2, hW2, sz2, g2, B2⟩ := boxn W1 #[.int .u8 0, .int .i64 0, .int .i64 0, .int .u8 0, .int .i64 0] 23
  have B1' := B1.kept g2 (by simp)
  have G2 := gb_trans g1 g2
  have hT2 := tfK hT G2
  have y0 := hT2.out.1
  have y1 := hT2.out.2
  have c0 := B1'.cell 0 (v := .int .u8 k) rfl
  have c1 := B1'.cell 1 (v := .int .i64 (P.pl : Nat)) rfl
  have c2 := B1'.cell 2 (v := .int .i64 (P.len : Nat)) rfl
  have c3 := B1'.cell 3 (v := .int .i64 (P.star : Nat)) rfl
  have c4 := B1'.cell 4 (v := .int .i64 (P.sign : Nat)) rfl
  have c5 := B1'.cell 5 (v := .int .i64 P.sh) rfl
  have c6 := B1'.cell 6 (v := .int .i64 (Q.pl : Nat)) rfl
  have c7 := B1'.cell 7 (v := .int .i64 (Q.len : Nat)) rfl
  have c8 := B1'.cell 8 (v := .int .i64 (Q.star : Nat)) rfl
  have c9 := B1'.cell 9 (v := .int .i64 (Q.sign : Nat)) rfl
  have c10 := B1'.cell 10 (v := .int .i64 Q.sh) rfl
  have c11 := B1'.cell 11 (v := .int .i64 (l : Nat)) rfl
  have d0 := B2.cell 0 (v := .int .u8 0) rfl
  have d1 := B2.cell 1 (v := .int .i64 0) rfl
  have d2 := B2.cell 2 (v := .int .i64 0) rfl
  have d3 := B2.cell 3 (v := .int .u8 0) rfl
  have d4 := B2.cell 4 (v := .int .i64 0) rfl
  have f0 := B2.frozen 0
  have f1 := B2.frozen 1
  have f2 := B2.frozen 2
  have f3 := B2.frozen 3
  have f4 := B2.frozen 4
  go_enter Tryd.func41, Tryd.ntmps41
  go_wp2
  refine region_tail 19 mixedP (by kernel_rfl) ?_
  simp only [List.take_succ_cons, List.take_zero, List.drop_succ_cons, List.drop_zero]
  iterate 19 still_step
  refine wpStill_nil ?_
  go_wp2
  refine ret_c1 (g := W1.heap.size) (cs := #[.int .u8 k, .int .i64 (P.len : Nat), .int .i64 (Q.len : Nat), .int .u8 1, .int .i64 P.sh]) rfl hfs infoT rfl (bo5 B2).dr rfl ⟨rfl, gb_drew (gb5 G2 g1.size)⟩

set_option maxHeartbeats 1000000 in
theorem turned1 (k l : Nat) (P Q : Tp.Pt) (w : World) (hT : Hid (Tf w)) : Calls Tryd.prog 41 #[.agg #[.int .u8 k, .int .i64 (P.pl : Nat), .int .i64 (P.len : Nat), .int .i64 (P.star : Nat), .int .i64 (P.sign : Nat), .int .i64 P.sh, .int .i64 (Q.pl : Nat), .int .i64 (Q.len : Nat), .int .i64 (Q.star : Nat), .int .i64 (Q.sign : Nat), .int .i64 Q.sh, .int .i64 (l : Nat)], .int .i64 1] w fun e w' => e = .returned (.agg #[.int .u8 k, .int .i64 (P.len : Nat), .int .i64 (Q.len : Nat), .int .u8 2, .int .i64 Q.sh]) ∧ w.grownBy w' none := by
  obtain ⟨fs, hfs⟩ := underT
  obtain ⟨W1, hW1, sz1, g1, B1⟩ := boxn w #[.int .u8 k, .int .i64 (P.pl : Nat), .int .i64 (P.len : Nat), .int .i64 (P.star : Nat), .int .i64 (P.sign : Nat), .int .i64 P.sh, .int .i64 (Q.pl : Nat), .int .i64 (Q.len : Nat), .int .i64 (Q.star : Nat), .int .i64 (Q.sign : Nat), .int .i64 Q.sh, .int .i64 (l : Nat)] 40
  obtain ⟨W2, hW2, sz2, g2, B2⟩ := boxn W1 #[.int .u8 0, .int .i64 0, .int .i64 0, .int .u8 0, .int .i64 0] 23
  have B1' := B1.kept g2 (by simp)
  have G2 := gb_trans g1 g2
  have hT2 := tfK hT G2
  have y0 := hT2.out.1
  have y1 := hT2.out.2
  have c0 := B1'.cell 0 (v := .int .u8 k) rfl
  have c1 := B1'.cell 1 (v := .int .i64 (P.pl : Nat)) rfl
  have c2 := B1'.cell 2 (v := .int .i64 (P.len : Nat)) rfl
  have c3 := B1'.cell 3 (v := .int .i64 (P.star : Nat)) rfl
  have c4 := B1'.cell 4 (v := .int .i64 (P.sign : Nat)) rfl
  have c5 := B1'.cell 5 (v := .int .i64 P.sh) rfl
  have c6 := B1'.cell 6 (v := .int .i64 (Q.pl : Nat)) rfl
  have c7 := B1'.cell 7 (v := .int .i64 (Q.len : Nat)) rfl
  have c8 := B1'.cell 8 (v := .int .i64 (Q.star : Nat)) rfl
  have c9 := B1'.cell 9 (v := .int .i64 (Q.sign : Nat)) rfl
  have c10 := B1'.cell 10 (v := .int .i64 Q.sh) rfl
  have c11 := B1'.cell 11 (v := .int .i64 (l : Nat)) rfl
  have d0 := B2.cell 0 (v := .int .u8 0) rfl
  have d1 := B2.cell 1 (v := .int .i64 0) rfl
  have d2 := B2.cell 2 (v := .int .i64 0) rfl
  have d3 := B2.cell 3 (v := .int .u8 0) rfl
  have d4 := B2.cell 4 (v := .int .i64 0) rfl
  have f0 := B2.frozen 0
  have f1 := B2.frozen 1
  have f2 := B2.frozen 2
  have f3 := B2.frozen 3
  have f4 := B2.frozen 4
  go_enter Tryd.func41, Tryd.ntmps41
  go_wp2
  refine region_tail 19 mixedP (by kernel_rfl) ?_
  simp only [List.take_succ_cons, List.take_zero, List.drop_succ_cons, List.drop_zero]
  iterate 19 still_step
  refine wpStill_nil ?_
  go_wp2
  refine ret_c1 (g := W1.heap.size) (cs := #[.int .u8 k, .int .i64 (P.len : Nat), .int .i64 (Q.len : Nat), .int .u8 2, .int .i64 Q.sh]) rfl hfs infoT rfl (bo5 B2).dr rfl ⟨rfl, gb_drew (gb5 G2 g1.size)⟩

def orZ (x y : Int) : Int := if x = 0 then y else x
set_option maxHeartbeats 1000000 in
theorem orC (x y : Int) (c g : Nat) (w : World) (h1 : w.cell? ⟨g, 0, none⟩ = some (.int .i64 x)) (h2 : w.cell? ⟨g, 1, none⟩ = some (.int .i64 y)) : Calls Tryd.prog 54 #[.slice (some ⟨g, 0, none⟩) 2 c] w fun e w' => e = .returned (.int .i64 (orZ x y)) ∧ w' = w := by
  cases hx : (x != 0) with
  | true =>
    have HX : Hid (x = orZ x y) := by unfold Hid orZ; rw [if_neg (by simpa using hx)]
    go_enter Tryd.func54, Tryd.ntmps54
    go_wp2
    refine wp_loop_rounds 3 ?_
    rw [rounds_succ]
    go_wp2
    go_ret
    exact ⟨retI HX.out, rfl⟩
  | false =>
    have hx0 : x = 0 := by simpa using hx
    cases hy : (y != 0) with
    | true =>
      have HX : Hid (y = orZ x y) := by unfold Hid orZ; rw [if_pos hx0]
      clear hx0
      go_enter Tryd.func54, Tryd.ntmps54
      go_wp2
      refine wp_loop_rounds 3 ?_
      rw [rounds_succ]
      go_wp2
      rw [rounds_succ]
      go_wp2
      go_ret
      exact ⟨retI HX.out, rfl⟩
    | false =>
      have hy0 : y = 0 := by simpa using hy
      have HX : Hid (0 = orZ x y) := by unfold Hid orZ; rw [if_pos hx0, hy0]
      clear hx0 hy0
      go_enter Tryd.func54, Tryd.ntmps54
      go_wp2
      refine wp_loop_rounds 3 ?_
      rw [rounds_succ]
      go_wp2
      rw [rounds_succ]
      go_wp2
      rw [rounds_succ]
      go_wp2
      go_ret
      exact ⟨retI HX.out, rfl⟩

theorem fld1 (a b c d : Value) (w : World) : (Instr.field 69 (.agg #[a, b, c, d]) 1).run Tryd.prog w = .ok b w := by simp [Instr.field, underlying, Tryd.underlying69, asAgg, part]
theorem fld3 (a b c d : Value) (w : World) : (Instr.field 69 (.agg #[a, b, c, d]) 3).run Tryd.prog w = .ok d w := by simp [Instr.field, underlying, Tryd.underlying69, asAgg, part]

theorem nF_three (k : Nat) : nF k = decide (k = 3) := by unfold nF; congr 1; exact propext (by omega)
theorem orZ_nat (x y : Nat) : orZ x y = ((if x = 0 then y else x : Nat) : Int) := by
  unfold orZ
  by_cases h : x = 0
  · rw [if_pos h, if_pos (by omega)]
  · rw [if_neg h, if_neg (by omega)]
set_option maxHeartbeats 1000000 in
theorem wrongStarC (k l : Nat) (P Q : Tp.Pt) (w : World) : Calls Tryd.prog 39 #[.agg #[.int .u8 k, .int .i64 (P.pl : Nat), .int .i64 (P.len : Nat), .int .i64 (P.star : Nat), .int .i64 (P.sign : Nat), .int .i64 P.sh, .int .i64 (Q.pl : Nat), .int .i64 (Q.len : Nat), .int .i64 (Q.star : Nat), .int .i64 (Q.sign : Nat), .int .i64 Q.sh, .int .i64 (l : Nat)]] w fun e w' => e = .returned (.int .i64 (Tp.wst k P Q l : Nat)) ∧ w.grownBy w' none := by
  obtain ⟨W1, hW1, sz1, g1, B1⟩ := boxn w #[.int .u8 k, .int .i64 (P.pl : Nat), .int .i64 (P.len : Nat), .int .i64 (P.star : Nat), .int .i64 (P.sign : Nat), .int .i64 P.sh, .int .i64 (Q.pl : Nat), .int .i64 (Q.len : Nat), .int .i64 (Q.star : Nat), .int .i64 (Q.sign : Nat), .int .i64 Q.sh, .int .i64 (l : Nat)] 40
  have c0 := B1.cell 0 (v := .int .u8 k) rfl
  have c1 := B1.cell 1 (v := .int .i64 (P.pl : Nat)) rfl
  have c2 := B1.cell 2 (v := .int .i64 (P.len : Nat)) rfl
  have c3 := B1.cell 3 (v := .int .i64 (P.star : Nat)) rfl
  have c4 := B1.cell 4 (v := .int .i64 (P.sign : Nat)) rfl
  have c5 := B1.cell 5 (v := .int .i64 P.sh) rfl
  have c6 := B1.cell 6 (v := .int .i64 (Q.pl : Nat)) rfl
  have c7 := B1.cell 7 (v := .int .i64 (Q.len : Nat)) rfl
  have c8 := B1.cell 8 (v := .int .i64 (Q.star : Nat)) rfl
  have c9 := B1.cell 9 (v := .int .i64 (Q.sign : Nat)) rfl
  have c10 := B1.cell 10 (v := .int .i64 Q.sh) rfl
  have c11 := B1.cell 11 (v := .int .i64 (l : Nat)) rfl
  go_enter Tryd.func39, Tryd.ntmps39
  go_wp2
  go_quiet (fail)
  go_wp2_with (first | (go_at_call 29; refine (natureC _ _).mono ?_; rintro e w2 ⟨rfl, g2⟩; have B2 := (B1.drew).kept g2 (by simp); have q3 := fld3 (.bool (nA k)) (.bool (nE k)) (.bool (nT k)) (.bool (nF k)) w2; have d0 := B2.cell 0 (v := .int .u8 k) rfl; have d1 := B2.cell 1 (v := .int .i64 (P.pl : Nat)) rfl; have d2 := B2.cell 2 (v := .int .i64 (P.len : Nat)) rfl; have d3 := B2.cell 3 (v := .int .i64 (P.star : Nat)) rfl; have d4 := B2.cell 4 (v := .int .i64 (P.sign : Nat)) rfl; have d5 := B2.cell 5 (v := .int .i64 P.sh) rfl; have d6 := B2.cell 6 (v := .int .i64 (Q.pl : Nat)) rfl; have d7 := B2.cell 7 (v := .int .i64 (Q.len : Nat)) rfl; have d8 := B2.cell 8 (v := .int .i64 (Q.star : Nat)) rfl; have d9 := B2.cell 9 (v := .int .i64 (Q.sign : Nat)) rfl; have d10 := B2.cell 10 (v := .int .i64 Q.sh) rfl; have d11 := B2.cell 11 (v := .int .i64 (l : Nat)) rfl; obtain ⟨W9, hW9, sz9, g9, B9⟩ := boxn w2 #[.int .i64 (P.star : Nat), .int .i64 (Q.star : Nat)] 3; have e0 := B9.cell 0 (v := .int .i64 (P.star : Nat)) rfl; have e1 := B9.cell 1 (v := .int .i64 (Q.star : Nat)) rfl) | (go_at_call 54; refine (orC _ _ _ _ _ e0 e1).mono ?_; rintro e w' ⟨rfl, hw'⟩; subst w'))
  all_goals go_ret
  all_goals refine ⟨retI ?_, by first | exact gb_trans (gb_drewN g1 _) g2 | exact gb_trans (gb_trans (gb_drewN g1 _) g2) g9⟩
  all_goals clear c0 c1 c2 c3 c4 c5 c6 c7 c8 c9 c10 c11 d0 d1 d2 d3 d4 d5 d6 d7 d8 d9 d10 d11 q3 B1 B2 hW1 sz1 e0 e1 B9 hW9 sz9
  all_goals try rw [orZ_nat]
  all_goals simp only [nF_three, decide_eq_true_eq, decide_eq_false_iff_not, Bool.not_eq_true', Bool.not_eq_false', beq_iff_eq, beq_eq_false_iff_ne, ne_eq] at *
  all_goals unfold Tp.wst
  all_goals repeat' split
  all_goals omega
end Go.Proofs.YteegbhnfkcbnoaaDoor
