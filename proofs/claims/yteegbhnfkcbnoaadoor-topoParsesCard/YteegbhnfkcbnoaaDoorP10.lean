/- What the topology of a draft is. -/
import Derived.Test.YteegbhnfkcbnoaaDoorP8
namespace Go.Proofs.YteegbhnfkcbnoaaDoor
open Go.RowKit
set_option linter.unusedVariables false
set_option linter.unusedSimpArgs false
set_option maxRecDepth 100000

set_option maxHeartbeats 1000000 in
theorem turnedV0 (z0 z1 z2 z3 z4 z5 z6 z7 z8 z9 z10 z11 : Int) (w : World) (hT : Hid (Tf w)) : Calls Tryd.prog 41 #[.agg #[.int .u8 z0, .int .i64 z1, .int .i64 z2, .int .i64 z3, .int .i64 z4, .int .i64 z5, .int .i64 z6, .int .i64 z7, .int .i64 z8, .int .i64 z9, .int .i64 z10, .int .i64 z11], .int .i64 0] w fun e w' => e = .returned (.agg #[.int .u8 z0, .int .i64 z2, .int .i64 z7, .int .u8 1, .int .i64 z5]) ∧ w.grownBy w' none := by
  obtain ⟨fs, hfs⟩ := underT
  obtain ⟨W1, hW1, sz1, g1, B1⟩ := boxn w #[.int .u8 z0, .int .i64 z1, .int .i64 z2, .int .i64 z3, .int .i64 z4, .int .i64 z5, .int .i64 z6, .int .i64 z7, .int .i64 z8, .int .i64 z9, .int .i64 z10, .int .i64 z11] 40
  obtain ⟨W2, hW2, sz2, g2, B2⟩ := boxn W1 #[.int .u8 0, .int .i64 0, .int .i64 0, .int .u8 0, .int .i64 0] 23
  have B1' := B1.kept g2 (by simp)
  have G2 := gb_trans g1 g2
  have hT2 := tfK hT G2
  have y0 := hT2.out.1
  have y1 := hT2.out.2
  have c0 := B1'.cell 0 (v := .int .u8 z0) rfl
  have c1 := B1'.cell 1 (v := .int .i64 z1) rfl
  have c2 := B1'.cell 2 (v := .int .i64 z2) rfl
  have c3 := B1'.cell 3 (v := .int .i64 z3) rfl
  have c4 := B1'.cell 4 (v := .int .i64 z4) rfl
  have c5 := B1'.cell 5 (v := .int .i64 z5) rfl
  have c6 := B1'.cell 6 (v := .int .i64 z6) rfl
  have c7 := B1'.cell 7 (v := .int .i64 z7) rfl
  have c8 := B1'.cell 8 (v := .int .i64 z8) rfl
  have c9 := B1'.cell 9 (v := .int .i64 z9) rfl
  have c10 := B1'.cell 10 (v := .int .i64 z10) rfl
  have c11 := B1'.cell 11 (v := .int .i64 z11) rfl
  have d0 := B2.cell 0 (v := .int .u8 0) rfl
  have d1 := B2.cell 1 (v := .int .i64 0) rfl
  have d2 := B2.cell 2 (v := .int .i64 0) rfl
  have d3 := B2.cell 3 (v := .int .u8 0) rfl
  have d4 := B2.cell 4 (v := .int .i64 0) rfl
  have f0 := B2.frozen 0
  have f1 := B2.frozen 1
  have f2 := B2.frozen 2
  have f3 := B2.frozen 3
  have f4 := B2.frozen 4
  go_enter Tryd.func41, Tryd.ntmps41
  go_wp2
  refine region_tail 19 mixedP (by kernel_rfl) ?_
  simp only [List.take_succ_cons, List.take_zero, List.drop_succ_cons, List.drop_zero]
  iterate 19 still_step
  refine wpStill_nil ?_
  go_wp2
  refine ret_c1 (g := W1.heap.size) (cs := #[.int .u8 z0, .int .i64 z2, .int .i64 z7, .int .u8 1, .int .i64 z5]) rfl hfs infoT rfl (bo5 B2).dr rfl ⟨rfl, gb_drew (gb5 G2 g1.size)⟩

set_option maxHeartbeats 1000000 in
theorem turnedV1 (z0 z1 z2 z3 z4 z5 z6 z7 z8 z9 z10 z11 : Int) (w : World) (hT : Hid (Tf w)) : Calls Tryd.prog 41 #[.agg #[.int .u8 z0, .int .i64 z1, .int .i64 z2, .int .i64 z3, .int .i64 z4, .int .i64 z5, .int .i64 z6, .int .i64 z7, .int .i64 z8, .int .i64 z9, .int .i64 z10, .int .i64 z11], .int .i64 1] w fun e w' => e = .returned (.agg #[.int .u8 z0, .int .i64 z2, .int .i64 z7, .int .u8 2, .int .i64 z10]) ∧ w.grownBy w' none := by
  obtain ⟨fs, hfs⟩ := underT
  obtain ⟨W1, hW1, sz1, g1, B1⟩ := boxn w #[.int .u8 z0, .int .i64 z1, .int .i64 z2, .int .i64 z3, .int .i64 z4, .int .i64 z5, .int .i64 z6, .int .i64 z7, .int .i64 z8, .int .i64 z9, .int .i64 z10, .int .i64 z11] 40
  obtain ⟨W2, hW2, sz2, g2, B2⟩ := boxn W1 #[.int .u8 0, .int .i64 0, .int .i64 0, .int .u8 0, .int .i64 0] 23
  have B1' := B1.kept g2 (by simp)
  have G2 := gb_trans g1 g2
  have hT2 := tfK hT G2
  have y0 := hT2.out.1
  have y1 := hT2.out.2
  have c0 := B1'.cell 0 (v := .int .u8 z0) rfl
  have c1 := B1'.cell 1 (v := .int .i64 z1) rfl
  have c2 := B1'.cell 2 (v := .int .i64 z2) rfl
  have c3 := B1'.cell 3 (v := .int .i64 z3) rfl
  have c4 := B1'.cell 4 (v := .int .i64 z4) rfl
  have c5 := B1'.cell 5 (v := .int .i64 z5) rfl
  have c6 := B1'.cell 6 (v := .int .i64 z6) rfl
  have c7 := B1'.cell 7 (v := .int .i64 z7) rfl
  have c8 := B1'.cell 8 (v := .int .i64 z8) rfl
  have c9 := B1'.cell 9 (v := .int .i64 z9) rfl
  have c10 := B1'.cell 10 (v := .int .i64 z10) rfl
  have c11 := B1'.cell 11 (v := .int .i64 z11) rfl
  have d0 := B2.cell 0 (v := .int .u8 0) rfl
  have d1 := B2.cell 1 (v := .int .i64 0) rfl
  have d2 := B2.cell 2 (v := .int .i64 0) rfl
  have d3 := B2.cell 3 (v := .int .u8 0) rfl
  have d4 := B2.cell 4 (v := .int .i64 0) rfl
  have f0 := B2.frozen 0
  have f1 := B2.frozen 1
  have f2 := B2.frozen 2
  have f3 := B2.frozen 3
  have f4 := B2.frozen 4
  go_enter Tryd.func41, Tryd.ntmps41
  go_wp2
  refine region_tail 19 mixedP (by kernel_rfl) ?_
  simp only [List.take_succ_cons, List.take_zero, List.drop_succ_cons, List.drop_zero]
  iterate 19 still_step
  refine wpStill_nil ?_
  go_wp2
  refine ret_c1 (g := W1.heap.size) (cs := #[.int .u8 z0, .int .i64 z2, .int .i64 z7, .int .u8 2, .int .i64 z10]) rfl hfs infoT rfl (bo5 B2).dr rfl ⟨rfl, gb_drew (gb5 G2 g1.size)⟩

theorem top_p {k : Nat} {P Q : Tp.Pt} (h : 0 < (P.star : Int) ∨ 0 < (P.sign : Int)) : (#[.int .u8 k, .int .i64 (P.len : Nat), .int .i64 (Q.len : Nat), .int .u8 1, .int .i64 P.sh] : Array Value) = #[.int .u8 k, .int .i64 (P.len : Nat), .int .i64 (Q.len : Nat), .int .u8 ((Tp.topoR k P Q).t : Nat), .int .i64 (Tp.topoR k P Q).s] := by
  have ht : Tp.topoR k P Q = ⟨k, P.len, Q.len, 1, P.sh, 0, 0⟩ := by unfold Tp.topoR; rw [if_pos (by omega)]
  rw [ht]; rfl
theorem top_q {k : Nat} {P Q : Tp.Pt} (h1 : ¬ 0 < (P.star : Int)) (h2 : ¬ 0 < (P.sign : Int)) (h : 0 < (Q.star : Int) ∨ 0 < (Q.sign : Int)) : (#[.int .u8 k, .int .i64 (P.len : Nat), .int .i64 (Q.len : Nat), .int .u8 2, .int .i64 Q.sh] : Array Value) = #[.int .u8 k, .int .i64 (P.len : Nat), .int .i64 (Q.len : Nat), .int .u8 ((Tp.topoR k P Q).t : Nat), .int .i64 (Tp.topoR k P Q).s] := by
  have ht : Tp.topoR k P Q = ⟨k, P.len, Q.len, 2, Q.sh, 0, 0⟩ := by unfold Tp.topoR; rw [if_neg (by omega), if_pos (by omega)]
  rw [ht]; rfl
theorem top_n {k : Nat} {P Q : Tp.Pt} (h1 : ¬ 0 < (P.star : Int)) (h2 : ¬ 0 < (P.sign : Int)) (h3 : ¬ 0 < (Q.star : Int)) (h4 : ¬ 0 < (Q.sign : Int)) : (#[.int .u8 k, .int .i64 (P.len : Nat), .int .i64 (Q.len : Nat), .int .u8 0, .int .i64 0] : Array Value) = #[.int .u8 k, .int .i64 (P.len : Nat), .int .i64 (Q.len : Nat), .int .u8 ((Tp.topoR k P Q).t : Nat), .int .i64 (Tp.topoR k P Q).s] := by
  have ht : Tp.topoR k P Q = ⟨k, P.len, Q.len, 0, 0, 0, 0⟩ := by unfold Tp.topoR; rw [if_neg (by omega), if_neg (by omega)]
  rw [ht]; rfl
theorem ret_ag {c d : Array Value} (h : c = d) : Ending.returned (.agg c) = .returned (.agg d) := by rw [h]
set_option maxHeartbeats 1000000 in
theorem topoC (k l : Nat) (P Q : Tp.Pt) (w : World) (hT : Hid (Tf w)) : Calls Tryd.prog 18 #[.agg #[.int .u8 k, .int .i64 (P.pl : Nat), .int .i64 (P.len : Nat), .int .i64 (P.star : Nat), .int .i64 (P.sign : Nat), .int .i64 P.sh, .int .i64 (Q.pl : Nat), .int .i64 (Q.len : Nat), .int .i64 (Q.star : Nat), .int .i64 (Q.sign : Nat), .int .i64 Q.sh, .int .i64 (l : Nat)]] w fun e w' => e = .returned (.agg #[.int .u8 k, .int .i64 (P.len : Nat), .int .i64 (Q.len : Nat), .int .u8 ((Tp.topoR k P Q).t : Nat), .int .i64 (Tp.topoR k P Q).s]) ∧ w.grownBy w' none := by
  obtain ⟨fs, hfs⟩ := underT
  obtain ⟨W1, hW1, sz1, g1, B1⟩ := boxn w #[.int .u8 k, .int .i64 (P.pl : Nat), .int .i64 (P.len : Nat), .int .i64 (P.star : Nat), .int .i64 (P.sign : Nat), .int .i64 P.sh, .int .i64 (Q.pl : Nat), .int .i64 (Q.len : Nat), .int .i64 (Q.star : Nat), .int .i64 (Q.sign : Nat), .int .i64 Q.sh, .int .i64 (l : Nat)] 40
  obtain ⟨W2, hW2, sz2, g2, B2⟩ := boxn W1 #[.int .u8 0, .int .i64 0, .int .i64 0, .int .u8 0, .int .i64 0] 23
  obtain ⟨W3, hW3, sz3, g3, B3⟩ := boxn W2 #[.int .i64 (P.pl : Nat), .int .i64 (P.len : Nat), .int .i64 (P.star : Nat), .int .i64 (P.sign : Nat), .int .i64 P.sh] 37
  obtain ⟨W4, hW4, sz4, g4, B4⟩ := boxn W3 #[.int .i64 (Q.pl : Nat), .int .i64 (Q.len : Nat), .int .i64 (Q.star : Nat), .int .i64 (Q.sign : Nat), .int .i64 Q.sh] 37
  have G2 := gb_trans g1 g2
  have G3 := gb_trans G2 g3
  have G4 := gb_trans G3 g4
  have BD2 := B1.kept g2 (by simp)
  have BD3 := BD2.kept g3 (by simp)
  have BD4 := BD3.kept g4 (by simp)
  have BR3 := B2.kept g3 (by simp)
  have BR4 := BR3.kept g4 (by simp)
  have hT3 := tfK hT G3
  have hT4 := tfK hT G4
  have b0 := BD2.cell 0 (v := .int .u8 k) rfl
  have b1 := BD2.cell 1 (v := .int .i64 (P.pl : Nat)) rfl
  have b2 := BD2.cell 2 (v := .int .i64 (P.len : Nat)) rfl
  have b3 := BD2.cell 3 (v := .int .i64 (P.star : Nat)) rfl
  have b4 := BD2.cell 4 (v := .int .i64 (P.sign : Nat)) rfl
  have b5 := BD2.cell 5 (v := .int .i64 P.sh) rfl
  have b6 := BD2.cell 6 (v := .int .i64 (Q.pl : Nat)) rfl
  have b7 := BD2.cell 7 (v := .int .i64 (Q.len : Nat)) rfl
  have b8 := BD2.cell 8 (v := .int .i64 (Q.star : Nat)) rfl
  have b9 := BD2.cell 9 (v := .int .i64 (Q.sign : Nat)) rfl
  have b10 := BD2.cell 10 (v := .int .i64 Q.sh) rfl
  have b11 := BD2.cell 11 (v := .int .i64 (l : Nat)) rfl
  have c0 := BD3.cell 0 (v := .int .u8 k) rfl
  have c1 := BD3.cell 1 (v := .int .i64 (P.pl : Nat)) rfl
  have c2 := BD3.cell 2 (v := .int .i64 (P.len : Nat)) rfl
  have c3 := BD3.cell 3 (v := .int .i64 (P.star : Nat)) rfl
  have c4 := BD3.cell 4 (v := .int .i64 (P.sign : Nat)) rfl
  have c5 := BD3.cell 5 (v := .int .i64 P.sh) rfl
  have c6 := BD3.cell 6 (v := .int .i64 (Q.pl : Nat)) rfl
  have c7 := BD3.cell 7 (v := .int .i64 (Q.len : Nat)) rfl
  have c8 := BD3.cell 8 (v := .int .i64 (Q.star : Nat)) rfl
  have c9 := BD3.cell 9 (v := .int .i64 (Q.sign : Nat)) rfl
  have c10 := BD3.cell 10 (v := .int .i64 Q.sh) rfl
  have c11 := BD3.cell 11 (v := .int .i64 (l : Nat)) rfl
  have d0 := BD4.cell 0 (v := .int .u8 k) rfl
  have d1 := BD4.cell 1 (v := .int .i64 (P.pl : Nat)) rfl
  have d2 := BD4.cell 2 (v := .int .i64 (P.len : Nat)) rfl
  have d3 := BD4.cell 3 (v := .int .i64 (P.star : Nat)) rfl
  have d4 := BD4.cell 4 (v := .int .i64 (P.sign : Nat)) rfl
  have d5 := BD4.cell 5 (v := .int .i64 P.sh) rfl
  have d6 := BD4.cell 6 (v := .int .i64 (Q.pl : Nat)) rfl
  have d7 := BD4.cell 7 (v := .int .i64 (Q.len : Nat)) rfl
  have d8 := BD4.cell 8 (v := .int .i64 (Q.star : Nat)) rfl
  have d9 := BD4.cell 9 (v := .int .i64 (Q.sign : Nat)) rfl
  have d10 := BD4.cell 10 (v := .int .i64 Q.sh) rfl
  have d11 := BD4.cell 11 (v := .int .i64 (l : Nat)) rfl
  have eb0 := B3.cell 0 (v := .int .i64 (P.pl : Nat)) rfl
  have eb1 := B3.cell 1 (v := .int .i64 (P.len : Nat)) rfl
  have eb2 := B3.cell 2 (v := .int .i64 (P.star : Nat)) rfl
  have eb3 := B3.cell 3 (v := .int .i64 (P.sign : Nat)) rfl
  have eb4 := B3.cell 4 (v := .int .i64 P.sh) rfl
  have ec0 := B4.cell 0 (v := .int .i64 (Q.pl : Nat)) rfl
  have ec1 := B4.cell 1 (v := .int .i64 (Q.len : Nat)) rfl
  have ec2 := B4.cell 2 (v := .int .i64 (Q.star : Nat)) rfl
  have ec3 := B4.cell 3 (v := .int .i64 (Q.sign : Nat)) rfl
  have ec4 := B4.cell 4 (v := .int .i64 Q.sh) rfl
  have ed0 := BR4.cell 0 (v := .int .u8 0) rfl
  have ed1 := BR4.cell 1 (v := .int .i64 0) rfl
  have ed2 := BR4.cell 2 (v := .int .i64 0) rfl
  have ed3 := BR4.cell 3 (v := .int .u8 0) rfl
  have ed4 := BR4.cell 4 (v := .int .i64 0) rfl
  have ef0 := BR4.frozen 0
  have ef1 := BR4.frozen 1
  have ef2 := BR4.frozen 2
  have ef3 := BR4.frozen 3
  have ef4 := BR4.frozen 4
  have i0 := idx0
  have i1 := idx1
  go_enter Tryd.func18, Tryd.ntmps18
  go_wp2
  refine wp_loop_rounds 3 ?_
  rw [rounds_succ]
  go_wp2_with (first | (go_at_call 41; (fail_if_success (guard_hyp hone)); refine (turnedV0 _ _ _ _ _ _ _ _ _ _ _ _ _ hT3).mono ?_; rintro e w5 ⟨rfl, g5⟩; have G5 := gb_trans G3 g5; have BR5 := BR3.kept g5 (by simp); have eh5_0 := BR5.cell 0 (v := .int .u8 0) rfl; have eh5_1 := BR5.cell 1 (v := .int .i64 0) rfl; have eh5_2 := BR5.cell 2 (v := .int .i64 0) rfl; have eh5_3 := BR5.cell 3 (v := .int .u8 0) rfl; have eh5_4 := BR5.cell 4 (v := .int .i64 0) rfl; have ei5_0 := BR5.frozen 0; have ei5_1 := BR5.frozen 1; have ei5_2 := BR5.frozen 2; have ei5_3 := BR5.frozen 3; have ei5_4 := BR5.frozen 4))
  all_goals try (rw [rounds_succ]; go_wp2_with (first | (go_at_call 41; refine (turnedV1 _ _ _ _ _ _ _ _ _ _ _ _ _ hT4).mono ?_; rintro e w6 ⟨rfl, g6⟩; have G6 := gb_trans G4 g6; have BR6 := BR4.kept g6 (by simp); have eh6_0 := BR6.cell 0 (v := .int .u8 0) rfl; have eh6_1 := BR6.cell 1 (v := .int .i64 0) rfl; have eh6_2 := BR6.cell 2 (v := .int .i64 0) rfl; have eh6_3 := BR6.cell 3 (v := .int .u8 0) rfl; have eh6_4 := BR6.cell 4 (v := .int .i64 0) rfl; have ei6_0 := BR6.frozen 0; have ei6_1 := BR6.frozen 1; have ei6_2 := BR6.frozen 2; have ei6_3 := BR6.frozen 3; have ei6_4 := BR6.frozen 4)))
  all_goals try (rw [rounds_succ]; go_wp2)
  all_goals first
  | (guard_hyp g5; refine ret_c1 (g := W1.heap.size) (cs := #[.int .u8 k, .int .i64 (P.len : Nat), .int .i64 (Q.len : Nat), .int .u8 1, .int .i64 P.sh]) rfl hfs infoT rfl (bo5 BR5) rfl ⟨ret_ag (top_p (by omega)), gb5 G5 g1.size⟩)
  | (guard_hyp g6; refine ret_c1 (g := W1.heap.size) (cs := #[.int .u8 k, .int .i64 (P.len : Nat), .int .i64 (Q.len : Nat), .int .u8 2, .int .i64 Q.sh]) rfl hfs infoT rfl (bo5 BR6) rfl ⟨ret_ag (top_q (by omega) (by omega) (by omega)), gb5 G6 g1.size⟩)
  | (refine ret_c1 (g := W1.heap.size) (cs := #[.int .u8 k, .int .i64 (P.len : Nat), .int .i64 (Q.len : Nat), .int .u8 0, .int .i64 0]) rfl hfs infoT rfl (bo5 BR4) rfl ⟨ret_ag (top_n (by omega) (by omega) (by omega) (by omega)), gb5 G4 g1.size⟩)
end Go.Proofs.YteegbhnfkcbnoaaDoor
