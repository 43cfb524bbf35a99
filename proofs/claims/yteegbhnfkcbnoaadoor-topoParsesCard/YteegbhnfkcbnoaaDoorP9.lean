/- What sense of a draft answers. -/
import Derived.Test.YteegbhnfkcbnoaaDoorP8
namespace Go.Proofs.YteegbhnfkcbnoaaDoor
open Go.RowKit
set_option linter.unusedVariables false
set_option linter.unusedSimpArgs false
set_option maxRecDepth 100000

theorem wrongSignC (k l : Nat) (P Q : Tp.Pt) (w : World) (hT : Hid (Tf w)) : Calls Tryd.prog 40 #[.agg #[.int .u8 k, .int .i64 (P.pl : Nat), .int .i64 (P.len : Nat), .int .i64 (P.star : Nat), .int .i64 (P.sign : Nat), .int .i64 P.sh, .int .i64 (Q.pl : Nat), .int .i64 (Q.len : Nat), .int .i64 (Q.star : Nat), .int .i64 (Q.sign : Nat), .int .i64 Q.sh, .int .i64 (l : Nat)]] w fun e w' => e = .returned (.int .i64 (Tp.wsg k P Q : Nat)) ∧ w.grownBy w' none := by
  cases hp : ((P.sign : Int) == 0) with
  | true =>
    cases hq : ((Q.sign : Int) == 0) with
    | true => exact wsign_00 k l P Q w hT hp hq
    | false => exact wsign_0q k l P Q w hT hp hq
  | false =>
    cases hq : ((Q.sign : Int) == 0) with
    | true => exact wsign_p0 k l P Q w hT hp hq
    | false => exact wsign_pq k l P Q w hT hp hq
theorem nE_three (k : Nat) (h : k ≤ 5) : nE k = decide (3 ≤ k) := by
  obtain h | h | h | h | h | h : k = 0 ∨ k = 1 ∨ k = 2 ∨ k = 3 ∨ k = 4 ∨ k = 5 := by omega
  all_goals subst h; rfl
theorem ret_sn {a b c d : Int} (h1 : a = c) (h2 : b = d) : Ending.returned (.tuple #[.int .i64 a, .int .i64 b]) = .returned (.tuple #[.int .i64 c, .int .i64 d]) := by rw [h1, h2]

set_option maxHeartbeats 4000000 in
theorem sense_nn (k l : Nat) (P Q : Tp.Pt) (w : World) (hT : Hid (Tf w)) (hk : k ≤ 5) (hp : ((P.len : Int) == 0) = false) (hq : ((Q.len : Int) == 0) = false) : Calls Tryd.prog 17 #[.agg #[.int .u8 k, .int .i64 (P.pl : Nat), .int .i64 (P.len : Nat), .int .i64 (P.star : Nat), .int .i64 (P.sign : Nat), .int .i64 P.sh, .int .i64 (Q.pl : Nat), .int .i64 (Q.len : Nat), .int .i64 (Q.star : Nat), .int .i64 (Q.sign : Nat), .int .i64 Q.sh, .int .i64 (l : Nat)]] w fun e w' => e = .returned (.tuple #[.int .i64 ((Tp.senseR k P Q l).a : Nat), .int .i64 ((Tp.senseR k P Q l).e : Nat)]) ∧ w.grownBy w' none := by
  obtain ⟨W1, hW1, sz1, g1, B1⟩ := boxn w #[.int .u8 k, .int .i64 (P.pl : Nat), .int .i64 (P.len : Nat), .int .i64 (P.star : Nat), .int .i64 (P.sign : Nat), .int .i64 P.sh, .int .i64 (Q.pl : Nat), .int .i64 (Q.len : Nat), .int .i64 (Q.star : Nat), .int .i64 (Q.sign : Nat), .int .i64 Q.sh, .int .i64 (l : Nat)] 40
  obtain ⟨W2, hW2, sz2, g2, B2⟩ := boxn W1 #[.int .i64 (P.pl : Nat), .int .i64 (P.len : Nat), .int .i64 (P.star : Nat), .int .i64 (P.sign : Nat), .int .i64 P.sh] 37
  obtain ⟨W3, hW3, sz3, g3, B3⟩ := boxn W2 #[.int .i64 (Q.pl : Nat), .int .i64 (Q.len : Nat), .int .i64 (Q.star : Nat), .int .i64 (Q.sign : Nat), .int .i64 Q.sh] 37
  obtain ⟨W4, hW4, sz4, g4, B4⟩ := boxn W3 #[.int .i64 (P.pl : Nat), .int .i64 (P.len : Nat), .int .i64 (P.star : Nat), .int .i64 (P.sign : Nat), .int .i64 P.sh] 37
  have G2 := gb_trans g1 g2
  have G3 := gb_trans G2 g3
  have G4 := gb_trans G3 g4
  have BD2 := B1.kept g2 (by simp)
  have BD3 := BD2.kept g3 (by simp)
  have BD4 := BD3.kept g4 (by simp)
  have a0 := B1.cell 0 (v := .int .u8 k) rfl
  have a1 := B1.cell 1 (v := .int .i64 (P.pl : Nat)) rfl
  have a2 := B1.cell 2 (v := .int .i64 (P.len : Nat)) rfl
  have a3 := B1.cell 3 (v := .int .i64 (P.star : Nat)) rfl
  have a4 := B1.cell 4 (v := .int .i64 (P.sign : Nat)) rfl
  have a5 := B1.cell 5 (v := .int .i64 P.sh) rfl
  have a6 := B1.cell 6 (v := .int .i64 (Q.pl : Nat)) rfl
  have a7 := B1.cell 7 (v := .int .i64 (Q.len : Nat)) rfl
  have a8 := B1.cell 8 (v := .int .i64 (Q.star : Nat)) rfl
  have a9 := B1.cell 9 (v := .int .i64 (Q.sign : Nat)) rfl
  have a10 := B1.cell 10 (v := .int .i64 Q.sh) rfl
  have a11 := B1.cell 11 (v := .int .i64 (l : Nat)) rfl
  have b0 := BD2.cell 0 (v := .int .u8 k) rfl
  have b1 := BD2.cell 1 (v := .int .i64 (P.pl : Nat)) rfl
  have b2 := BD2.cell 2 (v := .int .i64 (P.len : Nat)) rfl
  have b3 := BD2.cell 3 (v := .int .i64 (P.star : Nat)) rfl
  have b4 := BD2.cell 4 (v := .int .i64 (P.sign : Nat)) rfl
  have b5 := BD2.cell 5 (v := .int .i64 P.sh) rfl
  have b6 := BD2.cell 6 (v := .int .i64 (Q.pl : Nat)) rfl
  have b7 := BD2.cell 7 (v := .int .i64 (Q.len : Nat)) rfl
  have b8 := BD2.cell 8 (v := .int .i64 (Q.star : Nat)) rfl
  have b9 := BD2.cell 9 (v := .int .i64 (Q.sign : Nat)) rfl
  have b10 := BD2.cell 10 (v := .int .i64 Q.sh) rfl
  have b11 := BD2.cell 11 (v := .int .i64 (l : Nat)) rfl
  have c0 := BD3.cell 0 (v := .int .u8 k) rfl
  have c1 := BD3.cell 1 (v := .int .i64 (P.pl : Nat)) rfl
  have c2 := BD3.cell 2 (v := .int .i64 (P.len : Nat)) rfl
  have c3 := BD3.cell 3 (v := .int .i64 (P.star : Nat)) rfl
  have c4 := BD3.cell 4 (v := .int .i64 (P.sign : Nat)) rfl
  have c5 := BD3.cell 5 (v := .int .i64 P.sh) rfl
  have c6 := BD3.cell 6 (v := .int .i64 (Q.pl : Nat)) rfl
  have c7 := BD3.cell 7 (v := .int .i64 (Q.len : Nat)) rfl
  have c8 := BD3.cell 8 (v := .int .i64 (Q.star : Nat)) rfl
  have c9 := BD3.cell 9 (v := .int .i64 (Q.sign : Nat)) rfl
  have c10 := BD3.cell 10 (v := .int .i64 Q.sh) rfl
  have c11 := BD3.cell 11 (v := .int .i64 (l : Nat)) rfl
  have d0 := BD4.cell 0 (v := .int .u8 k) rfl
  have d1 := BD4.cell 1 (v := .int .i64 (P.pl : Nat)) rfl
  have d2 := BD4.cell 2 (v := .int .i64 (P.len : Nat)) rfl
  have d3 := BD4.cell 3 (v := .int .i64 (P.star : Nat)) rfl
  have d4 := BD4.cell 4 (v := .int .i64 (P.sign : Nat)) rfl
  have d5 := BD4.cell 5 (v := .int .i64 P.sh) rfl
  have d6 := BD4.cell 6 (v := .int .i64 (Q.pl : Nat)) rfl
  have d7 := BD4.cell 7 (v := .int .i64 (Q.len : Nat)) rfl
  have d8 := BD4.cell 8 (v := .int .i64 (Q.star : Nat)) rfl
  have d9 := BD4.cell 9 (v := .int .i64 (Q.sign : Nat)) rfl
  have d10 := BD4.cell 10 (v := .int .i64 Q.sh) rfl
  have d11 := BD4.cell 11 (v := .int .i64 (l : Nat)) rfl
  have ea0 := B2.cell 0 (v := .int .i64 (P.pl : Nat)) rfl
  have ea1 := B2.cell 1 (v := .int .i64 (P.len : Nat)) rfl
  have ea2 := B2.cell 2 (v := .int .i64 (P.star : Nat)) rfl
  have ea3 := B2.cell 3 (v := .int .i64 (P.sign : Nat)) rfl
  have ea4 := B2.cell 4 (v := .int .i64 P.sh) rfl
  have eb0 := B3.cell 0 (v := .int .i64 (Q.pl : Nat)) rfl
  have eb1 := B3.cell 1 (v := .int .i64 (Q.len : Nat)) rfl
  have eb2 := B3.cell 2 (v := .int .i64 (Q.star : Nat)) rfl
  have eb3 := B3.cell 3 (v := .int .i64 (Q.sign : Nat)) rfl
  have eb4 := B3.cell 4 (v := .int .i64 Q.sh) rfl
  have ec0 := B4.cell 0 (v := .int .i64 (P.pl : Nat)) rfl
  have ec1 := B4.cell 1 (v := .int .i64 (P.len : Nat)) rfl
  have ec2 := B4.cell 2 (v := .int .i64 (P.star : Nat)) rfl
  have ec3 := B4.cell 3 (v := .int .i64 (P.sign : Nat)) rfl
  have ec4 := B4.cell 4 (v := .int .i64 P.sh) rfl
  obtain ⟨W6, hW6, sz6, g6, B6⟩ := boxn W4 #[.int .i64 (Q.pl : Nat), .int .i64 (Q.len : Nat), .int .i64 (Q.star : Nat), .int .i64 (Q.sign : Nat), .int .i64 Q.sh] 37
  have G6 := gb_trans G4 g6
  have BD6 := BD4.kept g6 (by simp)
  have dc0 := BD6.cell 0 (v := .int .u8 k) rfl
  have dc1 := BD6.cell 1 (v := .int .i64 (P.pl : Nat)) rfl
  have dc2 := BD6.cell 2 (v := .int .i64 (P.len : Nat)) rfl
  have dc3 := BD6.cell 3 (v := .int .i64 (P.star : Nat)) rfl
  have dc4 := BD6.cell 4 (v := .int .i64 (P.sign : Nat)) rfl
  have dc5 := BD6.cell 5 (v := .int .i64 P.sh) rfl
  have dc6 := BD6.cell 6 (v := .int .i64 (Q.pl : Nat)) rfl
  have dc7 := BD6.cell 7 (v := .int .i64 (Q.len : Nat)) rfl
  have dc8 := BD6.cell 8 (v := .int .i64 (Q.star : Nat)) rfl
  have dc9 := BD6.cell 9 (v := .int .i64 (Q.sign : Nat)) rfl
  have dc10 := BD6.cell 10 (v := .int .i64 Q.sh) rfl
  have dc11 := BD6.cell 11 (v := .int .i64 (l : Nat)) rfl
  have dd0 := B6.cell 0 (v := .int .i64 (Q.pl : Nat)) rfl
  have dd1 := B6.cell 1 (v := .int .i64 (Q.len : Nat)) rfl
  have dd2 := B6.cell 2 (v := .int .i64 (Q.star : Nat)) rfl
  have dd3 := B6.cell 3 (v := .int .i64 (Q.sign : Nat)) rfl
  have dd4 := B6.cell 4 (v := .int .i64 Q.sh) rfl
  have i0 := fun w => idx0 (.int .i64 (P.pl : Nat)) (.int .i64 (P.len : Nat)) (.int .i64 (P.star : Nat)) (.int .i64 (P.sign : Nat)) (.int .i64 P.sh) (.int .i64 (Q.pl : Nat)) (.int .i64 (Q.len : Nat)) (.int .i64 (Q.star : Nat)) (.int .i64 (Q.sign : Nat)) (.int .i64 Q.sh) w
  have i1 := fun w => idx1 (.int .i64 (P.pl : Nat)) (.int .i64 (P.len : Nat)) (.int .i64 (P.star : Nat)) (.int .i64 (P.sign : Nat)) (.int .i64 P.sh) (.int .i64 (Q.pl : Nat)) (.int .i64 (Q.len : Nat)) (.int .i64 (Q.star : Nat)) (.int .i64 (Q.sign : Nat)) (.int .i64 Q.sh) w
  have n1 := fld1
  go_enter Tryd.func17, Tryd.ntmps17
  go_wp2
  refine wp_loop_rounds 3 ?_
  rw [rounds_succ]
  go_wp2
  all_goals try (rw [rounds_succ]; go_wp2)
  all_goals try (rw [rounds_succ]; go_wp2)
  all_goals try (refine wp_loop_rounds 3 ?_)
  all_goals try (rw [rounds_succ]; go_wp2_with (first | (go_at_call 39; refine (wrongStarC k l P Q _).mono ?_; rintro e w8 ⟨rfl, g8⟩; have G8 := gb_trans G6 g8; have BD8 := BD6.kept g8 (by simp); have hT8 := tfK hT G8; have dg0 := BD8.cell 0 (v := .int .u8 k) rfl; have dg1 := BD8.cell 1 (v := .int .i64 (P.pl : Nat)) rfl; have dg2 := BD8.cell 2 (v := .int .i64 (P.len : Nat)) rfl; have dg3 := BD8.cell 3 (v := .int .i64 (P.star : Nat)) rfl; have dg4 := BD8.cell 4 (v := .int .i64 (P.sign : Nat)) rfl; have dg5 := BD8.cell 5 (v := .int .i64 P.sh) rfl; have dg6 := BD8.cell 6 (v := .int .i64 (Q.pl : Nat)) rfl; have dg7 := BD8.cell 7 (v := .int .i64 (Q.len : Nat)) rfl; have dg8 := BD8.cell 8 (v := .int .i64 (Q.star : Nat)) rfl; have dg9 := BD8.cell 9 (v := .int .i64 (Q.sign : Nat)) rfl; have dg10 := BD8.cell 10 (v := .int .i64 Q.sh) rfl; have dg11 := BD8.cell 11 (v := .int .i64 (l : Nat)) rfl) | (go_at_call 40; refine (wrongSignC k l P Q _ hT8).mono ?_; rintro e w9 ⟨rfl, g9⟩; have G9 := gb_trans G8 g9)))
  all_goals try (rw [rounds_succ]; go_wp2_with (first | (go_at_call 39; refine (wrongStarC k l P Q _).mono ?_; rintro e w8 ⟨rfl, g8⟩; have G8 := gb_trans G6 g8; have BD8 := BD6.kept g8 (by simp); have hT8 := tfK hT G8; have dg0 := BD8.cell 0 (v := .int .u8 k) rfl; have dg1 := BD8.cell 1 (v := .int .i64 (P.pl : Nat)) rfl; have dg2 := BD8.cell 2 (v := .int .i64 (P.len : Nat)) rfl; have dg3 := BD8.cell 3 (v := .int .i64 (P.star : Nat)) rfl; have dg4 := BD8.cell 4 (v := .int .i64 (P.sign : Nat)) rfl; have dg5 := BD8.cell 5 (v := .int .i64 P.sh) rfl; have dg6 := BD8.cell 6 (v := .int .i64 (Q.pl : Nat)) rfl; have dg7 := BD8.cell 7 (v := .int .i64 (Q.len : Nat)) rfl; have dg8 := BD8.cell 8 (v := .int .i64 (Q.star : Nat)) rfl; have dg9 := BD8.cell 9 (v := .int .i64 (Q.sign : Nat)) rfl; have dg10 := BD8.cell 10 (v := .int .i64 Q.sh) rfl; have dg11 := BD8.cell 11 (v := .int .i64 (l : Nat)) rfl) | (go_at_call 40; refine (wrongSignC k l P Q _ hT8).mono ?_; rintro e w9 ⟨rfl, g9⟩; have G9 := gb_trans G8 g9)))
  all_goals try (rw [rounds_succ]; go_wp2_with (first | (go_at_call 39; refine (wrongStarC k l P Q _).mono ?_; rintro e w8 ⟨rfl, g8⟩; have G8 := gb_trans G6 g8; have BD8 := BD6.kept g8 (by simp); have hT8 := tfK hT G8; have dg0 := BD8.cell 0 (v := .int .u8 k) rfl; have dg1 := BD8.cell 1 (v := .int .i64 (P.pl : Nat)) rfl; have dg2 := BD8.cell 2 (v := .int .i64 (P.len : Nat)) rfl; have dg3 := BD8.cell 3 (v := .int .i64 (P.star : Nat)) rfl; have dg4 := BD8.cell 4 (v := .int .i64 (P.sign : Nat)) rfl; have dg5 := BD8.cell 5 (v := .int .i64 P.sh) rfl; have dg6 := BD8.cell 6 (v := .int .i64 (Q.pl : Nat)) rfl; have dg7 := BD8.cell 7 (v := .int .i64 (Q.len : Nat)) rfl; have dg8 := BD8.cell 8 (v := .int .i64 (Q.star : Nat)) rfl; have dg9 := BD8.cell 9 (v := .int .i64 (Q.sign : Nat)) rfl; have dg10 := BD8.cell 10 (v := .int .i64 Q.sh) rfl; have dg11 := BD8.cell 11 (v := .int .i64 (l : Nat)) rfl) | (go_at_call 40; refine (wrongSignC k l P Q _ hT8).mono ?_; rintro e w9 ⟨rfl, g9⟩; have G9 := gb_trans G8 g9)))
  all_goals go_ret2
  all_goals refine ⟨ret_sn ?_ ?_, by first | exact G9 | exact G8 | exact G7 | exact G6 | exact G5 | exact G4 | exact G3 | exact G2⟩
  all_goals simp only [nE_three k hk, decide_eq_true_eq, decide_eq_false_iff_not, Bool.not_eq_true', Bool.not_eq_false', beq_iff_eq, beq_eq_false_iff_ne, bne_iff_ne, ne_eq] at *
  all_goals clear hW1 hW2 hW3 hW4 i0 i1 n1
  all_goals unfold Tp.senseR
  all_goals repeat' split
  all_goals first | omega | rfl | (simp_all; done) | (simp_all; omega)

set_option maxHeartbeats 4000000 in
theorem sense_0n (k l : Nat) (P Q : Tp.Pt) (w : World) (hT : Hid (Tf w)) (hk : k ≤ 5) (hp : ((P.len : Int) == 0) = true) (hq : ((Q.len : Int) == 0) = false) : Calls Tryd.prog 17 #[.agg #[.int .u8 k, .int .i64 (P.pl : Nat), .int .i64 (P.len : Nat), .int .i64 (P.star : Nat), .int .i64 (P.sign : Nat), .int .i64 P.sh, .int .i64 (Q.pl : Nat), .int .i64 (Q.len : Nat), .int .i64 (Q.star : Nat), .int .i64 (Q.sign : Nat), .int .i64 Q.sh, .int .i64 (l : Nat)]] w fun e w' => e = .returned (.tuple #[.int .i64 ((Tp.senseR k P Q l).a : Nat), .int .i64 ((Tp.senseR k P Q l).e : Nat)]) ∧ w.grownBy w' none := by
  obtain ⟨W1, hW1, sz1, g1, B1⟩ := boxn w #[.int .u8 k, .int .i64 (P.pl : Nat), .int .i64 (P.len : Nat), .int .i64 (P.star : Nat), .int .i64 (P.sign : Nat), .int .i64 P.sh, .int .i64 (Q.pl : Nat), .int .i64 (Q.len : Nat), .int .i64 (Q.star : Nat), .int .i64 (Q.sign : Nat), .int .i64 Q.sh, .int .i64 (l : Nat)] 40
  obtain ⟨W2, hW2, sz2, g2, B2⟩ := boxn W1 #[.int .i64 (P.pl : Nat), .int .i64 (P.len : Nat), .int .i64 (P.star : Nat), .int .i64 (P.sign : Nat), .int .i64 P.sh] 37
  obtain ⟨W3, hW3, sz3, g3, B3⟩ := boxn W2 #[.int .i64 (Q.pl : Nat), .int .i64 (Q.len : Nat), .int .i64 (Q.star : Nat), .int .i64 (Q.sign : Nat), .int .i64 Q.sh] 37
  obtain ⟨W4, hW4, sz4, g4, B4⟩ := boxn W3 #[.int .i64 (P.pl : Nat), .int .i64 (P.len : Nat), .int .i64 (P.star : Nat), .int .i64 (P.sign : Nat), .int .i64 P.sh] 37
  have G2 := gb_trans g1 g2
  have G3 := gb_trans G2 g3
  have G4 := gb_trans G3 g4
  have BD2 := B1.kept g2 (by simp)
  have BD3 := BD2.kept g3 (by simp)
  have BD4 := BD3.kept g4 (by simp)
  have a0 := B1.cell 0 (v := .int .u8 k) rfl
  have a1 := B1.cell 1 (v := .int .i64 (P.pl : Nat)) rfl
  have a2 := B1.cell 2 (v := .int .i64 (P.len : Nat)) rfl
  have a3 := B1.cell 3 (v := .int .i64 (P.star : Nat)) rfl
  have a4 := B1.cell 4 (v := .int .i64 (P.sign : Nat)) rfl
  have a5 := B1.cell 5 (v := .int .i64 P.sh) rfl
  have a6 := B1.cell 6 (v := .int .i64 (Q.pl : Nat)) rfl
  have a7 := B1.cell 7 (v := .int .i64 (Q.len : Nat)) rfl
  have a8 := B1.cell 8 (v := .int .i64 (Q.star : Nat)) rfl
  have a9 := B1.cell 9 (v := .int .i64 (Q.sign : Nat)) rfl
  have a10 := B1.cell 10 (v := .int .i64 Q.sh) rfl
  have a11 := B1.cell 11 (v := .int .i64 (l : Nat)) rfl
  have b0 := BD2.cell 0 (v := .int .u8 k) rfl
  have b1 := BD2.cell 1 (v := .int .i64 (P.pl : Nat)) rfl
  have b2 := BD2.cell 2 (v := .int .i64 (P.len : Nat)) rfl
  have b3 := BD2.cell 3 (v := .int .i64 (P.star : Nat)) rfl
  have b4 := BD2.cell 4 (v := .int .i64 (P.sign : Nat)) rfl
  have b5 := BD2.cell 5 (v := .int .i64 P.sh) rfl
  have b6 := BD2.cell 6 (v := .int .i64 (Q.pl : Nat)) rfl
  have b7 := BD2.cell 7 (v := .int .i64 (Q.len : Nat)) rfl
  have b8 := BD2.cell 8 (v := .int .i64 (Q.star : Nat)) rfl
  have b9 := BD2.cell 9 (v := .int .i64 (Q.sign : Nat)) rfl
  have b10 := BD2.cell 10 (v := .int .i64 Q.sh) rfl
  have b11 := BD2.cell 11 (v := .int .i64 (l : Nat)) rfl
  have c0 := BD3.cell 0 (v := .int .u8 k) rfl
  have c1 := BD3.cell 1 (v := .int .i64 (P.pl : Nat)) rfl
  have c2 := BD3.cell 2 (v := .int .i64 (P.len : Nat)) rfl
  have c3 := BD3.cell 3 (v := .int .i64 (P.star : Nat)) rfl
  have c4 := BD3.cell 4 (v := .int .i64 (P.sign : Nat)) rfl
  have c5 := BD3.cell 5 (v := .int .i64 P.sh) rfl
  have c6 := BD3.cell 6 (v := .int .i64 (Q.pl : Nat)) rfl
  have c7 := BD3.cell 7 (v := .int .i64 (Q.len : Nat)) rfl
  have c8 := BD3.cell 8 (v := .int .i64 (Q.star : Nat)) rfl
  have c9 := BD3.cell 9 (v := .int .i64 (Q.sign : Nat)) rfl
  have c10 := BD3.cell 10 (v := .int .i64 Q.sh) rfl
  have c11 := BD3.cell 11 (v := .int .i64 (l : Nat)) rfl
  have d0 := BD4.cell 0 (v := .int .u8 k) rfl
  have d1 := BD4.cell 1 (v := .int .i64 (P.pl : Nat)) rfl
  have d2 := BD4.cell 2 (v := .int .i64 (P.len : Nat)) rfl
  have d3 := BD4.cell 3 (v := .int .i64 (P.star : Nat)) rfl
  have d4 := BD4.cell 4 (v := .int .i64 (P.sign : Nat)) rfl
  have d5 := BD4.cell 5 (v := .int .i64 P.sh) rfl
  have d6 := BD4.cell 6 (v := .int .i64 (Q.pl : Nat)) rfl
  have d7 := BD4.cell 7 (v := .int .i64 (Q.len : Nat)) rfl
  have d8 := BD4.cell 8 (v := .int .i64 (Q.star : Nat)) rfl
  have d9 := BD4.cell 9 (v := .int .i64 (Q.sign : Nat)) rfl
  have d10 := BD4.cell 10 (v := .int .i64 Q.sh) rfl
  have d11 := BD4.cell 11 (v := .int .i64 (l : Nat)) rfl
  have ea0 := B2.cell 0 (v := .int .i64 (P.pl : Nat)) rfl
  have ea1 := B2.cell 1 (v := .int .i64 (P.len : Nat)) rfl
  have ea2 := B2.cell 2 (v := .int .i64 (P.star : Nat)) rfl
  have ea3 := B2.cell 3 (v := .int .i64 (P.sign : Nat)) rfl
  have ea4 := B2.cell 4 (v := .int .i64 P.sh) rfl
  have eb0 := B3.cell 0 (v := .int .i64 (Q.pl : Nat)) rfl
  have eb1 := B3.cell 1 (v := .int .i64 (Q.len : Nat)) rfl
  have eb2 := B3.cell 2 (v := .int .i64 (Q.star : Nat)) rfl
  have eb3 := B3.cell 3 (v := .int .i64 (Q.sign : Nat)) rfl
  have eb4 := B3.cell 4 (v := .int .i64 Q.sh) rfl
  have ec0 := B4.cell 0 (v := .int .i64 (P.pl : Nat)) rfl
  have ec1 := B4.cell 1 (v := .int .i64 (P.len : Nat)) rfl
  have ec2 := B4.cell 2 (v := .int .i64 (P.star : Nat)) rfl
  have ec3 := B4.cell 3 (v := .int .i64 (P.sign : Nat)) rfl
  have ec4 := B4.cell 4 (v := .int .i64 P.sh) rfl
  have i0 := fun w => idx0 (.int .i64 (P.pl : Nat)) (.int .i64 (P.len : Nat)) (.int .i64 (P.star : Nat)) (.int .i64 (P.sign : Nat)) (.int .i64 P.sh) (.int .i64 (Q.pl : Nat)) (.int .i64 (Q.len : Nat)) (.int .i64 (Q.star : Nat)) (.int .i64 (Q.sign : Nat)) (.int .i64 Q.sh) w
  have i1 := fun w => idx1 (.int .i64 (P.pl : Nat)) (.int .i64 (P.len : Nat)) (.int .i64 (P.star : Nat)) (.int .i64 (P.sign : Nat)) (.int .i64 P.sh) (.int .i64 (Q.pl : Nat)) (.int .i64 (Q.len : Nat)) (.int .i64 (Q.star : Nat)) (.int .i64 (Q.sign : Nat)) (.int .i64 Q.sh) w
  have n1 := fld1
  go_enter Tryd.func17, Tryd.ntmps17
  go_wp2
  refine wp_loop_rounds 3 ?_
  rw [rounds_succ]
  go_wp2
  all_goals try (rw [rounds_succ]; go_wp2)
  all_goals try (rw [rounds_succ]; go_wp2)
  all_goals try (refine wp_loop_rounds 3 ?_)
  all_goals try (rw [rounds_succ]; go_wp2_with (first | (go_at_call 29; (fail_if_success (guard_hyp g5)); refine (natureC _ _).mono ?_; rintro e w5 ⟨rfl, g5⟩; have G5 := gb_trans G4 g5; have BD5 := BD4.kept g5 (by simp); have BP5 := B4.kept g5 (by simp); have da0 := BD5.cell 0 (v := .int .u8 k) rfl; have da1 := BD5.cell 1 (v := .int .i64 (P.pl : Nat)) rfl; have da2 := BD5.cell 2 (v := .int .i64 (P.len : Nat)) rfl; have da3 := BD5.cell 3 (v := .int .i64 (P.star : Nat)) rfl; have da4 := BD5.cell 4 (v := .int .i64 (P.sign : Nat)) rfl; have da5 := BD5.cell 5 (v := .int .i64 P.sh) rfl; have da6 := BD5.cell 6 (v := .int .i64 (Q.pl : Nat)) rfl; have da7 := BD5.cell 7 (v := .int .i64 (Q.len : Nat)) rfl; have da8 := BD5.cell 8 (v := .int .i64 (Q.star : Nat)) rfl; have da9 := BD5.cell 9 (v := .int .i64 (Q.sign : Nat)) rfl; have da10 := BD5.cell 10 (v := .int .i64 Q.sh) rfl; have da11 := BD5.cell 11 (v := .int .i64 (l : Nat)) rfl; have db0 := BP5.cell 0 (v := .int .i64 (P.pl : Nat)) rfl; have db1 := BP5.cell 1 (v := .int .i64 (P.len : Nat)) rfl; have db2 := BP5.cell 2 (v := .int .i64 (P.star : Nat)) rfl; have db3 := BP5.cell 3 (v := .int .i64 (P.sign : Nat)) rfl; have db4 := BP5.cell 4 (v := .int .i64 P.sh) rfl; obtain ⟨W6, hW6, sz6, g6, B6⟩ := boxn w5 #[.int .i64 (Q.pl : Nat), .int .i64 (Q.len : Nat), .int .i64 (Q.star : Nat), .int .i64 (Q.sign : Nat), .int .i64 Q.sh] 37; have G6 := gb_trans G5 g6; have BD6 := BD5.kept g6 (by simp); have dc0 := BD6.cell 0 (v := .int .u8 k) rfl; have dc1 := BD6.cell 1 (v := .int .i64 (P.pl : Nat)) rfl; have dc2 := BD6.cell 2 (v := .int .i64 (P.len : Nat)) rfl; have dc3 := BD6.cell 3 (v := .int .i64 (P.star : Nat)) rfl; have dc4 := BD6.cell 4 (v := .int .i64 (P.sign : Nat)) rfl; have dc5 := BD6.cell 5 (v := .int .i64 P.sh) rfl; have dc6 := BD6.cell 6 (v := .int .i64 (Q.pl : Nat)) rfl; have dc7 := BD6.cell 7 (v := .int .i64 (Q.len : Nat)) rfl; have dc8 := BD6.cell 8 (v := .int .i64 (Q.star : Nat)) rfl; have dc9 := BD6.cell 9 (v := .int .i64 (Q.sign : Nat)) rfl; have dc10 := BD6.cell 10 (v := .int .i64 Q.sh) rfl; have dc11 := BD6.cell 11 (v := .int .i64 (l : Nat)) rfl; have dd0 := B6.cell 0 (v := .int .i64 (Q.pl : Nat)) rfl; have dd1 := B6.cell 1 (v := .int .i64 (Q.len : Nat)) rfl; have dd2 := B6.cell 2 (v := .int .i64 (Q.star : Nat)) rfl; have dd3 := B6.cell 3 (v := .int .i64 (Q.sign : Nat)) rfl; have dd4 := B6.cell 4 (v := .int .i64 Q.sh) rfl) | (go_at_call 39; refine (wrongStarC k l P Q _).mono ?_; rintro e w8 ⟨rfl, g8⟩; have G8 := gb_trans G6 g8; have BD8 := BD6.kept g8 (by simp); have hT8 := tfK hT G8; have dg0 := BD8.cell 0 (v := .int .u8 k) rfl; have dg1 := BD8.cell 1 (v := .int .i64 (P.pl : Nat)) rfl; have dg2 := BD8.cell 2 (v := .int .i64 (P.len : Nat)) rfl; have dg3 := BD8.cell 3 (v := .int .i64 (P.star : Nat)) rfl; have dg4 := BD8.cell 4 (v := .int .i64 (P.sign : Nat)) rfl; have dg5 := BD8.cell 5 (v := .int .i64 P.sh) rfl; have dg6 := BD8.cell 6 (v := .int .i64 (Q.pl : Nat)) rfl; have dg7 := BD8.cell 7 (v := .int .i64 (Q.len : Nat)) rfl; have dg8 := BD8.cell 8 (v := .int .i64 (Q.star : Nat)) rfl; have dg9 := BD8.cell 9 (v := .int .i64 (Q.sign : Nat)) rfl; have dg10 := BD8.cell 10 (v := .int .i64 Q.sh) rfl; have dg11 := BD8.cell 11 (v := .int .i64 (l : Nat)) rfl) | (go_at_call 40; refine (wrongSignC k l P Q _ hT8).mono ?_; rintro e w9 ⟨rfl, g9⟩; have G9 := gb_trans G8 g9)))
  all_goals try (rw [rounds_succ]; go_wp2_with (first | (go_at_call 29; (fail_if_success (guard_hyp g5)); refine (natureC _ _).mono ?_; rintro e w5 ⟨rfl, g5⟩; have G5 := gb_trans G4 g5; have BD5 := BD4.kept g5 (by simp); have BP5 := B4.kept g5 (by simp); have da0 := BD5.cell 0 (v := .int .u8 k) rfl; have da1 := BD5.cell 1 (v := .int .i64 (P.pl : Nat)) rfl; have da2 := BD5.cell 2 (v := .int .i64 (P.len : Nat)) rfl; have da3 := BD5.cell 3 (v := .int .i64 (P.star : Nat)) rfl; have da4 := BD5.cell 4 (v := .int .i64 (P.sign : Nat)) rfl; have da5 := BD5.cell 5 (v := .int .i64 P.sh) rfl; have da6 := BD5.cell 6 (v := .int .i64 (Q.pl : Nat)) rfl; have da7 := BD5.cell 7 (v := .int .i64 (Q.len : Nat)) rfl; have da8 := BD5.cell 8 (v := .int .i64 (Q.star : Nat)) rfl; have da9 := BD5.cell 9 (v := .int .i64 (Q.sign : Nat)) rfl; have da10 := BD5.cell 10 (v := .int .i64 Q.sh) rfl; have da11 := BD5.cell 11 (v := .int .i64 (l : Nat)) rfl; have db0 := BP5.cell 0 (v := .int .i64 (P.pl : Nat)) rfl; have db1 := BP5.cell 1 (v := .int .i64 (P.len : Nat)) rfl; have db2 := BP5.cell 2 (v := .int .i64 (P.star : Nat)) rfl; have db3 := BP5.cell 3 (v := .int .i64 (P.sign : Nat)) rfl; have db4 := BP5.cell 4 (v := .int .i64 P.sh) rfl; obtain ⟨W6, hW6, sz6, g6, B6⟩ := boxn w5 #[.int .i64 (Q.pl : Nat), .int .i64 (Q.len : Nat), .int .i64 (Q.star : Nat), .int .i64 (Q.sign : Nat), .int .i64 Q.sh] 37; have G6 := gb_trans G5 g6; have BD6 := BD5.kept g6 (by simp); have dc0 := BD6.cell 0 (v := .int .u8 k) rfl; have dc1 := BD6.cell 1 (v := .int .i64 (P.pl : Nat)) rfl; have dc2 := BD6.cell 2 (v := .int .i64 (P.len : Nat)) rfl; have dc3 := BD6.cell 3 (v := .int .i64 (P.star : Nat)) rfl; have dc4 := BD6.cell 4 (v := .int .i64 (P.sign : Nat)) rfl; have dc5 := BD6.cell 5 (v := .int .i64 P.sh) rfl; have dc6 := BD6.cell 6 (v := .int .i64 (Q.pl : Nat)) rfl; have dc7 := BD6.cell 7 (v := .int .i64 (Q.len : Nat)) rfl; have dc8 := BD6.cell 8 (v := .int .i64 (Q.star : Nat)) rfl; have dc9 := BD6.cell 9 (v := .int .i64 (Q.sign : Nat)) rfl; have dc10 := BD6.cell 10 (v := .int .i64 Q.sh) rfl; have dc11 := BD6.cell 11 (v := .int .i64 (l : Nat)) rfl; have dd0 := B6.cell 0 (v := .int .i64 (Q.pl : Nat)) rfl; have dd1 := B6.cell 1 (v := .int .i64 (Q.len : Nat)) rfl; have dd2 := B6.cell 2 (v := .int .i64 (Q.star : Nat)) rfl; have dd3 := B6.cell 3 (v := .int .i64 (Q.sign : Nat)) rfl; have dd4 := B6.cell 4 (v := .int .i64 Q.sh) rfl) | (go_at_call 39; refine (wrongStarC k l P Q _).mono ?_; rintro e w8 ⟨rfl, g8⟩; have G8 := gb_trans G6 g8; have BD8 := BD6.kept g8 (by simp); have hT8 := tfK hT G8; have dg0 := BD8.cell 0 (v := .int .u8 k) rfl; have dg1 := BD8.cell 1 (v := .int .i64 (P.pl : Nat)) rfl; have dg2 := BD8.cell 2 (v := .int .i64 (P.len : Nat)) rfl; have dg3 := BD8.cell 3 (v := .int .i64 (P.star : Nat)) rfl; have dg4 := BD8.cell 4 (v := .int .i64 (P.sign : Nat)) rfl; have dg5 := BD8.cell 5 (v := .int .i64 P.sh) rfl; have dg6 := BD8.cell 6 (v := .int .i64 (Q.pl : Nat)) rfl; have dg7 := BD8.cell 7 (v := .int .i64 (Q.len : Nat)) rfl; have dg8 := BD8.cell 8 (v := .int .i64 (Q.star : Nat)) rfl; have dg9 := BD8.cell 9 (v := .int .i64 (Q.sign : Nat)) rfl; have dg10 := BD8.cell 10 (v := .int .i64 Q.sh) rfl; have dg11 := BD8.cell 11 (v := .int .i64 (l : Nat)) rfl) | (go_at_call 40; refine (wrongSignC k l P Q _ hT8).mono ?_; rintro e w9 ⟨rfl, g9⟩; have G9 := gb_trans G8 g9)))
  all_goals try (rw [rounds_succ]; go_wp2_with (first | (go_at_call 29; (fail_if_success (guard_hyp g5)); refine (natureC _ _).mono ?_; rintro e w5 ⟨rfl, g5⟩; have G5 := gb_trans G4 g5; have BD5 := BD4.kept g5 (by simp); have BP5 := B4.kept g5 (by simp); have da0 := BD5.cell 0 (v := .int .u8 k) rfl; have da1 := BD5.cell 1 (v := .int .i64 (P.pl : Nat)) rfl; have da2 := BD5.cell 2 (v := .int .i64 (P.len : Nat)) rfl; have da3 := BD5.cell 3 (v := .int .i64 (P.star : Nat)) rfl; have da4 := BD5.cell 4 (v := .int .i64 (P.sign : Nat)) rfl; have da5 := BD5.cell 5 (v := .int .i64 P.sh) rfl; have da6 := BD5.cell 6 (v := .int .i64 (Q.pl : Nat)) rfl; have da7 := BD5.cell 7 (v := .int .i64 (Q.len : Nat)) rfl; have da8 := BD5.cell 8 (v := .int .i64 (Q.star : Nat)) rfl; have da9 := BD5.cell 9 (v := .int .i64 (Q.sign : Nat)) rfl; have da10 := BD5.cell 10 (v := .int .i64 Q.sh) rfl; have da11 := BD5.cell 11 (v := .int .i64 (l : Nat)) rfl; have db0 := BP5.cell 0 (v := .int .i64 (P.pl : Nat)) rfl; have db1 := BP5.cell 1 (v := .int .i64 (P.len : Nat)) rfl; have db2 := BP5.cell 2 (v := .int .i64 (P.star : Nat)) rfl; have db3 := BP5.cell 3 (v := .int .i64 (P.sign : Nat)) rfl; have db4 := BP5.cell 4 (v := .int .i64 P.sh) rfl; obtain ⟨W6, hW6, sz6, g6, B6⟩ := boxn w5 #[.int .i64 (Q.pl : Nat), .int .i64 (Q.len : Nat), .int .i64 (Q.star : Nat), .int .i64 (Q.sign : Nat), .int .i64 Q.sh] 37; have G6 := gb_trans G5 g6; have BD6 := BD5.kept g6 (by simp); have dc0 := BD6.cell 0 (v := .int .u8 k) rfl; have dc1 := BD6.cell 1 (v := .int .i64 (P.pl : Nat)) rfl; have dc2 := BD6.cell 2 (v := .int .i64 (P.len : Nat)) rfl; have dc3 := BD6.cell 3 (v := .int .i64 (P.star : Nat)) rfl; have dc4 := BD6.cell 4 (v := .int .i64 (P.sign : Nat)) rfl; have dc5 := BD6.cell 5 (v := .int .i64 P.sh) rfl; have dc6 := BD6.cell 6 (v := .int .i64 (Q.pl : Nat)) rfl; have dc7 := BD6.cell 7 (v := .int .i64 (Q.len : Nat)) rfl; have dc8 := BD6.cell 8 (v := .int .i64 (Q.star : Nat)) rfl; have dc9 := BD6.cell 9 (v := .int .i64 (Q.sign : Nat)) rfl; have dc10 := BD6.cell 10 (v := .int .i64 Q.sh) rfl; have dc11 := BD6.cell 11 (v := .int .i64 (l : Nat)) rfl; have dd0 := B6.cell 0 (v := .int .i64 (Q.pl : Nat)) rfl; have dd1 := B6.cell 1 (v := .int .i64 (Q.len : Nat)) rfl; have dd2 := B6.cell 2 (v := .int .i64 (Q.star : Nat)) rfl; have dd3 := B6.cell 3 (v := .int .i64 (Q.sign : Nat)) rfl; have dd4 := B6.cell 4 (v := .int .i64 Q.sh) rfl) | (go_at_call 39; refine (wrongStarC k l P Q _).mono ?_; rintro e w8 ⟨rfl, g8⟩; have G8 := gb_trans G6 g8; have BD8 := BD6.kept g8 (by simp); have hT8 := tfK hT G8; have dg0 := BD8.cell 0 (v := .int .u8 k) rfl; have dg1 := BD8.cell 1 (v := .int .i64 (P.pl : Nat)) rfl; have dg2 := BD8.cell 2 (v := .int .i64 (P.len : Nat)) rfl; have dg3 := BD8.cell 3 (v := .int .i64 (P.star : Nat)) rfl; have dg4 := BD8.cell 4 (v := .int .i64 (P.sign : Nat)) rfl; have dg5 := BD8.cell 5 (v := .int .i64 P.sh) rfl; have dg6 := BD8.cell 6 (v := .int .i64 (Q.pl : Nat)) rfl; have dg7 := BD8.cell 7 (v := .int .i64 (Q.len : Nat)) rfl; have dg8 := BD8.cell 8 (v := .int .i64 (Q.star : Nat)) rfl; have dg9 := BD8.cell 9 (v := .int .i64 (Q.sign : Nat)) rfl; have dg10 := BD8.cell 10 (v := .int .i64 Q.sh) rfl; have dg11 := BD8.cell 11 (v := .int .i64 (l : Nat)) rfl) | (go_at_call 40; refine (wrongSignC k l P Q _ hT8).mono ?_; rintro e w9 ⟨rfl, g9⟩; have G9 := gb_trans G8 g9)))
  all_goals go_ret2
  all_goals refine ⟨ret_sn ?_ ?_, by first | exact G9 | exact G8 | exact G7 | exact G6 | exact G5 | exact G4 | exact G3 | exact G2⟩
  all_goals simp only [nE_three k hk, decide_eq_true_eq, decide_eq_false_iff_not, Bool.not_eq_true', Bool.not_eq_false', beq_iff_eq, beq_eq_false_iff_ne, bne_iff_ne, ne_eq] at *
  all_goals clear hW1 hW2 hW3 hW4 i0 i1 n1
  all_goals unfold Tp.senseR
  all_goals repeat' split
  all_goals first | omega | rfl | (simp_all; done) | (simp_all; omega)

set_option maxHeartbeats 4000000 in
theorem sense_n0 (k l : Nat) (P Q : Tp.Pt) (w : World) (hT : Hid (Tf w)) (hk : k ≤ 5) (hp : ((P.len : Int) == 0) = false) (hq : ((Q.len : Int) == 0) = true) : Calls Tryd.prog 17 #[.agg #[.int .u8 k, .int .i64 (P.pl : Nat), .int .i64 (P.len : Nat), .int .i64 (P.star : Nat), .int .i64 (P.sign : Nat), .int .i64 P.sh, .int .i64 (Q.pl : Nat), .int .i64 (Q.len : Nat), .int .i64 (Q.star : Nat), .int .i64 (Q.sign : Nat), .int .i64 Q.sh, .int .i64 (l : Nat)]] w fun e w' => e = .returned (.tuple #[.int .i64 ((Tp.senseR k P Q l).a : Nat), .int .i64 ((Tp.senseR k P Q l).e : Nat)]) ∧ w.grownBy w' none := by
  obtain ⟨W1, hW1, sz1, g1, B1⟩ := boxn w #[.int .u8 k, .int .i64 (P.pl : Nat), .int .i64 (P.len : Nat), .int .i64 (P.star : Nat), .int .i64 (P.sign : Nat), .int .i64 P.sh, .int .i64 (Q.pl : Nat), .int .i64 (Q.len : Nat), .int .i64 (Q.star : Nat), .int .i64 (Q.sign : Nat), .int .i64 Q.sh, .int .i64 (l : Nat)] 40
  obtain ⟨W2, hW2, sz2, g2, B2⟩ := boxn W1 #[.int .i64 (P.pl : Nat), .int .i64 (P.len : Nat), .int .i64 (P.star : Nat), .int .i64 (P.sign : Nat), .int .i64 P.sh] 37
  obtain ⟨W3, hW3, sz3, g3, B3⟩ := boxn W2 #[.int .i64 (Q.pl : Nat), .int .i64 (Q.len : Nat), .int .i64 (Q.star : Nat), .int .i64 (Q.sign : Nat), .int .i64 Q.sh] 37
  obtain ⟨W4, hW4, sz4, g4, B4⟩ := boxn W3 #[.int .i64 (P.pl : Nat), .int .i64 (P.len : Nat), .int .i64 (P.star : Nat), .int .i64 (P.sign : Nat), .int .i64 P.sh] 37
  have G2 := gb_trans g1 g2
  have G3 := gb_trans G2 g3
  have G4 := gb_trans G3 g4
  have BD2 := B1.kept g2 (by simp)
  have BD3 := BD2.kept g3 (by simp)
  have BD4 := BD3.kept g4 (by simp)
  have a0 := B1.cell 0 (v := .int .u8 k) rfl
  have a1 := B1.cell 1 (v := .int .i64 (P.pl : Nat)) rfl
  have a2 := B1.cell 2 (v := .int .i64 (P.len : Nat)) rfl
  have a3 := B1.cell 3 (v := .int .i64 (P.star : Nat)) rfl
  have a4 := B1.cell 4 (v := .int .i64 (P.sign : Nat)) rfl
  have a5 := B1.cell 5 (v := .int .i64 P.sh) rfl
  have a6 := B1.cell 6 (v := .int .i64 (Q.pl : Nat)) rfl
  have a7 := B1.cell 7 (v := .int .i64 (Q.len : Nat)) rfl
  have a8 := B1.cell 8 (v := .int .i64 (Q.star : Nat)) rfl
  have a9 := B1.cell 9 (v := .int .i64 (Q.sign : Nat)) rfl
  have a10 := B1.cell 10 (v := .int .i64 Q.sh) rfl
  have a11 := B1.cell 11 (v := .int .i64 (l : Nat)) rfl
  have b0 := BD2.cell 0 (v := .int .u8 k) rfl
  have b1 := BD2.cell 1 (v := .int .i64 (P.pl : Nat)) rfl
  have b2 := BD2.cell 2 (v := .int .i64 (P.len : Nat)) rfl
  have b3 := BD2.cell 3 (v := .int .i64 (P.star : Nat)) rfl
  have b4 := BD2.cell 4 (v := .int .i64 (P.sign : Nat)) rfl
  have b5 := BD2.cell 5 (v := .int .i64 P.sh) rfl
  have b6 := BD2.cell 6 (v := .int .i64 (Q.pl : Nat)) rfl
  have b7 := BD2.cell 7 (v := .int .i64 (Q.len : Nat)) rfl
  have b8 := BD2.cell 8 (v := .int .i64 (Q.star : Nat)) rfl
  have b9 := BD2.cell 9 (v := .int .i64 (Q.sign : Nat)) rfl
  have b10 := BD2.cell 10 (v := .int .i64 Q.sh) rfl
  have b11 := BD2.cell 11 (v := .int .i64 (l : Nat)) rfl
  have c0 := BD3.cell 0 (v := .int .u8 k) rfl
  have c1 := BD3.cell 1 (v := .int .i64 (P.pl : Nat)) rfl
  have c2 := BD3.cell 2 (v := .int .i64 (P.len : Nat)) rfl
  have c3 := BD3.cell 3 (v := .int .i64 (P.star : Nat)) rfl
  have c4 := BD3.cell 4 (v := .int .i64 (P.sign : Nat)) rfl
  have c5 := BD3.cell 5 (v := .int .i64 P.sh) rfl
  have c6 := BD3.cell 6 (v := .int .i64 (Q.pl : Nat)) rfl
  have c7 := BD3.cell 7 (v := .int .i64 (Q.len : Nat)) rfl
  have c8 := BD3.cell 8 (v := .int .i64 (Q.star : Nat)) rfl
  have c9 := BD3.cell 9 (v := .int .i64 (Q.sign : Nat)) rfl
  have c10 := BD3.cell 10 (v := .int .i64 Q.sh) rfl
  have c11 := BD3.cell 11 (v := .int .i64 (l : Nat)) rfl
  have d0 := BD4.cell 0 (v := .int .u8 k) rfl
  have d1 := BD4.cell 1 (v := .int .i64 (P.pl : Nat)) rfl
  have d2 := BD4.cell 2 (v := .int .i64 (P.len : Nat)) rfl
  have d3 := BD4.cell 3 (v := .int .i64 (P.star : Nat)) rfl
  have d4 := BD4.cell 4 (v := .int .i64 (P.sign : Nat)) rfl
  have d5 := BD4.cell 5 (v := .int .i64 P.sh) rfl
  have d6 := BD4.cell 6 (v := .int .i64 (Q.pl : Nat)) rfl
  have d7 := BD4.cell 7 (v := .int .i64 (Q.len : Nat)) rfl
  have d8 := BD4.cell 8 (v := .int .i64 (Q.star : Nat)) rfl
  have d9 := BD4.cell 9 (v := .int .i64 (Q.sign : Nat)) rfl
  have d10 := BD4.cell 10 (v := .int .i64 Q.sh) rfl
  have d11 := BD4.cell 11 (v := .int .i64 (l : Nat)) rfl
  have ea0 := B2.cell 0 (v := .int .i64 (P.pl : Nat)) rfl
  have ea1 := B2.cell 1 (v := .int .i64 (P.len : Nat)) rfl
  have ea2 := B2.cell 2 (v := .int .i64 (P.star : Nat)) rfl
  have ea3 := B2.cell 3 (v := .int .i64 (P.sign : Nat)) rfl
  have ea4 := B2.cell 4 (v := .int .i64 P.sh) rfl
  have eb0 := B3.cell 0 (v := .int .i64 (Q.pl : Nat)) rfl
  have eb1 := B3.cell 1 (v := .int .i64 (Q.len : Nat)) rfl
  have eb2 := B3.cell 2 (v := .int .i64 (Q.star : Nat)) rfl
  have eb3 := B3.cell 3 (v := .int .i64 (Q.sign : Nat)) rfl
  have eb4 := B3.cell 4 (v := .int .i64 Q.sh) rfl
  have ec0 := B4.cell 0 (v := .int .i64 (P.pl : Nat)) rfl
  have ec1 := B4.cell 1 (v := .int .i64 (P.len : Nat)) rfl
  have ec2 := B4.cell 2 (v := .int .i64 (P.star : Nat)) rfl
  have ec3 := B4.cell 3 (v := .int .i64 (P.sign : Nat)) rfl
  have ec4 := B4.cell 4 (v := .int .i64 P.sh) rfl
  obtain ⟨W6, hW6, sz6, g6, B6⟩ := boxn W4 #[.int .i64 (Q.pl : Nat), .int .i64 (Q.len : Nat), .int .i64 (Q.star : Nat), .int .i64 (Q.sign : Nat), .int .i64 Q.sh] 37
  have G6 := gb_trans G4 g6
  have BD6 := BD4.kept g6 (by simp)
  have dc0 := BD6.cell 0 (v := .int .u8 k) rfl
  have dc1 := BD6.cell 1 (v := .int .i64 (P.pl : Nat)) rfl
  have dc2 := BD6.cell 2 (v := .int .i64 (P.len : Nat)) rfl
  have dc3 := BD6.cell 3 (v := .int .i64 (P.star : Nat)) rfl
  have dc4 := BD6.cell 4 (v := .int .i64 (P.sign : Nat)) rfl
  have dc5 := BD6.cell 5 (v := .int .i64 P.sh) rfl
  have dc6 := BD6.cell 6 (v := .int .i64 (Q.pl : Nat)) rfl
  have dc7 := BD6.cell 7 (v := .int .i64 (Q.len : Nat)) rfl
  have dc8 := BD6.cell 8 (v := .int .i64 (Q.star : Nat)) rfl
  have dc9 := BD6.cell 9 (v := .int .i64 (Q.sign : Nat)) rfl
  have dc10 := BD6.cell 10 (v := .int .i64 Q.sh) rfl
  have dc11 := BD6.cell 11 (v := .int .i64 (l : Nat)) rfl
  have dd0 := B6.cell 0 (v := .int .i64 (Q.pl : Nat)) rfl
  have dd1 := B6.cell 1 (v := .int .i64 (Q.len : Nat)) rfl
  have dd2 := B6.cell 2 (v := .int .i64 (Q.star : Nat)) rfl
  have dd3 := B6.cell 3 (v := .int .i64 (Q.sign : Nat)) rfl
  have dd4 := B6.cell 4 (v := .int .i64 Q.sh) rfl
  have i0 := fun w => idx0 (.int .i64 (P.pl : Nat)) (.int .i64 (P.len : Nat)) (.int .i64 (P.star : Nat)) (.int .i64 (P.sign : Nat)) (.int .i64 P.sh) (.int .i64 (Q.pl : Nat)) (.int .i64 (Q.len : Nat)) (.int .i64 (Q.star : Nat)) (.int .i64 (Q.sign : Nat)) (.int .i64 Q.sh) w
  have i1 := fun w => idx1 (.int .i64 (P.pl : Nat)) (.int .i64 (P.len : Nat)) (.int .i64 (P.star : Nat)) (.int .i64 (P.sign : Nat)) (.int .i64 P.sh) (.int .i64 (Q.pl : Nat)) (.int .i64 (Q.len : Nat)) (.int .i64 (Q.star : Nat)) (.int .i64 (Q.sign : Nat)) (.int .i64 Q.sh) w
  have n1 := fld1
  go_enter Tryd.func17, Tryd.ntmps17
  go_wp2
  refine wp_loop_rounds 3 ?_
  rw [rounds_succ]
  go_wp2
  all_goals try (rw [rounds_succ]; go_wp2)
  all_goals try (rw [rounds_succ]; go_wp2)
  all_goals try (refine wp_loop_rounds 3 ?_)
  all_goals try (rw [rounds_succ]; go_wp2_with (first | (go_at_call 29; (fail_if_success (guard_hyp g7)); refine (natureC _ _).mono ?_; rintro e w7 ⟨rfl, g7⟩; have G7 := gb_trans G6 g7; have BD7 := BD6.kept g7 (by simp); have BP7 := B6.kept g7 (by simp); have de0 := BD7.cell 0 (v := .int .u8 k) rfl; have de1 := BD7.cell 1 (v := .int .i64 (P.pl : Nat)) rfl; have de2 := BD7.cell 2 (v := .int .i64 (P.len : Nat)) rfl; have de3 := BD7.cell 3 (v := .int .i64 (P.star : Nat)) rfl; have de4 := BD7.cell 4 (v := .int .i64 (P.sign : Nat)) rfl; have de5 := BD7.cell 5 (v := .int .i64 P.sh) rfl; have de6 := BD7.cell 6 (v := .int .i64 (Q.pl : Nat)) rfl; have de7 := BD7.cell 7 (v := .int .i64 (Q.len : Nat)) rfl; have de8 := BD7.cell 8 (v := .int .i64 (Q.star : Nat)) rfl; have de9 := BD7.cell 9 (v := .int .i64 (Q.sign : Nat)) rfl; have de10 := BD7.cell 10 (v := .int .i64 Q.sh) rfl; have de11 := BD7.cell 11 (v := .int .i64 (l : Nat)) rfl; have df0 := BP7.cell 0 (v := .int .i64 (Q.pl : Nat)) rfl; have df1 := BP7.cell 1 (v := .int .i64 (Q.len : Nat)) rfl; have df2 := BP7.cell 2 (v := .int .i64 (Q.star : Nat)) rfl; have df3 := BP7.cell 3 (v := .int .i64 (Q.sign : Nat)) rfl; have df4 := BP7.cell 4 (v := .int .i64 Q.sh) rfl) | (go_at_call 39; refine (wrongStarC k l P Q _).mono ?_; rintro e w8 ⟨rfl, g8⟩; have G8 := gb_trans G7 g8; have BD8 := BD7.kept g8 (by simp); have hT8 := tfK hT G8; have dg0 := BD8.cell 0 (v := .int .u8 k) rfl; have dg1 := BD8.cell 1 (v := .int .i64 (P.pl : Nat)) rfl; have dg2 := BD8.cell 2 (v := .int .i64 (P.len : Nat)) rfl; have dg3 := BD8.cell 3 (v := .int .i64 (P.star : Nat)) rfl; have dg4 := BD8.cell 4 (v := .int .i64 (P.sign : Nat)) rfl; have dg5 := BD8.cell 5 (v := .int .i64 P.sh) rfl; have dg6 := BD8.cell 6 (v := .int .i64 (Q.pl : Nat)) rfl; have dg7 := BD8.cell 7 (v := .int .i64 (Q.len : Nat)) rfl; have dg8 := BD8.cell 8 (v := .int .i64 (Q.star : Nat)) rfl; have dg9 := BD8.cell 9 (v := .int .i64 (Q.sign : Nat)) rfl; have dg10 := BD8.cell 10 (v := .int .i64 Q.sh) rfl; have dg11 := BD8.cell 11 (v := .int .i64 (l : Nat)) rfl) | (go_at_call 40; refine (wrongSignC k l P Q _ hT8).mono ?_; rintro e w9 ⟨rfl, g9⟩; have G9 := gb_trans G8 g9)))
  all_goals try (rw [rounds_succ]; go_wp2_with (first | (go_at_call 29; (fail_if_success (guard_hyp g7)); refine (natureC _ _).mono ?_; rintro e w7 ⟨rfl, g7⟩; have G7 := gb_trans G6 g7; have BD7 := BD6.kept g7 (by simp); have BP7 := B6.kept g7 (by simp); have de0 := BD7.cell 0 (v := .int .u8 k) rfl; have de1 := BD7.cell 1 (v := .int .i64 (P.pl : Nat)) rfl; have de2 := BD7.cell 2 (v := .int .i64 (P.len : Nat)) rfl; have de3 := BD7.cell 3 (v := .int .i64 (P.star : Nat)) rfl; have de4 := BD7.cell 4 (v := .int .i64 (P.sign : Nat)) rfl; have de5 := BD7.cell 5 (v := .int .i64 P.sh) rfl; have de6 := BD7.cell 6 (v := .int .i64 (Q.pl : Nat)) rfl; have de7 := BD7.cell 7 (v := .int .i64 (Q.len : Nat)) rfl; have de8 := BD7.cell 8 (v := .int .i64 (Q.star : Nat)) rfl; have de9 := BD7.cell 9 (v := .int .i64 (Q.sign : Nat)) rfl; have de10 := BD7.cell 10 (v := .int .i64 Q.sh) rfl; have de11 := BD7.cell 11 (v := .int .i64 (l : Nat)) rfl; have df0 := BP7.cell 0 (v := .int .i64 (Q.pl : Nat)) rfl; have df1 := BP7.cell 1 (v := .int .i64 (Q.len : Nat)) rfl; have df2 := BP7.cell 2 (v := .int .i64 (Q.star : Nat)) rfl; have df3 := BP7.cell 3 (v := .int .i64 (Q.sign : Nat)) rfl; have df4 := BP7.cell 4 (v := .int .i64 Q.sh) rfl) | (go_at_call 39; refine (wrongStarC k l P Q _).mono ?_; rintro e w8 ⟨rfl, g8⟩; have G8 := gb_trans G7 g8; have BD8 := BD7.kept g8 (by simp); have hT8 := tfK hT G8; have dg0 := BD8.cell 0 (v := .int .u8 k) rfl; have dg1 := BD8.cell 1 (v := .int .i64 (P.pl : Nat)) rfl; have dg2 := BD8.cell 2 (v := .int .i64 (P.len : Nat)) rfl; have dg3 := BD8.cell 3 (v := .int .i64 (P.star : Nat)) rfl; have dg4 := BD8.cell 4 (v := .int .i64 (P.sign : Nat)) rfl; have dg5 := BD8.cell 5 (v := .int .i64 P.sh) rfl; have dg6 := BD8.cell 6 (v := .int .i64 (Q.pl : Nat)) rfl; have dg7 := BD8.cell 7 (v := .int .i64 (Q.len : Nat)) rfl; have dg8 := BD8.cell 8 (v := .int .i64 (Q.star : Nat)) rfl; have dg9 := BD8.cell 9 (v := .int .i64 (Q.sign : Nat)) rfl; have dg10 := BD8.cell 10 (v := .int .i64 Q.sh) rfl; have dg11 := BD8.cell 11 (v := .int .i64 (l : Nat)) rfl) | (go_at_call 40; refine (wrongSignC k l P Q _ hT8).mono ?_; rintro e w9 ⟨rfl, g9⟩; have G9 := gb_trans G8 g9)))
  all_goals try (rw [rounds_succ]; go_wp2_with (first | (go_at_call 29; (fail_if_success (guard_hyp g7)); refine (natureC _ _).mono ?_; rintro e w7 ⟨rfl, g7⟩; have G7 := gb_trans G6 g7; have BD7 := BD6.kept g7 (by simp); have BP7 := B6.kept g7 (by simp); have de0 := BD7.cell 0 (v := .int .u8 k) rfl; have de1 := BD7.cell 1 (v := .int .i64 (P.pl : Nat)) rfl; have de2 := BD7.cell 2 (v := .int .i64 (P.len : Nat)) rfl; have de3 := BD7.cell 3 (v := .int .i64 (P.star : Nat)) rfl; have de4 := BD7.cell 4 (v := .int .i64 (P.sign : Nat)) rfl; have de5 := BD7.cell 5 (v := .int .i64 P.sh) rfl; have de6 := BD7.cell 6 (v := .int .i64 (Q.pl : Nat)) rfl; have de7 := BD7.cell 7 (v := .int .i64 (Q.len : Nat)) rfl; have de8 := BD7.cell 8 (v := .int .i64 (Q.star : Nat)) rfl; have de9 := BD7.cell 9 (v := .int .i64 (Q.sign : Nat)) rfl; have de10 := BD7.cell 10 (v := .int .i64 Q.sh) rfl; have de11 := BD7.cell 11 (v := .int .i64 (l : Nat)) rfl; have df0 := BP7.cell 0 (v := .int .i64 (Q.pl : Nat)) rfl; have df1 := BP7.cell 1 (v := .int .i64 (Q.len : Nat)) rfl; have df2 := BP7.cell 2 (v := .int .i64 (Q.star : Nat)) rfl; have df3 := BP7.cell 3 (v := .int .i64 (Q.sign : Nat)) rfl; have df4 := BP7.cell 4 (v := .int .i64 Q.sh) rfl) | (go_at_call 39; refine (wrongStarC k l P Q _).mono ?_; rintro e w8 ⟨rfl, g8⟩; have G8 := gb_trans G7 g8; have BD8 := BD7.kept g8 (by simp); have hT8 := tfK hT G8; have dg0 := BD8.cell 0 (v := .int .u8 k) rfl; have dg1 := BD8.cell 1 (v := .int .i64 (P.pl : Nat)) rfl; have dg2 := BD8.cell 2 (v := .int .i64 (P.len : Nat)) rfl; have dg3 := BD8.cell 3 (v := .int .i64 (P.star : Nat)) rfl; have dg4 := BD8.cell 4 (v := .int .i64 (P.sign : Nat)) rfl; have dg5 := BD8.cell 5 (v := .int .i64 P.sh) rfl; have dg6 := BD8.cell 6 (v := .int .i64 (Q.pl : Nat)) rfl; have dg7 := BD8.cell 7 (v := .int .i64 (Q.len : Nat)) rfl; have dg8 := BD8.cell 8 (v := .int .i64 (Q.star : Nat)) rfl; have dg9 := BD8.cell 9 (v := .int .i64 (Q.sign : Nat)) rfl; have dg10 := BD8.cell 10 (v := .int .i64 Q.sh) rfl; have dg11 := BD8.cell 11 (v := .int .i64 (l : Nat)) rfl) | (go_at_call 40; refine (wrongSignC k l P Q _ hT8).mono ?_; rintro e w9 ⟨rfl, g9⟩; have G9 := gb_trans G8 g9)))
  all_goals go_ret2
  all_goals refine ⟨ret_sn ?_ ?_, by first | exact G9 | exact G8 | exact G7 | exact G6 | exact G5 | exact G4 | exact G3 | exact G2⟩
  all_goals simp only [nE_three k hk, decide_eq_true_eq, decide_eq_false_iff_not, Bool.not_eq_true', Bool.not_eq_false', beq_iff_eq, beq_eq_false_iff_ne, bne_iff_ne, ne_eq] at *
  all_goals clear hW1 hW2 hW3 hW4 i0 i1 n1
  all_goals unfold Tp.senseR
  all_goals repeat' split
  all_goals first | omega | rfl | (simp_all; done) | (simp_all; omega)

set_option maxHeartbeats 4000000 in
theorem sense_00 (k l : Nat) (P Q : Tp.Pt) (w : World) (hT : Hid (Tf w)) (hk : k ≤ 5) (hp : ((P.len : Int) == 0) = true) (hq : ((Q.len : Int) == 0) = true) : Calls Tryd.prog 17 #[.agg #[.int .u8 k, .int .i64 (P.pl : Nat), .int .i64 (P.len : Nat), .int .i64 (P.star : Nat), .int .i64 (P.sign : Nat), .int .i64 P.sh, .int .i64 (Q.pl : Nat), .int .i64 (Q.len : Nat), .int .i64 (Q.star : Nat), .int .i64 (Q.sign : Nat), .int .i64 Q.sh, .int .i64 (l : Nat)]] w fun e w' => e = .returned (.tuple #[.int .i64 ((Tp.senseR k P Q l).a : Nat), .int .i64 ((Tp.senseR k P Q l).e : Nat)]) ∧ w.grownBy w' none := by
  obtain ⟨W1, hW1, sz1, g1, B1⟩ := boxn w #[.int .u8 k, .int .i64 (P.pl : Nat), .int .i64 (P.len : Nat), .int .i64 (P.star : Nat), .int .i64 (P.sign : Nat), .int .i64 P.sh, .int .i64 (Q.pl : Nat), .int .i64 (Q.len : Nat), .int .i64 (Q.star : Nat), .int .i64 (Q.sign : Nat), .int .i64 Q.sh, .int .i64 (l : Nat)] 40
  obtain ⟨W2, hW2, sz2, g2, B2⟩ := boxn W1 #[.int .i64 (P.pl : Nat), .int .i64 (P.len : Nat), .int .i64 (P.star : Nat), .int .i64 (P.sign : Nat), .int .i64 P.sh] 37
  obtain ⟨W3, hW3, sz3, g3, B3⟩ := boxn W2 #[.int .i64 (Q.pl : Nat), .int .i64 (Q.len : Nat), .int .i64 (Q.star : Nat), .int .i64 (Q.sign : Nat), .int .i64 Q.sh] 37
  obtain ⟨W4, hW4, sz4, g4, B4⟩ := boxn W3 #[.int .i64 (P.pl : Nat), .int .i64 (P.len : Nat), .int .i64 (P.star : Nat), .int .i64 (P.sign : Nat), .int .i64 P.sh] 37
  have G2 := gb_trans g1 g2
  have G3 := gb_trans G2 g3
  have G4 := gb_trans G3 g4
  have BD2 := B1.kept g2 (by simp)
  have BD3 := BD2.kept g3 (by simp)
  have BD4 := BD3.kept g4 (by simp)
  have a0 := B1.cell 0 (v := .int .u8 k) rfl
  have a1 := B1.cell 1 (v := .int .i64 (P.pl : Nat)) rfl
  have a2 := B1.cell 2 (v := .int .i64 (P.len : Nat)) rfl
  have a3 := B1.cell 3 (v := .int .i64 (P.star : Nat)) rfl
  have a4 := B1.cell 4 (v := .int .i64 (P.sign : Nat)) rfl
  have a5 := B1.cell 5 (v := .int .i64 P.sh) rfl
  have a6 := B1.cell 6 (v := .int .i64 (Q.pl : Nat)) rfl
  have a7 := B1.cell 7 (v := .int .i64 (Q.len : Nat)) rfl
  have a8 := B1.cell 8 (v := .int .i64 (Q.star : Nat)) rfl
  have a9 := B1.cell 9 (v := .int .i64 (Q.sign : Nat)) rfl
  have a10 := B1.cell 10 (v := .int .i64 Q.sh) rfl
  have a11 := B1.cell 11 (v := .int .i64 (l : Nat)) rfl
  have b0 := BD2.cell 0 (v := .int .u8 k) rfl
  have b1 := BD2.cell 1 (v := .int .i64 (P.pl : Nat)) rfl
  have b2 := BD2.cell 2 (v := .int .i64 (P.len : Nat)) rfl
  have b3 := BD2.cell 3 (v := .int .i64 (P.star : Nat)) rfl
  have b4 := BD2.cell 4 (v := .int .i64 (P.sign : Nat)) rfl
  have b5 := BD2.cell 5 (v := .int .i64 P.sh) rfl
  have b6 := BD2.cell 6 (v := .int .i64 (Q.pl : Nat)) rfl
  have b7 := BD2.cell 7 (v := .int .i64 (Q.len : Nat)) rfl
  have b8 := BD2.cell 8 (v := .int .i64 (Q.star : Nat)) rfl
  have b9 := BD2.cell 9 (v := .int .i64 (Q.sign : Nat)) rfl
  have b10 := BD2.cell 10 (v := .int .i64 Q.sh) rfl
  have b11 := BD2.cell 11 (v := .int .i64 (l : Nat)) rfl
  have c0 := BD3.cell 0 (v := .int .u8 k) rfl
  have c1 := BD3.cell 1 (v := .int .i64 (P.pl : Nat)) rfl
  have c2 := BD3.cell 2 (v := .int .i64 (P.len : Nat)) rfl
  have c3 := BD3.cell 3 (v := .int .i64 (P.star : Nat)) rfl
  have c4 := BD3.cell 4 (v := .int .i64 (P.sign : Nat)) rfl
  have c5 := BD3.cell 5 (v := .int .i64 P.sh) rfl
  have c6 := BD3.cell 6 (v := .int .i64 (Q.pl : Nat)) rfl
  have c7 := BD3.cell 7 (v := .int .i64 (Q.len : Nat)) rfl
  have c8 := BD3.cell 8 (v := .int .i64 (Q.star : Nat)) rfl
  have c9 := BD3.cell 9 (v := .int .i64 (Q.sign : Nat)) rfl
  have c10 := BD3.cell 10 (v := .int .i64 Q.sh) rfl
  have c11 := BD3.cell 11 (v := .int .i64 (l : Nat)) rfl
  have d0 := BD4.cell 0 (v := .int .u8 k) rfl
  have d1 := BD4.cell 1 (v := .int .i64 (P.pl : Nat)) rfl
  have d2 := BD4.cell 2 (v := .int .i64 (P.len : Nat)) rfl
  have d3 := BD4.cell 3 (v := .int .i64 (P.star : Nat)) rfl
  have d4 := BD4.cell 4 (v := .int .i64 (P.sign : Nat)) rfl
  have d5 := BD4.cell 5 (v := .int .i64 P.sh) rfl
  have d6 := BD4.cell 6 (v := .int .i64 (Q.pl : Nat)) rfl
  have d7 := BD4.cell 7 (v := .int .i64 (Q.len : Nat)) rfl
  have d8 := BD4.cell 8 (v := .int .i64 (Q.star : Nat)) rfl
  have d9 := BD4.cell 9 (v := .int .i64 (Q.sign : Nat)) rfl
  have d10 := BD4.cell 10 (v := .int .i64 Q.sh) rfl
  have d11 := BD4.cell 11 (v := .int .i64 (l : Nat)) rfl
  have ea0 := B2.cell 0 (v := .int .i64 (P.pl : Nat)) rfl
  have ea1 := B2.cell 1 (v := .int .i64 (P.len : Nat)) rfl
  have ea2 := B2.cell 2 (v := .int .i64 (P.star : Nat)) rfl
  have ea3 := B2.cell 3 (v := .int .i64 (P.sign : Nat)) rfl
  have ea4 := B2.cell 4 (v := .int .i64 P.sh) rfl
  have eb0 := B3.cell 0 (v := .int .i64 (Q.pl : Nat)) rfl
  have eb1 := B3.cell 1 (v := .int .i64 (Q.len : Nat)) rfl
  have eb2 := B3.cell 2 (v := .int .i64 (Q.star : Nat)) rfl
  have eb3 := B3.cell 3 (v := .int .i64 (Q.sign : Nat)) rfl
  have eb4 := B3.cell 4 (v := .int .i64 Q.sh) rfl
  have ec0 := B4.cell 0 (v := .int .i64 (P.pl : Nat)) rfl
  have ec1 := B4.cell 1 (v := .int .i64 (P.len : Nat)) rfl
  have ec2 := B4.cell 2 (v := .int .i64 (P.star : Nat)) rfl
  have ec3 := B4.cell 3 (v := .int .i64 (P.sign : Nat)) rfl
  have ec4 := B4.cell 4 (v := .int .i64 P.sh) rfl
  have i0 := fun w => idx0 (.int .i64 (P.pl : Nat)) (.int .i64 (P.len : Nat)) (.int .i64 (P.star : Nat)) (.int .i64 (P.sign : Nat)) (.int .i64 P.sh) (.int .i64 (Q.pl : Nat)) (.int .i64 (Q.len : Nat)) (.int .i64 (Q.star : Nat)) (.int .i64 (Q.sign : Nat)) (.int .i64 Q.sh) w
  have i1 := fun w => idx1 (.int .i64 (P.pl : Nat)) (.int .i64 (P.len : Nat)) (.int .i64 (P.star : Nat)) (.int .i64 (P.sign : Nat)) (.int .i64 P.sh) (.int .i64 (Q.pl : Nat)) (.int .i64 (Q.len : Nat)) (.int .i64 (Q.star : Nat)) (.int .i64 (Q.sign : Nat)) (.int .i64 Q.sh) w
  have n1 := fld1
  go_enter Tryd.func17, Tryd.ntmps17
  go_wp2
  refine wp_loop_rounds 3 ?_
  rw [rounds_succ]
  go_wp2
  all_goals try (rw [rounds_succ]; go_wp2)
  all_goals try (rw [rounds_succ]; go_wp2)
  all_goals try (refine wp_loop_rounds 3 ?_)
  all_goals try (rw [rounds_succ]; go_wp2_with (first | (go_at_call 29; (fail_if_success (guard_hyp g5)); refine (natureC _ _).mono ?_; rintro e w5 ⟨rfl, g5⟩; have G5 := gb_trans G4 g5; have BD5 := BD4.kept g5 (by simp); have BP5 := B4.kept g5 (by simp); have da0 := BD5.cell 0 (v := .int .u8 k) rfl; have da1 := BD5.cell 1 (v := .int .i64 (P.pl : Nat)) rfl; have da2 := BD5.cell 2 (v := .int .i64 (P.len : Nat)) rfl; have da3 := BD5.cell 3 (v := .int .i64 (P.star : Nat)) rfl; have da4 := BD5.cell 4 (v := .int .i64 (P.sign : Nat)) rfl; have da5 := BD5.cell 5 (v := .int .i64 P.sh) rfl; have da6 := BD5.cell 6 (v := .int .i64 (Q.pl : Nat)) rfl; have da7 := BD5.cell 7 (v := .int .i64 (Q.len : Nat)) rfl; have da8 := BD5.cell 8 (v := .int .i64 (Q.star : Nat)) rfl; have da9 := BD5.cell 9 (v := .int .i64 (Q.sign : Nat)) rfl; have da10 := BD5.cell 10 (v := .int .i64 Q.sh) rfl; have da11 := BD5.cell 11 (v := .int .i64 (l : Nat)) rfl; have db0 := BP5.cell 0 (v := .int .i64 (P.pl : Nat)) rfl; have db1 := BP5.cell 1 (v := .int .i64 (P.len : Nat)) rfl; have db2 := BP5.cell 2 (v := .int .i64 (P.star : Nat)) rfl; have db3 := BP5.cell 3 (v := .int .i64 (P.sign : Nat)) rfl; have db4 := BP5.cell 4 (v := .int .i64 P.sh) rfl; obtain ⟨W6, hW6, sz6, g6, B6⟩ := boxn w5 #[.int .i64 (Q.pl : Nat), .int .i64 (Q.len : Nat), .int .i64 (Q.star : Nat), .int .i64 (Q.sign : Nat), .int .i64 Q.sh] 37; have G6 := gb_trans G5 g6; have BD6 := BD5.kept g6 (by simp); have dc0 := BD6.cell 0 (v := .int .u8 k) rfl; have dc1 := BD6.cell 1 (v := .int .i64 (P.pl : Nat)) rfl; have dc2 := BD6.cell 2 (v := .int .i64 (P.len : Nat)) rfl; have dc3 := BD6.cell 3 (v := .int .i64 (P.star : Nat)) rfl; have dc4 := BD6.cell 4 (v := .int .i64 (P.sign : Nat)) rfl; have dc5 := BD6.cell 5 (v := .int .i64 P.sh) rfl; have dc6 := BD6.cell 6 (v := .int .i64 (Q.pl : Nat)) rfl; have dc7 := BD6.cell 7 (v := .int .i64 (Q.len : Nat)) rfl; have dc8 := BD6.cell 8 (v := .int .i64 (Q.star : Nat)) rfl; have dc9 := BD6.cell 9 (v := .int .i64 (Q.sign : Nat)) rfl; have dc10 := BD6.cell 10 (v := .int .i64 Q.sh) rfl; have dc11 := BD6.cell 11 (v := .int .i64 (l : Nat)) rfl; have dd0 := B6.cell 0 (v := .int .i64 (Q.pl : Nat)) rfl; have dd1 := B6.cell 1 (v := .int .i64 (Q.len : Nat)) rfl; have dd2 := B6.cell 2 (v := .int .i64 (Q.star : Nat)) rfl; have dd3 := B6.cell 3 (v := .int .i64 (Q.sign : Nat)) rfl; have dd4 := B6.cell 4 (v := .int .i64 Q.sh) rfl) | (go_at_call 29; (fail_if_success (guard_hyp g7)); refine (natureC _ _).mono ?_; rintro e w7 ⟨rfl, g7⟩; have G7 := gb_trans G6 g7; have BD7 := BD6.kept g7 (by simp); have BP7 := B6.kept g7 (by simp); have de0 := BD7.cell 0 (v := .int .u8 k) rfl; have de1 := BD7.cell 1 (v := .int .i64 (P.pl : Nat)) rfl; have de2 := BD7.cell 2 (v := .int .i64 (P.len : Nat)) rfl; have de3 := BD7.cell 3 (v := .int .i64 (P.star : Nat)) rfl; have de4 := BD7.cell 4 (v := .int .i64 (P.sign : Nat)) rfl; have de5 := BD7.cell 5 (v := .int .i64 P.sh) rfl; have de6 := BD7.cell 6 (v := .int .i64 (Q.pl : Nat)) rfl; have de7 := BD7.cell 7 (v := .int .i64 (Q.len : Nat)) rfl; have de8 := BD7.cell 8 (v := .int .i64 (Q.star : Nat)) rfl; have de9 := BD7.cell 9 (v := .int .i64 (Q.sign : Nat)) rfl; have de10 := BD7.cell 10 (v := .int .i64 Q.sh) rfl; have de11 := BD7.cell 11 (v := .int .i64 (l : Nat)) rfl; have df0 := BP7.cell 0 (v := .int .i64 (Q.pl : Nat)) rfl; have df1 := BP7.cell 1 (v := .int .i64 (Q.len : Nat)) rfl; have df2 := BP7.cell 2 (v := .int .i64 (Q.star : Nat)) rfl; have df3 := BP7.cell 3 (v := .int .i64 (Q.sign : Nat)) rfl; have df4 := BP7.cell 4 (v := .int .i64 Q.sh) rfl) | (go_at_call 39; refine (wrongStarC k l P Q _).mono ?_; rintro e w8 ⟨rfl, g8⟩; have G8 := gb_trans G7 g8; have BD8 := BD7.kept g8 (by simp); have hT8 := tfK hT G8; have dg0 := BD8.cell 0 (v := .int .u8 k) rfl; have dg1 := BD8.cell 1 (v := .int .i64 (P.pl : Nat)) rfl; have dg2 := BD8.cell 2 (v := .int .i64 (P.len : Nat)) rfl; have dg3 := BD8.cell 3 (v := .int .i64 (P.star : Nat)) rfl; have dg4 := BD8.cell 4 (v := .int .i64 (P.sign : Nat)) rfl; have dg5 := BD8.cell 5 (v := .int .i64 P.sh) rfl; have dg6 := BD8.cell 6 (v := .int .i64 (Q.pl : Nat)) rfl; have dg7 := BD8.cell 7 (v := .int .i64 (Q.len : Nat)) rfl; have dg8 := BD8.cell 8 (v := .int .i64 (Q.star : Nat)) rfl; have dg9 := BD8.cell 9 (v := .int .i64 (Q.sign : Nat)) rfl; have dg10 := BD8.cell 10 (v := .int .i64 Q.sh) rfl; have dg11 := BD8.cell 11 (v := .int .i64 (l : Nat)) rfl) | (go_at_call 40; refine (wrongSignC k l P Q _ hT8).mono ?_; rintro e w9 ⟨rfl, g9⟩; have G9 := gb_trans G8 g9)))
  all_goals try (rw [rounds_succ]; go_wp2_with (first | (go_at_call 29; (fail_if_success (guard_hyp g5)); refine (natureC _ _).mono ?_; rintro e w5 ⟨rfl, g5⟩; have G5 := gb_trans G4 g5; have BD5 := BD4.kept g5 (by simp); have BP5 := B4.kept g5 (by simp); have da0 := BD5.cell 0 (v := .int .u8 k) rfl; have da1 := BD5.cell 1 (v := .int .i64 (P.pl : Nat)) rfl; have da2 := BD5.cell 2 (v := .int .i64 (P.len : Nat)) rfl; have da3 := BD5.cell 3 (v := .int .i64 (P.star : Nat)) rfl; have da4 := BD5.cell 4 (v := .int .i64 (P.sign : Nat)) rfl; have da5 := BD5.cell 5 (v := .int .i64 P.sh) rfl; have da6 := BD5.cell 6 (v := .int .i64 (Q.pl : Nat)) rfl; have da7 := BD5.cell 7 (v := .int .i64 (Q.len : Nat)) rfl; have da8 := BD5.cell 8 (v := .int .i64 (Q.star : Nat)) rfl; have da9 := BD5.cell 9 (v := .int .i64 (Q.sign : Nat)) rfl; have da10 := BD5.cell 10 (v := .int .i64 Q.sh) rfl; have da11 := BD5.cell 11 (v := .int .i64 (l : Nat)) rfl; have db0 := BP5.cell 0 (v := .int .i64 (P.pl : Nat)) rfl; have db1 := BP5.cell 1 (v := .int .i64 (P.len : Nat)) rfl; have db2 := BP5.cell 2 (v := .int .i64 (P.star : Nat)) rfl; have db3 := BP5.cell 3 (v := .int .i64 (P.sign : Nat)) rfl; have db4 := BP5.cell 4 (v := .int .i64 P.sh) rfl; obtain ⟨W6, hW6, sz6, g6, B6⟩ := boxn w5 #[.int .i64 (Q.pl : Nat), .int .i64 (Q.len : Nat), .int .i64 (Q.star : Nat), .int .i64 (Q.sign : Nat), .int .i64 Q.sh] 37; have G6 := gb_trans G5 g6; have BD6 := BD5.kept g6 (by simp); have dc0 := BD6.cell 0 (v := .int .u8 k) rfl; have dc1 := BD6.cell 1 (v := .int .i64 (P.pl : Nat)) rfl; have dc2 := BD6.cell 2 (v := .int .i64 (P.len : Nat)) rfl; have dc3 := BD6.cell 3 (v := .int .i64 (P.star : Nat)) rfl; have dc4 := BD6.cell 4 (v := .int .i64 (P.sign : Nat)) rfl; have dc5 := BD6.cell 5 (v := .int .i64 P.sh) rfl; have dc6 := BD6.cell 6 (v := .int .i64 (Q.pl : Nat)) rfl; have dc7 := BD6.cell 7 (v := .int .i64 (Q.len : Nat)) rfl; have dc8 := BD6.cell 8 (v := .int .i64 (Q.star : Nat)) rfl; have dc9 := BD6.cell 9 (v := .int .i64 (Q.sign : Nat)) rfl; have dc10 := BD6.cell 10 (v := .int .i64 Q.sh) rfl; have dc11 := BD6.cell 11 (v := .int .i64 (l : Nat)) rfl; have dd0 := B6.cell 0 (v := .int .i64 (Q.pl : Nat)) rfl; have dd1 := B6.cell 1 (v := .int .i64 (Q.len : Nat)) rfl; have dd2 := B6.cell 2 (v := .int .i64 (Q.star : Nat)) rfl; have dd3 := B6.cell 3 (v := .int .i64 (Q.sign : Nat)) rfl; have dd4 := B6.cell 4 (v := .int .i64 Q.sh) rfl) | (go_at_call 29; (fail_if_success (guard_hyp g7)); refine (natureC _ _).mono ?_; rintro e w7 ⟨rfl, g7⟩; have G7 := gb_trans G6 g7; have BD7 := BD6.kept g7 (by simp); have BP7 := B6.kept g7 (by simp); have de0 := BD7.cell 0 (v := .int .u8 k) rfl; have de1 := BD7.cell 1 (v := .int .i64 (P.pl : Nat)) rfl; have de2 := BD7.cell 2 (v := .int .i64 (P.len : Nat)) rfl; have de3 := BD7.cell 3 (v := .int .i64 (P.star : Nat)) rfl; have de4 := BD7.cell 4 (v := .int .i64 (P.sign : Nat)) rfl; have de5 := BD7.cell 5 (v := .int .i64 P.sh) rfl; have de6 := BD7.cell 6 (v := .int .i64 (Q.pl : Nat)) rfl; have de7 := BD7.cell 7 (v := .int .i64 (Q.len : Nat)) rfl; have de8 := BD7.cell 8 (v := .int .i64 (Q.star : Nat)) rfl; have de9 := BD7.cell 9 (v := .int .i64 (Q.sign : Nat)) rfl; have de10 := BD7.cell 10 (v := .int .i64 Q.sh) rfl; have de11 := BD7.cell 11 (v := .int .i64 (l : Nat)) rfl; have df0 := BP7.cell 0 (v := .int .i64 (Q.pl : Nat)) rfl; have df1 := BP7.cell 1 (v := .int .i64 (Q.len : Nat)) rfl; have df2 := BP7.cell 2 (v := .int .i64 (Q.star : Nat)) rfl; have df3 := BP7.cell 3 (v := .int .i64 (Q.sign : Nat)) rfl; have df4 := BP7.cell 4 (v := .int .i64 Q.sh) rfl) | (go_at_call 39; refine (wrongStarC k l P Q _).mono ?_; rintro e w8 ⟨rfl, g8⟩; have G8 := gb_trans G7 g8; have BD8 := BD7.kept g8 (by simp); have hT8 := tfK hT G8; have dg0 := BD8.cell 0 (v := .int .u8 k) rfl; have dg1 := BD8.cell 1 (v := .int .i64 (P.pl : Nat)) rfl; have dg2 := BD8.cell 2 (v := .int .i64 (P.len : Nat)) rfl; have dg3 := BD8.cell 3 (v := .int .i64 (P.star : Nat)) rfl; have dg4 := BD8.cell 4 (v := .int .i64 (P.sign : Nat)) rfl; have dg5 := BD8.cell 5 (v := .int .i64 P.sh) rfl; have dg6 := BD8.cell 6 (v := .int .i64 (Q.pl : Nat)) rfl; have dg7 := BD8.cell 7 (v := .int .i64 (Q.len : Nat)) rfl; have dg8 := BD8.cell 8 (v := .int .i64 (Q.star : Nat)) rfl; have dg9 := BD8.cell 9 (v := .int .i64 (Q.sign : Nat)) rfl; have dg10 := BD8.cell 10 (v := .int .i64 Q.sh) rfl; have dg11 := BD8.cell 11 (v := .int .i64 (l : Nat)) rfl) | (go_at_call 40; refine (wrongSignC k l P Q _ hT8).mono ?_; rintro e w9 ⟨rfl, g9⟩; have G9 := gb_trans G8 g9)))
  all_goals try (rw [rounds_succ]; go_wp2_with (first | (go_at_call 29; (fail_if_success (guard_hyp g5)); refine (natureC _ _).mono ?_; rintro e w5 ⟨rfl, g5⟩; have G5 := gb_trans G4 g5; have BD5 := BD4.kept g5 (by simp); have BP5 := B4.kept g5 (by simp); have da0 := BD5.cell 0 (v := .int .u8 k) rfl; have da1 := BD5.cell 1 (v := .int .i64 (P.pl : Nat)) rfl; have da2 := BD5.cell 2 (v := .int .i64 (P.len : Nat)) rfl; have da3 := BD5.cell 3 (v := .int .i64 (P.star : Nat)) rfl; have da4 := BD5.cell 4 (v := .int .i64 (P.sign : Nat)) rfl; have da5 := BD5.cell 5 (v := .int .i64 P.sh) rfl; have da6 := BD5.cell 6 (v := .int .i64 (Q.pl : Nat)) rfl; have da7 := BD5.cell 7 (v := .int .i64 (Q.len : Nat)) rfl; have da8 := BD5.cell 8 (v := .int .i64 (Q.star : Nat)) rfl; have da9 := BD5.cell 9 (v := .int .i64 (Q.sign : Nat)) rfl; have da10 := BD5.cell 10 (v := .int .i64 Q.sh) rfl; have da11 := BD5.cell 11 (v := .int .i64 (l : Nat)) rfl; have db0 := BP5.cell 0 (v := .int .i64 (P.pl : Nat)) rfl; have db1 := BP5.cell 1 (v := .int .i64 (P.len : Nat)) rfl; have db2 := BP5.cell 2 (v := .int .i64 (P.star : Nat)) rfl; have db3 := BP5.cell 3 (v := .int .i64 (P.sign : Nat)) rfl; have db4 := BP5.cell 4 (v := .int .i64 P.sh) rfl; obtain ⟨W6, hW6, sz6, g6, B6⟩ := boxn w5 #[.int .i64 (Q.pl : Nat), .int .i64 (Q.len : Nat), .int .i64 (Q.star : Nat), .int .i64 (Q.sign : Nat), .int .i64 Q.sh] 37; have G6 := gb_trans G5 g6; have BD6 := BD5.kept g6 (by simp); have dc0 := BD6.cell 0 (v := .int .u8 k) rfl; have dc1 := BD6.cell 1 (v := .int .i64 (P.pl : Nat)) rfl; have dc2 := BD6.cell 2 (v := .int .i64 (P.len : Nat)) rfl; have dc3 := BD6.cell 3 (v := .int .i64 (P.star : Nat)) rfl; have dc4 := BD6.cell 4 (v := .int .i64 (P.sign : Nat)) rfl; have dc5 := BD6.cell 5 (v := .int .i64 P.sh) rfl; have dc6 := BD6.cell 6 (v := .int .i64 (Q.pl : Nat)) rfl; have dc7 := BD6.cell 7 (v := .int .i64 (Q.len : Nat)) rfl; have dc8 := BD6.cell 8 (v := .int .i64 (Q.star : Nat)) rfl; have dc9 := BD6.cell 9 (v := .int .i64 (Q.sign : Nat)) rfl; have dc10 := BD6.cell 10 (v := .int .i64 Q.sh) rfl; have dc11 := BD6.cell 11 (v := .int .i64 (l : Nat)) rfl; have dd0 := B6.cell 0 (v := .int .i64 (Q.pl : Nat)) rfl; have dd1 := B6.cell 1 (v := .int .i64 (Q.len : Nat)) rfl; have dd2 := B6.cell 2 (v := .int .i64 (Q.star : Nat)) rfl; have dd3 := B6.cell 3 (v := .int .i64 (Q.sign : Nat)) rfl; have dd4 := B6.cell 4 (v := .int .i64 Q.sh) rfl) | (go_at_call 29; (fail_if_success (guard_hyp g7)); refine (natureC _ _).mono ?_; rintro e w7 ⟨rfl, g7⟩; have G7 := gb_trans G6 g7; have BD7 := BD6.kept g7 (by simp); have BP7 := B6.kept g7 (by simp); have de0 := BD7.cell 0 (v := .int .u8 k) rfl; have de1 := BD7.cell 1 (v := .int .i64 (P.pl : Nat)) rfl; have de2 := BD7.cell 2 (v := .int .i64 (P.len : Nat)) rfl; have de3 := BD7.cell 3 (v := .int .i64 (P.star : Nat)) rfl; have de4 := BD7.cell 4 (v := .int .i64 (P.sign : Nat)) rfl; have de5 := BD7.cell 5 (v := .int .i64 P.sh) rfl; have de6 := BD7.cell 6 (v := .int .i64 (Q.pl : Nat)) rfl; have de7 := BD7.cell 7 (v := .int .i64 (Q.len : Nat)) rfl; have de8 := BD7.cell 8 (v := .int .i64 (Q.star : Nat)) rfl; have de9 := BD7.cell 9 (v := .int .i64 (Q.sign : Nat)) rfl; have de10 := BD7.cell 10 (v := .int .i64 Q.sh) rfl; have de11 := BD7.cell 11 (v := .int .i64 (l : Nat)) rfl; have df0 := BP7.cell 0 (v := .int .i64 (Q.pl : Nat)) rfl; have df1 := BP7.cell 1 (v := .int .i64 (Q.len : Nat)) rfl; have df2 := BP7.cell 2 (v := .int .i64 (Q.star : Nat)) rfl; have df3 := BP7.cell 3 (v := .int .i64 (Q.sign : Nat)) rfl; have df4 := BP7.cell 4 (v := .int .i64 Q.sh) rfl) | (go_at_call 39; refine (wrongStarC k l P Q _).mono ?_; rintro e w8 ⟨rfl, g8⟩; have G8 := gb_trans G7 g8; have BD8 := BD7.kept g8 (by simp); have hT8 := tfK hT G8; have dg0 := BD8.cell 0 (v := .int .u8 k) rfl; have dg1 := BD8.cell 1 (v := .int .i64 (P.pl : Nat)) rfl; have dg2 := BD8.cell 2 (v := .int .i64 (P.len : Nat)) rfl; have dg3 := BD8.cell 3 (v := .int .i64 (P.star : Nat)) rfl; have dg4 := BD8.cell 4 (v := .int .i64 (P.sign : Nat)) rfl; have dg5 := BD8.cell 5 (v := .int .i64 P.sh) rfl; have dg6 := BD8.cell 6 (v := .int .i64 (Q.pl : Nat)) rfl; have dg7 := BD8.cell 7 (v := .int .i64 (Q.len : Nat)) rfl; have dg8 := BD8.cell 8 (v := .int .i64 (Q.star : Nat)) rfl; have dg9 := BD8.cell 9 (v := .int .i64 (Q.sign : Nat)) rfl; have dg10 := BD8.cell 10 (v := .int .i64 Q.sh) rfl; have dg11 := BD8.cell 11 (v := .int .i64 (l : Nat)) rfl) | (go_at_call 40; refine (wrongSignC k l P Q _ hT8).mono ?_; rintro e w9 ⟨rfl, g9⟩; have G9 := gb_trans G8 g9)))
  all_goals go_ret2
  all_goals refine ⟨ret_sn ?_ ?_, by first | exact G9 | exact G8 | exact G7 | exact G6 | exact G5 | exact G4 | exact G3 | exact G2⟩
  all_goals simp only [nE_three k hk, decide_eq_true_eq, decide_eq_false_iff_not, Bool.not_eq_true', Bool.not_eq_false', beq_iff_eq, beq_eq_false_iff_ne, bne_iff_ne, ne_eq] at *
  all_goals clear hW1 hW2 hW3 hW4 i0 i1 n1
  all_goals unfold Tp.senseR
  all_goals repeat' split
  all_goals first | omega | rfl | (simp_all; done) | (simp_all; omega)
end Go.Proofs.YteegbhnfkcbnoaaDoor
