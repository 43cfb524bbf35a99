/- What the document's shift answers: two parts. -/
import Derived.Test.YteegbhnfkcbnoaaDoorR9
namespace Go.Proofs.YteegbhnfkcbnoaaDoor
open Go.RowKit
set_option linter.unusedVariables false
set_option linter.unusedSimpArgs false
set_option maxRecDepth 100000

set_option maxHeartbeats 4000000 in
theorem sh2nn (s : ByteArray) (K W H : Nat) (d0 : Tp.Dp) (z0 : d0.sg < 0) (d1 : Tp.Dp) (z1 : d1.sg < 0) (X : Int) (B : Bool) (hX : Hid (X = 0)) (hB : Hid (B = false)) (g c : Nat) (w : World) (hc : Cs w g (dpl d0 ++ dpl d1)) : Calls Tryd.prog 24 #[.string s, .int .u8 K, .slice (some ⟨g, 0, none⟩) 2 c, .int .i64 W, .int .i64 H] w fun e w' => e = .returned (.tuple #[.int .i64 X, .bool B]) ∧ w.grownBy w' none := by
  have c0 := hc 0 (.int .i64 d0.at_) rfl
  have c1 := hc 1 (.int .i64 d0.en) rfl
  have c2 := hc 2 (.int .i64 d0.st) rfl
  have c3 := hc 3 (.int .i64 d0.sg) rfl
  have c4 := hc 4 (.int .i64 d0.fr) rfl
  have c5 := hc 5 (.int .i64 d0.to) rfl
  have c6 := hc 6 (.int .i64 d1.at_) rfl
  have c7 := hc 7 (.int .i64 d1.en) rfl
  have c8 := hc 8 (.int .i64 d1.st) rfl
  have c9 := hc 9 (.int .i64 d1.sg) rfl
  have c10 := hc 10 (.int .i64 d1.fr) rfl
  have c11 := hc 11 (.int .i64 d1.to) rfl
  clear hc
  obtain ⟨V0, hV0, sz0, gg0, B0⟩ := boxn w #[.int .i64 d0.at_, .int .i64 d0.en, .int .i64 d0.st, .int .i64 d0.sg, .int .i64 d0.fr, .int .i64 d0.to] 60
  have b0_0 := B0.cell 0 (v := .int .i64 d0.at_) rfl
  have b0_1 := B0.cell 1 (v := .int .i64 d0.en) rfl
  have b0_2 := B0.cell 2 (v := .int .i64 d0.st) rfl
  have b0_3 := B0.cell 3 (v := .int .i64 d0.sg) rfl
  have b0_4 := B0.cell 4 (v := .int .i64 d0.fr) rfl
  have b0_5 := B0.cell 5 (v := .int .i64 d0.to) rfl
  have e6 : V0.cell? ⟨g, 6, none⟩ = some (.int .i64 d1.at_) := gg0.cell c6 (by simp)
  have e7 : V0.cell? ⟨g, 7, none⟩ = some (.int .i64 d1.en) := gg0.cell c7 (by simp)
  have e8 : V0.cell? ⟨g, 8, none⟩ = some (.int .i64 d1.st) := gg0.cell c8 (by simp)
  have e9 : V0.cell? ⟨g, 9, none⟩ = some (.int .i64 d1.sg) := gg0.cell c9 (by simp)
  have e10 : V0.cell? ⟨g, 10, none⟩ = some (.int .i64 d1.fr) := gg0.cell c10 (by simp)
  have e11 : V0.cell? ⟨g, 11, none⟩ = some (.int .i64 d1.to) := gg0.cell c11 (by simp)
  obtain ⟨V1, hV1, sz1, gg1, B1⟩ := boxn V0 #[.int .i64 d1.at_, .int .i64 d1.en, .int .i64 d1.st, .int .i64 d1.sg, .int .i64 d1.fr, .int .i64 d1.to] 60
  have b1_0 := B1.cell 0 (v := .int .i64 d1.at_) rfl
  have b1_1 := B1.cell 1 (v := .int .i64 d1.en) rfl
  have b1_2 := B1.cell 2 (v := .int .i64 d1.st) rfl
  have b1_3 := B1.cell 3 (v := .int .i64 d1.sg) rfl
  have b1_4 := B1.cell 4 (v := .int .i64 d1.fr) rfl
  have b1_5 := B1.cell 5 (v := .int .i64 d1.to) rfl
  rcases (show K = 2 ∨ K = 3 ∨ (K ≠ 2 ∧ K ≠ 3) by omega) with hK | hK | ⟨hK, hK3⟩
  · subst hK
    have k2 : ((((2 : Nat) : Int)) == 2) = true := rfl
    have k3 : ((((2 : Nat) : Int)) == 3) = false := rfl
    go_enter Tryd.func24, Tryd.ntmps24
    go_wp2
    refine wp_loop_rounds 4 ?_
    rw [rounds_succ]; go_wp2_with (first | (fail))
    all_goals try (rw [rounds_succ]; go_wp2_with (first | (fail)))
    all_goals try (rw [rounds_succ]; go_wp2)
    all_goals go_ret2
    all_goals try simp only [beq_iff_eq, beq_eq_false_iff_ne, ne_eq] at *
    all_goals refine ⟨ret_ibr ?_ ?_, by first | exact gg0 | exact gb_trans gg0 gg1⟩
    all_goals first
      | exact hX.out.symm
      | exact hB.out.symm
      | (rw [hX.out]; refine (if_pos ?_).symm; unfold shx; omega)
      | (rw [hX.out]; refine (if_neg ?_).symm; unfold shx; omega)
      | (rw [hB.out]; refine (decide_eq_true ?_).symm; unfold shx; omega)
      | (rw [hB.out]; refine (decide_eq_false ?_).symm; unfold shx; omega)
  · subst hK
    have k2 : ((((3 : Nat) : Int)) == 2) = false := rfl
    have k3 : ((((3 : Nat) : Int)) == 3) = true := rfl
    go_enter Tryd.func24, Tryd.ntmps24
    go_wp2
    refine wp_loop_rounds 4 ?_
    rw [rounds_succ]; go_wp2_with (first | (fail))
    all_goals try (rw [rounds_succ]; go_wp2_with (first | (fail)))
    all_goals try (rw [rounds_succ]; go_wp2)
    all_goals go_ret2
    all_goals try simp only [beq_iff_eq, beq_eq_false_iff_ne, ne_eq] at *
    all_goals refine ⟨ret_ibr ?_ ?_, by first | exact gg0 | exact gb_trans gg0 gg1⟩
    all_goals first
      | exact hX.out.symm
      | exact hB.out.symm
      | (rw [hX.out]; refine (if_pos ?_).symm; unfold shx; omega)
      | (rw [hX.out]; refine (if_neg ?_).symm; unfold shx; omega)
      | (rw [hB.out]; refine (decide_eq_true ?_).symm; unfold shx; omega)
      | (rw [hB.out]; refine (decide_eq_false ?_).symm; unfold shx; omega)
  · have k2 : ((K : Int) == 2) = false := beq_eq_false_iff_ne.2 (by omega)
    have k3 : ((K : Int) == 3) = false := beq_eq_false_iff_ne.2 (by omega)
    have k2n : ((K : Int) != 2) = true := by simp [bne, k2]
    have k3n : ((K : Int) != 3) = true := by simp [bne, k3]
    go_enter Tryd.func24, Tryd.ntmps24
    go_wp2
    refine wp_loop_rounds 4 ?_
    rw [rounds_succ]; go_wp2_with (first | (fail))
    all_goals try (rw [rounds_succ]; go_wp2_with (first | (fail)))
    all_goals try (rw [rounds_succ]; go_wp2)
    all_goals go_ret2
    all_goals try simp only [beq_iff_eq, beq_eq_false_iff_ne, ne_eq] at *
    all_goals refine ⟨ret_ibr ?_ ?_, by first | exact gg0 | exact gb_trans gg0 gg1⟩
    all_goals first
      | exact hX.out.symm
      | exact hB.out.symm
      | (rw [hX.out]; refine (if_pos ?_).symm; unfold shx; omega)
      | (rw [hX.out]; refine (if_neg ?_).symm; unfold shx; omega)
      | (rw [hB.out]; refine (decide_eq_true ?_).symm; unfold shx; omega)
      | (rw [hB.out]; refine (decide_eq_false ?_).symm; unfold shx; omega)

set_option maxHeartbeats 4000000 in
theorem sh2ny (s : ByteArray) (K W H : Nat) (d0 : Tp.Dp) (z0 : d0.sg < 0) (AT1 EN1 SG1 FR1 TO1 : Nat) (st1 : Int) (n1 o1 : Nat) (l11 : FR1 ≤ TO1) (l12 : TO1 ≤ s.size) (l13 : AT1 ≤ EN1) (l14 : EN1 ≤ s.size) (hn1 : ∀ w, Calls Tryd.prog 22 #[.string (s.extract FR1 TO1)] w fun e w' => e = .returned (.int .i64 (n1 : Nat)) ∧ w' = w) (ho1 : ∀ w, Calls Tryd.prog 22 #[.string (s.extract AT1 EN1)] w fun e w' => e = .returned (.int .i64 (o1 : Nat)) ∧ w' = w) (X : Int) (B : Bool) (hX : Hid (X = (if (shx K st1 n1 o1 W H) then (SG1 : Int) else 0))) (hB : Hid (B = (decide (shx K st1 n1 o1 W H)))) (g c : Nat) (w : World) (hc : Cs w g (dpl d0 ++ dpl ⟨(AT1 : Nat), (EN1 : Nat), st1, (SG1 : Nat), (FR1 : Nat), (TO1 : Nat)⟩)) : Calls Tryd.prog 24 #[.string s, .int .u8 K, .slice (some ⟨g, 0, none⟩) 2 c, .int .i64 W, .int .i64 H] w fun e w' => e = .returned (.tuple #[.int .i64 X, .bool B]) ∧ w.grownBy w' none := by
  have c0 := hc 0 (.int .i64 d0.at_) rfl
  have c1 := hc 1 (.int .i64 d0.en) rfl
  have c2 := hc 2 (.int .i64 d0.st) rfl
  have c3 := hc 3 (.int .i64 d0.sg) rfl
  have c4 := hc 4 (.int .i64 d0.fr) rfl
  have c5 := hc 5 (.int .i64 d0.to) rfl
  have c6 := hc 6 (.int .i64 (AT1 : Nat)) rfl
  have c7 := hc 7 (.int .i64 (EN1 : Nat)) rfl
  have c8 := hc 8 (.int .i64 st1) rfl
  have c9 := hc 9 (.int .i64 (SG1 : Nat)) rfl
  have c10 := hc 10 (.int .i64 (FR1 : Nat)) rfl
  have c11 := hc 11 (.int .i64 (TO1 : Nat)) rfl
  clear hc
  have l11' : (FR1 : Int) ≤ (TO1 : Int) := by omega
  have l12' : (TO1 : Int) ≤ (s.size : Int) := by omega
  have l13' : (AT1 : Int) ≤ (EN1 : Int) := by omega
  have l14' : (EN1 : Int) ≤ (s.size : Int) := by omega
  obtain ⟨V0, hV0, sz0, gg0, B0⟩ := boxn w #[.int .i64 d0.at_, .int .i64 d0.en, .int .i64 d0.st, .int .i64 d0.sg, .int .i64 d0.fr, .int .i64 d0.to] 60
  have b0_0 := B0.cell 0 (v := .int .i64 d0.at_) rfl
  have b0_1 := B0.cell 1 (v := .int .i64 d0.en) rfl
  have b0_2 := B0.cell 2 (v := .int .i64 d0.st) rfl
  have b0_3 := B0.cell 3 (v := .int .i64 d0.sg) rfl
  have b0_4 := B0.cell 4 (v := .int .i64 d0.fr) rfl
  have b0_5 := B0.cell 5 (v := .int .i64 d0.to) rfl
  have e6 : V0.cell? ⟨g, 6, none⟩ = some (.int .i64 (AT1 : Nat)) := gg0.cell c6 (by simp)
  have e7 : V0.cell? ⟨g, 7, none⟩ = some (.int .i64 (EN1 : Nat)) := gg0.cell c7 (by simp)
  have e8 : V0.cell? ⟨g, 8, none⟩ = some (.int .i64 st1) := gg0.cell c8 (by simp)
  have e9 : V0.cell? ⟨g, 9, none⟩ = some (.int .i64 (SG1 : Nat)) := gg0.cell c9 (by simp)
  have e10 : V0.cell? ⟨g, 10, none⟩ = some (.int .i64 (FR1 : Nat)) := gg0.cell c10 (by simp)
  have e11 : V0.cell? ⟨g, 11, none⟩ = some (.int .i64 (TO1 : Nat)) := gg0.cell c11 (by simp)
  obtain ⟨V1, hV1, sz1, gg1, B1⟩ := boxn V0 #[.int .i64 (AT1 : Nat), .int .i64 (EN1 : Nat), .int .i64 st1, .int .i64 (SG1 : Nat), .int .i64 (FR1 : Nat), .int .i64 (TO1 : Nat)] 60
  have b1_0 := B1.cell 0 (v := .int .i64 (AT1 : Nat)) rfl
  have b1_1 := B1.cell 1 (v := .int .i64 (EN1 : Nat)) rfl
  have b1_2 := B1.cell 2 (v := .int .i64 st1) rfl
  have b1_3 := B1.cell 3 (v := .int .i64 (SG1 : Nat)) rfl
  have b1_4 := B1.cell 4 (v := .int .i64 (FR1 : Nat)) rfl
  have b1_5 := B1.cell 5 (v := .int .i64 (TO1 : Nat)) rfl
  rcases (show K = 2 ∨ K = 3 ∨ (K ≠ 2 ∧ K ≠ 3) by omega) with hK | hK | ⟨hK, hK3⟩
  · subst hK
    have k2 : ((((2 : Nat) : Int)) == 2) = true := rfl
    have k3 : ((((2 : Nat) : Int)) == 3) = false := rfl
    go_enter Tryd.func24, Tryd.ntmps24
    go_wp2
    refine wp_loop_rounds 4 ?_
    rw [rounds_succ]; go_wp2_with (first | (fail))
    all_goals try (rw [rounds_succ]; go_wp2_with (first | (go_at_call 22; (fail_if_success (guard_hyp mn1)); have mn1 : True := trivial; refine (hn1 _).mono ?_; rintro e w' ⟨rfl, hw'⟩; subst w') | (go_at_call 22; (fail_if_success (guard_hyp mo1)); have mo1 : True := trivial; refine (ho1 _).mono ?_; rintro e w' ⟨rfl, hw'⟩; subst w')))
    all_goals try (rw [rounds_succ]; go_wp2)
    all_goals go_ret2
    all_goals try simp only [beq_iff_eq, beq_eq_false_iff_ne, ne_eq] at *
    all_goals refine ⟨ret_ibr ?_ ?_, by first | exact gg0 | exact gb_trans gg0 gg1⟩
    all_goals first
      | exact hX.out.symm
      | exact hB.out.symm
      | (rw [hX.out]; refine (if_pos ?_).symm; unfold shx; omega)
      | (rw [hX.out]; refine (if_neg ?_).symm; unfold shx; omega)
      | (rw [hB.out]; refine (decide_eq_true ?_).symm; unfold shx; omega)
      | (rw [hB.out]; refine (decide_eq_false ?_).symm; unfold shx; omega)
  · subst hK
    have k2 : ((((3 : Nat) : Int)) == 2) = false := rfl
    have k3 : ((((3 : Nat) : Int)) == 3) = true := rfl
    go_enter Tryd.func24, Tryd.ntmps24
    go_wp2
    refine wp_loop_rounds 4 ?_
    rw [rounds_succ]; go_wp2_with (first | (fail))
    all_goals try (rw [rounds_succ]; go_wp2_with (first | (go_at_call 22; (fail_if_success (guard_hyp mn1)); have mn1 : True := trivial; refine (hn1 _).mono ?_; rintro e w' ⟨rfl, hw'⟩; subst w') | (go_at_call 22; (fail_if_success (guard_hyp mo1)); have mo1 : True := trivial; refine (ho1 _).mono ?_; rintro e w' ⟨rfl, hw'⟩; subst w')))
    all_goals try (rw [rounds_succ]; go_wp2)
    all_goals go_ret2
    all_goals try simp only [beq_iff_eq, beq_eq_false_iff_ne, ne_eq] at *
    all_goals refine ⟨ret_ibr ?_ ?_, by first | exact gg0 | exact gb_trans gg0 gg1⟩
    all_goals first
      | exact hX.out.symm
      | exact hB.out.symm
      | (rw [hX.out]; refine (if_pos ?_).symm; unfold shx; omega)
      | (rw [hX.out]; refine (if_neg ?_).symm; unfold shx; omega)
      | (rw [hB.out]; refine (decide_eq_true ?_).symm; unfold shx; omega)
      | (rw [hB.out]; refine (decide_eq_false ?_).symm; unfold shx; omega)
  · have k2 : ((K : Int) == 2) = false := beq_eq_false_iff_ne.2 (by omega)
    have k3 : ((K : Int) == 3) = false := beq_eq_false_iff_ne.2 (by omega)
    have k2n : ((K : Int) != 2) = true := by simp [bne, k2]
    have k3n : ((K : Int) != 3) = true := by simp [bne, k3]
    go_enter Tryd.func24, Tryd.ntmps24
    go_wp2
    refine wp_loop_rounds 4 ?_
    rw [rounds_succ]; go_wp2_with (first | (fail))
    all_goals try (rw [rounds_succ]; go_wp2_with (first | (go_at_call 22; (fail_if_success (guard_hyp mn1)); have mn1 : True := trivial; refine (hn1 _).mono ?_; rintro e w' ⟨rfl, hw'⟩; subst w') | (go_at_call 22; (fail_if_success (guard_hyp mo1)); have mo1 : True := trivial; refine (ho1 _).mono ?_; rintro e w' ⟨rfl, hw'⟩; subst w')))
    all_goals try (rw [rounds_succ]; go_wp2)
    all_goals go_ret2
    all_goals try simp only [beq_iff_eq, beq_eq_false_iff_ne, ne_eq] at *
    all_goals refine ⟨ret_ibr ?_ ?_, by first | exact gg0 | exact gb_trans gg0 gg1⟩
    all_goals first
      | exact hX.out.symm
      | exact hB.out.symm
      | (rw [hX.out]; refine (if_pos ?_).symm; unfold shx; omega)
      | (rw [hX.out]; refine (if_neg ?_).symm; unfold shx; omega)
      | (rw [hB.out]; refine (decide_eq_true ?_).symm; unfold shx; omega)
      | (rw [hB.out]; refine (decide_eq_false ?_).symm; unfold shx; omega)

set_option maxHeartbeats 4000000 in
theorem sh2yn (s : ByteArray) (K W H : Nat) (AT0 EN0 SG0 FR0 TO0 : Nat) (st0 : Int) (n0 o0 : Nat) (l01 : FR0 ≤ TO0) (l02 : TO0 ≤ s.size) (l03 : AT0 ≤ EN0) (l04 : EN0 ≤ s.size) (hn0 : ∀ w, Calls Tryd.prog 22 #[.string (s.extract FR0 TO0)] w fun e w' => e = .returned (.int .i64 (n0 : Nat)) ∧ w' = w) (ho0 : ∀ w, Calls Tryd.prog 22 #[.string (s.extract AT0 EN0)] w fun e w' => e = .returned (.int .i64 (o0 : Nat)) ∧ w' = w) (d1 : Tp.Dp) (z1 : d1.sg < 0) (X : Int) (B : Bool) (hX : Hid (X = (if (shx K st0 n0 o0 W H) then (SG0 : Int) else 0))) (hB : Hid (B = (decide (shx K st0 n0 o0 W H)))) (g c : Nat) (w : World) (hc : Cs w g (dpl ⟨(AT0 : Nat), (EN0 : Nat), st0, (SG0 : Nat), (FR0 : Nat), (TO0 : Nat)⟩ ++ dpl d1)) : Calls Tryd.prog 24 #[.string s, .int .u8 K, .slice (some ⟨g, 0, none⟩) 2 c, .int .i64 W, .int .i64 H] w fun e w' => e = .returned (.tuple #[.int .i64 X, .bool B]) ∧ w.grownBy w' none := by
  have c0 := hc 0 (.int .i64 (AT0 : Nat)) rfl
  have c1 := hc 1 (.int .i64 (EN0 : Nat)) rfl
  have c2 := hc 2 (.int .i64 st0) rfl
  have c3 := hc 3 (.int .i64 (SG0 : Nat)) rfl
  have c4 := hc 4 (.int .i64 (FR0 : Nat)) rfl
  have c5 := hc 5 (.int .i64 (TO0 : Nat)) rfl
  have c6 := hc 6 (.int .i64 d1.at_) rfl
  have c7 := hc 7 (.int .i64 d1.en) rfl
  have c8 := hc 8 (.int .i64 d1.st) rfl
  have c9 := hc 9 (.int .i64 d1.sg) rfl
  have c10 := hc 10 (.int .i64 d1.fr) rfl
  have c11 := hc 11 (.int .i64 d1.to) rfl
  clear hc
  have l01' : (FR0 : Int) ≤ (TO0 : Int) := by omega
  have l02' : (TO0 : Int) ≤ (s.size : Int) := by omega
  have l03' : (AT0 : Int) ≤ (EN0 : Int) := by omega
  have l04' : (EN0 : Int) ≤ (s.size : Int) := by omega
  obtain ⟨V0, hV0, sz0, gg0, B0⟩ := boxn w #[.int .i64 (AT0 : Nat), .int .i64 (EN0 : Nat), .int .i64 st0, .int .i64 (SG0 : Nat), .int .i64 (FR0 : Nat), .int .i64 (TO0 : Nat)] 60
  have b0_0 := B0.cell 0 (v := .int .i64 (AT0 : Nat)) rfl
  have b0_1 := B0.cell 1 (v := .int .i64 (EN0 : Nat)) rfl
  have b0_2 := B0.cell 2 (v := .int .i64 st0) rfl
  have b0_3 := B0.cell 3 (v := .int .i64 (SG0 : Nat)) rfl
  have b0_4 := B0.cell 4 (v := .int .i64 (FR0 : Nat)) rfl
  have b0_5 := B0.cell 5 (v := .int .i64 (TO0 : Nat)) rfl
  have e6 : V0.cell? ⟨g, 6, none⟩ = some (.int .i64 d1.at_) := gg0.cell c6 (by simp)
  have e7 : V0.cell? ⟨g, 7, none⟩ = some (.int .i64 d1.en) := gg0.cell c7 (by simp)
  have e8 : V0.cell? ⟨g, 8, none⟩ = some (.int .i64 d1.st) := gg0.cell c8 (by simp)
  have e9 : V0.cell? ⟨g, 9, none⟩ = some (.int .i64 d1.sg) := gg0.cell c9 (by simp)
  have e10 : V0.cell? ⟨g, 10, none⟩ = some (.int .i64 d1.fr) := gg0.cell c10 (by simp)
  have e11 : V0.cell? ⟨g, 11, none⟩ = some (.int .i64 d1.to) := gg0.cell c11 (by simp)
  obtain ⟨V1, hV1, sz1, gg1, B1⟩ := boxn V0 #[.int .i64 d1.at_, .int .i64 d1.en, .int .i64 d1.st, .int .i64 d1.sg, .int .i64 d1.fr, .int .i64 d1.to] 60
  have b1_0 := B1.cell 0 (v := .int .i64 d1.at_) rfl
  have b1_1 := B1.cell 1 (v := .int .i64 d1.en) rfl
  have b1_2 := B1.cell 2 (v := .int .i64 d1.st) rfl
  have b1_3 := B1.cell 3 (v := .int .i64 d1.sg) rfl
  have b1_4 := B1.cell 4 (v := .int .i64 d1.fr) rfl
  have b1_5 := B1.cell 5 (v := .int .i64 d1.to) rfl
  rcases (show K = 2 ∨ K = 3 ∨ (K ≠ 2 ∧ K ≠ 3) by omega) with hK | hK | ⟨hK, hK3⟩
  · subst hK
    have k2 : ((((2 : Nat) : Int)) == 2) = true := rfl
    have k3 : ((((2 : Nat) : Int)) == 3) = false := rfl
    go_enter Tryd.func24, Tryd.ntmps24
    go_wp2
    refine wp_loop_rounds 4 ?_
    rw [rounds_succ]; go_wp2_with (first | (go_at_call 22; (fail_if_success (guard_hyp mn0)); have mn0 : True := trivial; refine (hn0 _).mono ?_; rintro e w' ⟨rfl, hw'⟩; subst w') | (go_at_call 22; (fail_if_success (guard_hyp mo0)); have mo0 : True := trivial; refine (ho0 _).mono ?_; rintro e w' ⟨rfl, hw'⟩; subst w'))
    all_goals try (rw [rounds_succ]; go_wp2_with (first | (fail)))
    all_goals try (rw [rounds_succ]; go_wp2)
    all_goals go_ret2
    all_goals try simp only [beq_iff_eq, beq_eq_false_iff_ne, ne_eq] at *
    all_goals refine ⟨ret_ibr ?_ ?_, by first | exact gg0 | exact gb_trans gg0 gg1⟩
    all_goals first
      | exact hX.out.symm
      | exact hB.out.symm
      | (rw [hX.out]; refine (if_pos ?_).symm; unfold shx; omega)
      | (rw [hX.out]; refine (if_neg ?_).symm; unfold shx; omega)
      | (rw [hB.out]; refine (decide_eq_true ?_).symm; unfold shx; omega)
      | (rw [hB.out]; refine (decide_eq_false ?_).symm; unfold shx; omega)
  · subst hK
    have k2 : ((((3 : Nat) : Int)) == 2) = false := rfl
    have k3 : ((((3 : Nat) : Int)) == 3) = true := rfl
    go_enter Tryd.func24, Tryd.ntmps24
    go_wp2
    refine wp_loop_rounds 4 ?_
    rw [rounds_succ]; go_wp2_with (first | (go_at_call 22; (fail_if_success (guard_hyp mn0)); have mn0 : True := trivial; refine (hn0 _).mono ?_; rintro e w' ⟨rfl, hw'⟩; subst w') | (go_at_call 22; (fail_if_success (guard_hyp mo0)); have mo0 : True := trivial; refine (ho0 _).mono ?_; rintro e w' ⟨rfl, hw'⟩; subst w'))
    all_goals try (rw [rounds_succ]; go_wp2_with (first | (fail)))
    all_goals try (rw [rounds_succ]; go_wp2)
    all_goals go_ret2
    all_goals try simp only [beq_iff_eq, beq_eq_false_iff_ne, ne_eq] at *
    all_goals refine ⟨ret_ibr ?_ ?_, by first | exact gg0 | exact gb_trans gg0 gg1⟩
    all_goals first
      | exact hX.out.symm
      | exact hB.out.symm
      | (rw [hX.out]; refine (if_pos ?_).symm; unfold shx; omega)
      | (rw [hX.out]; refine (if_neg ?_).symm; unfold shx; omega)
      | (rw [hB.out]; refine (decide_eq_true ?_).symm; unfold shx; omega)
      | (rw [hB.out]; refine (decide_eq_false ?_).symm; unfold shx; omega)
  · have k2 : ((K : Int) == 2) = false := beq_eq_false_iff_ne.2 (by omega)
    have k3 : ((K : Int) == 3) = false := beq_eq_false_iff_ne.2 (by omega)
    have k2n : ((K : Int) != 2) = true := by simp [bne, k2]
    have k3n : ((K : Int) != 3) = true := by simp [bne, k3]
    go_enter Tryd.func24, Tryd.ntmps24
    go_wp2
    refine wp_loop_rounds 4 ?_
    rw [rounds_succ]; go_wp2_with (first | (go_at_call 22; (fail_if_success (guard_hyp mn0)); have mn0 : True := trivial; refine (hn0 _).mono ?_; rintro e w' ⟨rfl, hw'⟩; subst w') | (go_at_call 22; (fail_if_success (guard_hyp mo0)); have mo0 : True := trivial; refine (ho0 _).mono ?_; rintro e w' ⟨rfl, hw'⟩; subst w'))
    all_goals try (rw [rounds_succ]; go_wp2_with (first | (fail)))
    all_goals try (rw [rounds_succ]; go_wp2)
    all_goals go_ret2
    all_goals try simp only [beq_iff_eq, beq_eq_false_iff_ne, ne_eq] at *
    all_goals refine ⟨ret_ibr ?_ ?_, by first | exact gg0 | exact gb_trans gg0 gg1⟩
    all_goals first
      | exact hX.out.symm
      | exact hB.out.symm
      | (rw [hX.out]; refine (if_pos ?_).symm; unfold shx; omega)
      | (rw [hX.out]; refine (if_neg ?_).symm; unfold shx; omega)
      | (rw [hB.out]; refine (decide_eq_true ?_).symm; unfold shx; omega)
      | (rw [hB.out]; refine (decide_eq_false ?_).symm; unfold shx; omega)

set_option maxHeartbeats 4000000 in
theorem sh2yy (s : ByteArray) (K W H : Nat) (AT0 EN0 SG0 FR0 TO0 : Nat) (st0 : Int) (n0 o0 : Nat) (l01 : FR0 ≤ TO0) (l02 : TO0 ≤ s.size) (l03 : AT0 ≤ EN0) (l04 : EN0 ≤ s.size) (hn0 : ∀ w, Calls Tryd.prog 22 #[.string (s.extract FR0 TO0)] w fun e w' => e = .returned (.int .i64 (n0 : Nat)) ∧ w' = w) (ho0 : ∀ w, Calls Tryd.prog 22 #[.string (s.extract AT0 EN0)] w fun e w' => e = .returned (.int .i64 (o0 : Nat)) ∧ w' = w) (AT1 EN1 SG1 FR1 TO1 : Nat) (st1 : Int) (n1 o1 : Nat) (l11 : FR1 ≤ TO1) (l12 : TO1 ≤ s.size) (l13 : AT1 ≤ EN1) (l14 : EN1 ≤ s.size) (hn1 : ∀ w, Calls Tryd.prog 22 #[.string (s.extract FR1 TO1)] w fun e w' => e = .returned (.int .i64 (n1 : Nat)) ∧ w' = w) (ho1 : ∀ w, Calls Tryd.prog 22 #[.string (s.extract AT1 EN1)] w fun e w' => e = .returned (.int .i64 (o1 : Nat)) ∧ w' = w) (X : Int) (B : Bool) (hX : Hid (X = (if (shx K st0 n0 o0 W H) then (SG0 : Int) else (SG1 : Int)))) (hB : Hid (B = true)) (g c : Nat) (w : World) (hc : Cs w g (dpl ⟨(AT0 : Nat), (EN0 : Nat), st0, (SG0 : Nat), (FR0 : Nat), (TO0 : Nat)⟩ ++ dpl ⟨(AT1 : Nat), (EN1 : Nat), st1, (SG1 : Nat), (FR1 : Nat), (TO1 : Nat)⟩)) : Calls Tryd.prog 24 #[.string s, .int .u8 K, .slice (some ⟨g, 0, none⟩) 2 c, .int .i64 W, .int .i64 H] w fun e w' => e = .returned (.tuple #[.int .i64 X, .bool B]) ∧ w.grownBy w' none := by
  have c0 := hc 0 (.int .i64 (AT0 : Nat)) rfl
  have c1 := hc 1 (.int .i64 (EN0 : Nat)) rfl
  have c2 := hc 2 (.int .i64 st0) rfl
  have c3 := hc 3 (.int .i64 (SG0 : Nat)) rfl
  have c4 := hc 4 (.int .i64 (FR0 : Nat)) rfl
  have c5 := hc 5 (.int .i64 (TO0 : Nat)) rfl
  have c6 := hc 6 (.int .i64 (AT1 : Nat)) rfl
  have c7 := hc 7 (.int .i64 (EN1 : Nat)) rfl
  have c8 := hc 8 (.int .i64 st1) rfl
  have c9 := hc 9 (.int .i64 (SG1 : Nat)) rfl
  have c10 := hc 10 (.int .i64 (FR1 : Nat)) rfl
  have c11 := hc 11 (.int .i64 (TO1 : Nat)) rfl
  clear hc
  have l01' : (FR0 : Int) ≤ (TO0 : Int) := by omega
  have l02' : (TO0 : Int) ≤ (s.size : Int) := by omega
  have l03' : (AT0 : Int) ≤ (EN0 : Int) := by omega
  have l04' : (EN0 : Int) ≤ (s.size : Int) := by omega
  have l11' : (FR1 : Int) ≤ (TO1 : Int) := by omega
  have l12' : (TO1 : Int) ≤ (s.size : Int) := by omega
  have l13' : (AT1 : Int) ≤ (EN1 : Int) := by omega
  have l14' : (EN1 : Int) ≤ (s.size : Int) := by omega
  obtain ⟨V0, hV0, sz0, gg0, B0⟩ := boxn w #[.int .i64 (AT0 : Nat), .int .i64 (EN0 : Nat), .int .i64 st0, .int .i64 (SG0 : Nat), .int .i64 (FR0 : Nat), .int .i64 (TO0 : Nat)] 60
  have b0_0 := B0.cell 0 (v := .int .i64 (AT0 : Nat)) rfl
  have b0_1 := B0.cell 1 (v := .int .i64 (EN0 : Nat)) rfl
  have b0_2 := B0.cell 2 (v := .int .i64 st0) rfl
  have b0_3 := B0.cell 3 (v := .int .i64 (SG0 : Nat)) rfl
  have b0_4 := B0.cell 4 (v := .int .i64 (FR0 : Nat)) rfl
  have b0_5 := B0.cell 5 (v := .int .i64 (TO0 : Nat)) rfl
  have e6 : V0.cell? ⟨g, 6, none⟩ = some (.int .i64 (AT1 : Nat)) := gg0.cell c6 (by simp)
  have e7 : V0.cell? ⟨g, 7, none⟩ = some (.int .i64 (EN1 : Nat)) := gg0.cell c7 (by simp)
  have e8 : V0.cell? ⟨g, 8, none⟩ = some (.int .i64 st1) := gg0.cell c8 (by simp)
  have e9 : V0.cell? ⟨g, 9, none⟩ = some (.int .i64 (SG1 : Nat)) := gg0.cell c9 (by simp)
  have e10 : V0.cell? ⟨g, 10, none⟩ = some (.int .i64 (FR1 : Nat)) := gg0.cell c10 (by simp)
  have e11 : V0.cell? ⟨g, 11, none⟩ = some (.int .i64 (TO1 : Nat)) := gg0.cell c11 (by simp)
  obtain ⟨V1, hV1, sz1, gg1, B1⟩ := boxn V0 #[.int .i64 (AT1 : Nat), .int .i64 (EN1 : Nat), .int .i64 st1, .int .i64 (SG1 : Nat), .int .i64 (FR1 : Nat), .int .i64 (TO1 : Nat)] 60
  have b1_0 := B1.cell 0 (v := .int .i64 (AT1 : Nat)) rfl
  have b1_1 := B1.cell 1 (v := .int .i64 (EN1 : Nat)) rfl
  have b1_2 := B1.cell 2 (v := .int .i64 st1) rfl
  have b1_3 := B1.cell 3 (v := .int .i64 (SG1 : Nat)) rfl
  have b1_4 := B1.cell 4 (v := .int .i64 (FR1 : Nat)) rfl
  have b1_5 := B1.cell 5 (v := .int .i64 (TO1 : Nat)) rfl
  rcases (show K = 2 ∨ K = 3 ∨ (K ≠ 2 ∧ K ≠ 3) by omega) with hK | hK | ⟨hK, hK3⟩
  · subst hK
    have k2 : ((((2 : Nat) : Int)) == 2) = true := rfl
    have k3 : ((((2 : Nat) : Int)) == 3) = false := rfl
    go_enter Tryd.func24, Tryd.ntmps24
    go_wp2
    refine wp_loop_rounds 4 ?_
    rw [rounds_succ]; go_wp2_with (first | (go_at_call 22; (fail_if_success (guard_hyp mn0)); have mn0 : True := trivial; refine (hn0 _).mono ?_; rintro e w' ⟨rfl, hw'⟩; subst w') | (go_at_call 22; (fail_if_success (guard_hyp mo0)); have mo0 : True := trivial; refine (ho0 _).mono ?_; rintro e w' ⟨rfl, hw'⟩; subst w'))
    all_goals try (rw [rounds_succ]; go_wp2_with (first | (go_at_call 22; (fail_if_success (guard_hyp mn1)); have mn1 : True := trivial; refine (hn1 _).mono ?_; rintro e w' ⟨rfl, hw'⟩; subst w') | (go_at_call 22; (fail_if_success (guard_hyp mo1)); have mo1 : True := trivial; refine (ho1 _).mono ?_; rintro e w' ⟨rfl, hw'⟩; subst w')))
    all_goals try (rw [rounds_succ]; go_wp2)
    all_goals go_ret2
    all_goals try simp only [beq_iff_eq, beq_eq_false_iff_ne, ne_eq] at *
    all_goals refine ⟨ret_ibr ?_ ?_, by first | exact gg0 | exact gb_trans gg0 gg1⟩
    all_goals first
      | exact hX.out.symm
      | exact hB.out.symm
      | (rw [hX.out]; refine (if_pos ?_).symm; unfold shx; omega)
      | (rw [hX.out]; refine (if_neg ?_).symm; unfold shx; omega)
      | (rw [hB.out]; refine (decide_eq_true ?_).symm; unfold shx; omega)
      | (rw [hB.out]; refine (decide_eq_false ?_).symm; unfold shx; omega)
  · subst hK
    have k2 : ((((3 : Nat) : Int)) == 2) = false := rfl
    have k3 : ((((3 : Nat) : Int)) == 3) = true := rfl
    go_enter Tryd.func24, Tryd.ntmps24
    go_wp2
    refine wp_loop_rounds 4 ?_
    rw [rounds_succ]; go_wp2_with (first | (go_at_call 22; (fail_if_success (guard_hyp mn0)); have mn0 : True := trivial; refine (hn0 _).mono ?_; rintro e w' ⟨rfl, hw'⟩; subst w') | (go_at_call 22; (fail_if_success (guard_hyp mo0)); have mo0 : True := trivial; refine (ho0 _).mono ?_; rintro e w' ⟨rfl, hw'⟩; subst w'))
    all_goals try (rw [rounds_succ]; go_wp2_with (first | (go_at_call 22; (fail_if_success (guard_hyp mn1)); have mn1 : True := trivial; refine (hn1 _).mono ?_; rintro e w' ⟨rfl, hw'⟩; subst w') | (go_at_call 22; (fail_if_success (guard_hyp mo1)); have mo1 : True := trivial; refine (ho1 _).mono ?_; rintro e w' ⟨rfl, hw'⟩; subst w')))
    all_goals try (rw [rounds_succ]; go_wp2)
    all_goals go_ret2
    all_goals try simp only [beq_iff_eq, beq_eq_false_iff_ne, ne_eq] at *
    all_goals refine ⟨ret_ibr ?_ ?_, by first | exact gg0 | exact gb_trans gg0 gg1⟩
    all_goals first
      | exact hX.out.symm
      | exact hB.out.symm
      | (rw [hX.out]; refine (if_pos ?_).symm; unfold shx; omega)
      | (rw [hX.out]; refine (if_neg ?_).symm; unfold shx; omega)
      | (rw [hB.out]; refine (decide_eq_true ?_).symm; unfold shx; omega)
      | (rw [hB.out]; refine (decide_eq_false ?_).symm; unfold shx; omega)
  · have k2 : ((K : Int) == 2) = false := beq_eq_false_iff_ne.2 (by omega)
    have k3 : ((K : Int) == 3) = false := beq_eq_false_iff_ne.2 (by omega)
    have k2n : ((K : Int) != 2) = true := by simp [bne, k2]
    have k3n : ((K : Int) != 3) = true := by simp [bne, k3]
    go_enter Tryd.func24, Tryd.ntmps24
    go_wp2
    refine wp_loop_rounds 4 ?_
    rw [rounds_succ]; go_wp2_with (first | (go_at_call 22; (fail_if_success (guard_hyp mn0)); have mn0 : True := trivial; refine (hn0 _).mono ?_; rintro e w' ⟨rfl, hw'⟩; subst w') | (go_at_call 22; (fail_if_success (guard_hyp mo0)); have mo0 : True := trivial; refine (ho0 _).mono ?_; rintro e w' ⟨rfl, hw'⟩; subst w'))
    all_goals try (rw [rounds_succ]; go_wp2_with (first | (go_at_call 22; (fail_if_success (guard_hyp mn1)); have mn1 : True := trivial; refine (hn1 _).mono ?_; rintro e w' ⟨rfl, hw'⟩; subst w') | (go_at_call 22; (fail_if_success (guard_hyp mo1)); have mo1 : True := trivial; refine (ho1 _).mono ?_; rintro e w' ⟨rfl, hw'⟩; subst w')))
    all_goals try (rw [rounds_succ]; go_wp2)
    all_goals go_ret2
    all_goals try simp only [beq_iff_eq, beq_eq_false_iff_ne, ne_eq] at *
    all_goals refine ⟨ret_ibr ?_ ?_, by first | exact gg0 | exact gb_trans gg0 gg1⟩
    all_goals first
      | exact hX.out.symm
      | exact hB.out.symm
      | (rw [hX.out]; refine (if_pos ?_).symm; unfold shx; omega)
      | (rw [hX.out]; refine (if_neg ?_).symm; unfold shx; omega)
      | (rw [hB.out]; refine (decide_eq_true ?_).symm; unfold shx; omega)
      | (rw [hB.out]; refine (decide_eq_false ?_).symm; unfold shx; omega)
end Go.Proofs.YteegbhnfkcbnoaaDoor
