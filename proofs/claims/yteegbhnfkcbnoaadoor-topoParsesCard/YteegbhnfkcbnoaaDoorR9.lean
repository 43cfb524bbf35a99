/- What the document's shift answers. -/
import Derived.Test.YteegbhnfkcbnoaaDoorR8
namespace Go.Proofs.YteegbhnfkcbnoaaDoor
open Go.RowKit
set_option linter.unusedVariables false
set_option linter.unusedSimpArgs false
set_option maxRecDepth 100000

set_option maxHeartbeats 2000000 in
theorem shift1n (s : ByteArray) (K W H : Nat) (p : Tp.Dp) (h1 : p.sg < 0) (g c : Nat) (w : World) (hc : Cs w g (dpl p)) : Calls Tryd.prog 24 #[.string s, .int .u8 K, .slice (some ⟨g, 0, none⟩) 1 c, .int .i64 W, .int .i64 H] w fun e w' => e = .returned (.tuple #[.int .i64 0, .bool false]) ∧ w.grownBy w' none := by
  have c0 := hc 0 (.int .i64 p.at_) rfl
  have c1 := hc 1 (.int .i64 p.en) rfl
  have c2 := hc 2 (.int .i64 p.st) rfl
  have c3 := hc 3 (.int .i64 p.sg) rfl
  have c4 := hc 4 (.int .i64 p.fr) rfl
  have c5 := hc 5 (.int .i64 p.to) rfl
  clear hc
  obtain ⟨W1, hW1, sz1, g1, B1⟩ := boxn w (dpv p) 60
  have b0 := B1.cell 0 (v := .int .i64 p.at_) rfl
  have b1 := B1.cell 1 (v := .int .i64 p.en) rfl
  have b2 := B1.cell 2 (v := .int .i64 p.st) rfl
  have b3 := B1.cell 3 (v := .int .i64 p.sg) rfl
  have b4 := B1.cell 4 (v := .int .i64 p.fr) rfl
  have b5 := B1.cell 5 (v := .int .i64 p.to) rfl
  go_enter Tryd.func24, Tryd.ntmps24
  go_wp2
  refine wp_loop_rounds 3 ?_
  rw [rounds_succ]
  go_wp2
  rw [rounds_succ]
  go_wp2
  go_ret2
  exact ⟨rfl, g1⟩

/-- Is a shift wrong? -/
def shx (K : Nat) (st : Int) (n own W H : Nat) : Prop := (K ≠ 2 ∧ K ≠ 3) ∨ (K = 3 ∧ st < 0) ∨ own ≤ n ∨ (K = 2 ∧ (n = 0 ∨ W = 0 ∨ H = 0))

instance (K : Nat) (st : Int) (n own W H : Nat) : Decidable (shx K st n own W H) := by unfold shx; infer_instance

set_option maxHeartbeats 4000000 in
theorem sh1y (s : ByteArray) (K W H : Nat) (AT0 EN0 SG0 FR0 TO0 : Nat) (st0 : Int) (n0 o0 : Nat) (l01 : FR0 ≤ TO0) (l02 : TO0 ≤ s.size) (l03 : AT0 ≤ EN0) (l04 : EN0 ≤ s.size) (hn0 : ∀ w, Calls Tryd.prog 22 #[.string (s.extract FR0 TO0)] w fun e w' => e = .returned (.int .i64 (n0 : Nat)) ∧ w' = w) (ho0 : ∀ w, Calls Tryd.prog 22 #[.string (s.extract AT0 EN0)] w fun e w' => e = .returned (.int .i64 (o0 : Nat)) ∧ w' = w) (X : Int) (B : Bool) (hX : Hid (X = (if (shx K st0 n0 o0 W H) then (SG0 : Int) else 0))) (hB : Hid (B = (decide (shx K st0 n0 o0 W H)))) (g c : Nat) (w : World) (hc : Cs w g (dpl ⟨(AT0 : Nat), (EN0 : Nat), st0, (SG0 : Nat), (FR0 : Nat), (TO0 : Nat)⟩)) : Calls Tryd.prog 24 #[.string s, .int .u8 K, .slice (some ⟨g, 0, none⟩) 1 c, .int .i64 W, .int .i64 H] w fun e w' => e = .returned (.tuple #[.int .i64 X, .bool B]) ∧ w.grownBy w' none := by
  have c0 := hc 0 (.int .i64 (AT0 : Nat)) rfl
  have c1 := hc 1 (.int .i64 (EN0 : Nat)) rfl
  have c2 := hc 2 (.int .i64 st0) rfl
  have c3 := hc 3 (.int .i64 (SG0 : Nat)) rfl
  have c4 := hc 4 (.int .i64 (FR0 : Nat)) rfl
  have c5 := hc 5 (.int .i64 (TO0 : Nat)) rfl
  clear hc
  have l01' : (FR0 : Int) ≤ (TO0 : Int) := by omega
  have l02' : (TO0 : Int) ≤ (s.size : Int) := by omega
  have l03' : (AT0 : Int) ≤ (EN0 : Int) := by omega
  have l04' : (EN0 : Int) ≤ (s.size : Int) := by omega
  obtain ⟨V0, hV0, sz0, gg0, B0⟩ := boxn w #[.int .i64 (AT0 : Nat), .int .i64 (EN0 : Nat), .int .i64 st0, .int .i64 (SG0 : Nat), .int .i64 (FR0 : Nat), .int .i64 (TO0 : Nat)] 60
  have b0_0 := B0.cell 0 (v := .int .i64 (AT0 : Nat)) rfl
  have b0_1 := B0.cell 1 (v := .int .i64 (EN0 : Nat)) rfl
  have b0_2 := B0.cell 2 (v := .int .i64 st0) rfl
  have b0_3 := B0.cell 3 (v := .int .i64 (SG0 : Nat)) rfl
  have b0_4 := B0.cell 4 (v := .int .i64 (FR0 : Nat)) rfl
  have b0_5 := B0.cell 5 (v := .int .i64 (TO0 : Nat)) rfl
  rcases (show K = 2 ∨ K = 3 ∨ (K ≠ 2 ∧ K ≠ 3) by omega) with hK | hK | ⟨hK, hK3⟩
  · subst hK
    have k2 : ((((2 : Nat) : Int)) == 2) = true := rfl
    have k3 : ((((2 : Nat) : Int)) == 3) = false := rfl
    go_enter Tryd.func24, Tryd.ntmps24
    go_wp2
    refine wp_loop_rounds 3 ?_
    rw [rounds_succ]; go_wp2_with (first | (go_at_call 22; (fail_if_success (guard_hyp mn0)); have mn0 : True := trivial; refine (hn0 _).mono ?_; rintro e w' ⟨rfl, hw'⟩; subst w') | (go_at_call 22; (fail_if_success (guard_hyp mo0)); have mo0 : True := trivial; refine (ho0 _).mono ?_; rintro e w' ⟨rfl, hw'⟩; subst w'))
    all_goals try (rw [rounds_succ]; go_wp2)
    all_goals go_ret2
    all_goals try simp only [beq_iff_eq, beq_eq_false_iff_ne, ne_eq] at *
    all_goals refine ⟨ret_ibr ?_ ?_, by first | exact gg0⟩
    all_goals first
      | exact hX.out.symm
      | exact hB.out.symm
      | (rw [hX.out]; refine (if_pos ?_).symm; unfold shx; omega)
      | (rw [hX.out]; refine (if_neg ?_).symm; unfold shx; omega)
      | (rw [hB.out]; refine (decide_eq_true ?_).symm; unfold shx; omega)
      | (rw [hB.out]; refine (decide_eq_false ?_).symm; unfold shx; omega)
  · subst hK
    have k2 : ((((3 : Nat) : Int)) == 2) = false := rfl
    have k3 : ((((3 : Nat) : Int)) == 3) = true := rfl
    go_enter Tryd.func24, Tryd.ntmps24
    go_wp2
    refine wp_loop_rounds 3 ?_
    rw [rounds_succ]; go_wp2_with (first | (go_at_call 22; (fail_if_success (guard_hyp mn0)); have mn0 : True := trivial; refine (hn0 _).mono ?_; rintro e w' ⟨rfl, hw'⟩; subst w') | (go_at_call 22; (fail_if_success (guard_hyp mo0)); have mo0 : True := trivial; refine (ho0 _).mono ?_; rintro e w' ⟨rfl, hw'⟩; subst w'))
    all_goals try (rw [rounds_succ]; go_wp2)
    all_goals go_ret2
    all_goals try simp only [beq_iff_eq, beq_eq_false_iff_ne, ne_eq] at *
    all_goals refine ⟨ret_ibr ?_ ?_, by first | exact gg0⟩
    all_goals first
      | exact hX.out.symm
      | exact hB.out.symm
      | (rw [hX.out]; refine (if_pos ?_).symm; unfold shx; omega)
      | (rw [hX.out]; refine (if_neg ?_).symm; unfold shx; omega)
      | (rw [hB.out]; refine (decide_eq_true ?_).symm; unfold shx; omega)
      | (rw [hB.out]; refine (decide_eq_false ?_).symm; unfold shx; omega)
  · have k2 : ((K : Int) == 2) = false := beq_eq_false_iff_ne.2 (by omega)
    have k3 : ((K : Int) == 3) = false := beq_eq_false_iff_ne.2 (by omega)
    have k2n : ((K : Int) != 2) = true := by simp [bne, k2]
    have k3n : ((K : Int) != 3) = true := by simp [bne, k3]
    go_enter Tryd.func24, Tryd.ntmps24
    go_wp2
    refine wp_loop_rounds 3 ?_
    rw [rounds_succ]; go_wp2_with (first | (go_at_call 22; (fail_if_success (guard_hyp mn0)); have mn0 : True := trivial; refine (hn0 _).mono ?_; rintro e w' ⟨rfl, hw'⟩; subst w') | (go_at_call 22; (fail_if_success (guard_hyp mo0)); have mo0 : True := trivial; refine (ho0 _).mono ?_; rintro e w' ⟨rfl, hw'⟩; subst w'))
    all_goals try (rw [rounds_succ]; go_wp2)
    all_goals go_ret2
    all_goals try simp only [beq_iff_eq, beq_eq_false_iff_ne, ne_eq] at *
    all_goals refine ⟨ret_ibr ?_ ?_, by first | exact gg0⟩
    all_goals first
      | exact hX.out.symm
      | exact hB.out.symm
      | (rw [hX.out]; refine (if_pos ?_).symm; unfold shx; omega)
      | (rw [hX.out]; refine (if_neg ?_).symm; unfold shx; omega)
      | (rw [hB.out]; refine (decide_eq_true ?_).symm; unfold shx; omega)
      | (rw [hB.out]; refine (decide_eq_false ?_).symm; unfold shx; omega)
end Go.Proofs.YteegbhnfkcbnoaaDoor
