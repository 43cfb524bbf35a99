/- alive: some answers that the document fixes. -/
import Derived.Test.YtjacoifhjfipaaaEx
namespace Go.Proofs.Ytjacoifhjfipaaa
open Go.RowKit Ln
set_option linter.unusedVariables false
set_option linter.unusedSimpArgs false
set_option maxRecDepth 100000

set_option maxHeartbeats 4000000 in
theorem aliveC (w : World) : Calls Try.prog 9 #[] w fun e w' => e = .returned (.bool true) ∧ w.grownBy w' none := by
  obtain ⟨T, hT⟩ : ∃ T : ByteArray, T = ⟨#[46, 79, 10, 226, 160, 130, 46, 10]⟩ := ⟨_, rfl⟩
  have hst : T.toList = [46, 79, 10, 226, 160, 130, 46, 10] := by rw [hT, Lib.toList_data]
  have HT : Hid (T = ⟨#[46, 79, 10, 226, 160, 130, 46, 10]⟩) := hT
  clear hT
  go_enter Try.func9, Try.ntmps9
  go_wp2_with (first
    | (go_at_call 10; (fail_if_success (guard_hyp m1)); refine (readAll ⟨#[33, 97, 10, 46, 79, 46, 10, 46, 46, 42, 10]⟩ w).mono ?_; rintro e w1 ⟨v1, he, o1, g1⟩; rw [ex1E, ex1P] at he; rw [ex1C] at o1; subst he; obtain ⟨sp1, cp1, rfl, ce1, _⟩ := ce_of o1; have CE1 : Hid (Ce w1 sp1 [(1, 0, 1), (2, 1, 1)]) := ce1; clear ce1 o1; have m1 : True := trivial; obtain ⟨W2, hW2, sW2, gW2, BW2⟩ := boxn w1 #[.int .i64 1, .int .i64 0, .int .u8 1, .int .i64 0, .int .i64 1, .int .u8 2, .int .i64 9, .int .i64 9, .int .u8 3] 33; have G2 := gb_trans g1 gW2)
    | (go_at_call 11; refine (writeC (some ⟨w1.heap.size, 0, none⟩) 3 [(1, 0, 1), (0, 1, 2), (9, 9, 3)] (by decide) ex3ok 0 0 2 2 W2 (ce_bo BW2 rfl)).mono ?_; rintro e w3 ⟨he, g3⟩; rw [ex3E, ex3S, ← HT.out] at he; subst he; have G3 := gb_trans G2 g3; have G13 := gb_trans gW2 g3)
    | (go_at_call 10; guard_hyp m1; (fail_if_success (guard_hyp m2)); refine (readAll ⟨#[46, 120]⟩ w3).mono ?_; rintro e w4 ⟨v4, he, o4, g4⟩; rw [ex2E, ex2P] at he; rw [ex2C] at o4; subst he; obtain ⟨sp4, cp4, rfl, ce4, _⟩ := ce_of o4; clear ce4 o4; have m2 : True := trivial; obtain ⟨W5, hW5, sW5, gW5, BW5⟩ := boxn w4 #[.int .i64 1, .int .i64 0, .int .u8 1, .int .i64 2, .int .i64 1, .int .u8 1] 33; have G5 := gb_trans G3 (gb_trans g4 gW5); have G15 := gb_trans G13 (gb_trans g4 gW5))
    | (go_at_call 18; refine (sameC sp1 (some ⟨w4.heap.size, 0, none⟩) cp1 2 [(1, 0, 1), (2, 1, 1)] [(1, 0, 1), (2, 1, 1)] (by decide) (by decide) W5 (CE1.out.kept G15 (by simp)) (ce_bo BW5 rfl)).mono ?_; rintro e w6 ⟨he, g6⟩; rw [decide_eq_true rfl] at he; subst he)
    | go_in)
  all_goals go_ret
  all_goals exact ⟨rfl, gb_trans G5 g6⟩
end Go.Proofs.Ytjacoifhjfipaaa
