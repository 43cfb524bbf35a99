/- TreeNone, and the statement of the names. -/
import Derived.Test.YteaionmjbkildaaDoorQ27
namespace Go.Proofs.YteaionmjbkildaaDoor
open Go.RowKit
set_option linter.unusedVariables false
set_option linter.unusedSimpArgs false
set_option maxRecDepth 100000

set_option maxHeartbeats 400000 in
theorem none_walkT (s n E : Int) (hof : ∀ w, Calls Tryd.prog 19 #[.int .i64 s, .int .i64 n, .nilFunc] w fun e w' => e = .returned (.tuple #[.agg #[.int .i64 0, .int .i64 0, .slice none 0 0, .int .i64 0], .int .i64 E]) ∧ w.grownBy w' none) (had : ∀ w, Calls Tryd.prog 11 #[.int .i64 s, .int .i64 n, .bool true] w fun e w' => e = .returned (.int .i64 E) ∧ w' = w) (w : World) (htab : Tab w) : Calls Tryd.prog 5 #[.int .i64 s, .int .i64 n] w fun e w' => e = .returned (.bool true) ∧ w.grownBy w' none := by
  go_enter Tryd.func5, Tryd.ntmps5
  go_wp2_with (first | (go_at_call 9; refine (aliveC w htab).mono ?_; rintro e w1 ⟨rfl, g1⟩) | (go_at_call 19; guard_hyp g1; (fail_if_success (guard_hyp g2)); refine (hof _).mono ?_; rintro e w2 ⟨rfl, g2⟩; obtain ⟨W3, hW3, sz3, g3, B3⟩ := boxn w2 #[.int .i64 0, .int .i64 0, .slice none 0 0, .int .i64 0] 30; have G3 := gb_trans (gb_trans g1 g2) g3; have c0 := B3.cell 0 (v := .int .i64 0) rfl; have c1 := B3.cell 1 (v := .int .i64 0) rfl; have c2 := B3.cell 2 (v := .slice none 0 0) rfl; have c3 := B3.cell 3 (v := .int .i64 0) rfl; have f0 := B3.frozen 0; have f1 := B3.frozen 1; have f2 := B3.frozen 2; have f3 := B3.frozen 3; have m0 := Bo.same B3 0 (v := .int .i64 0) rfl; have m1 := Bo.same B3 1 (v := .int .i64 0) rfl; have m2 := Bo.same B3 2 (v := .slice none 0 0) rfl; have m3 := Bo.same B3 3 (v := .int .i64 0) rfl) | (go_at_call 13; guard_hyp g3; (fail_if_success (guard_hyp g4)); refine (alikeZ _).mono ?_; rintro e w4 ⟨rfl, g4⟩; have G4 := gb_trans G3 g4) | (go_at_call 11; refine (had _).mono ?_; rintro e w' ⟨rfl, hw'⟩; subst w'))
  go_ret
  exact ⟨rfl, G4⟩
theorem none_coreT (s n : Int) (w : World) (htab : Tab w) : Calls Tryd.prog 5 #[.int .i64 s, .int .i64 n] w fun e w' => e = .returned (.bool true) ∧ w.grownBy w' none := by
  have had := askedC s n true
  unfold adE at had
  cases h : maB s n with
  | false =>
    rw [h, if_neg (by decide)] at had
    exact none_walkT s n 2 (ofNilA s n h) had w htab
  | true =>
    rw [h, if_pos rfl, if_pos rfl] at had
    exact none_walkT s n 1 (ofNilN s n h) had w htab

end Go.Proofs.YteaionmjbkildaaDoor
