/- TreeNone, where alive says yes. -/
import Derived.Test.YteaionmjbkildaaDoorQ2
import Derived.LoopN
namespace Go.Proofs.YteaionmjbkildaaDoor
open Go.RowKit
set_option linter.unusedVariables false
set_option linter.unusedSimpArgs false
set_option maxRecDepth 100000

set_option maxHeartbeats 400000 in
theorem alikeZ (w : World) : Calls Tryd.prog 13 #[.agg #[.int .i64 0, .int .i64 0, .slice none 0 0, .int .i64 0], .agg #[.int .i64 0, .int .i64 0, .slice none 0 0, .int .i64 0]] w fun e w' => e = .returned (.bool true) ∧ w.grownBy w' none := by
  obtain ⟨W1, hW1, sz1, g1, B1⟩ := boxn w #[.int .i64 0, .int .i64 0, .slice none 0 0, .int .i64 0] 30
  obtain ⟨W2, hW2, sz2, g2, B2⟩ := boxn W1 #[.int .i64 0, .int .i64 0, .slice none 0 0, .int .i64 0] 30
  have B1' := B1.kept g2 (by simp)
  have G2 := gb_trans g1 g2
  have a0 := B1'.cell 0 (v := .int .i64 0) rfl
  have a1 := B1'.cell 1 (v := .int .i64 0) rfl
  have a2 := B1'.cell 2 (v := .slice none 0 0) rfl
  have a3 := B1'.cell 3 (v := .int .i64 0) rfl
  have b0 := B2.cell 0 (v := .int .i64 0) rfl
  have b1 := B2.cell 1 (v := .int .i64 0) rfl
  have b2 := B2.cell 2 (v := .slice none 0 0) rfl
  have b3 := B2.cell 3 (v := .int .i64 0) rfl
  go_enter Tryd.func13, Tryd.ntmps13
  go_wp2
  refine wp_loop_rounds 2 ?_
  rw [rounds_succ]
  go_wp2
  go_ret
  exact ⟨rfl, G2⟩

theorem Bo.same {w : World} {g : Nat} {t : TypeId} {cs : Array Value} (h : Bo w g t cs) (i : Nat) {v : Value} (hi : cs[i]? = some v) : w.setCell ⟨g, i, none⟩ v = w := by
  have hcs : cs.setIfInBounds i v = cs := by
    obtain ⟨h1, h2⟩ := Array.getElem?_eq_some_iff.1 hi
    subst h2
    apply Array.ext
    · simp
    · intro j h3 h4
      rw [Array.getElem_setIfInBounds]
      split
      · subst_vars; rfl
      · rfl
  have h2 := h.set i v
  rw [hcs] at h2
  have hh : (w.setCell ⟨g, i, none⟩ v).heap = w.heap := by
    apply Array.ext_getElem?
    intro j
    by_cases hj : j = g
    · subst hj; rw [show (w.setCell ⟨j, i, none⟩ v).heap[j]? = _ from h2, show w.heap[j]? = _ from h]
    · simp [World.setCell, Array.getElem?_modify, Ne.symm hj]
  show { w with heap := _ } = w
  exact congrArg (fun x => { w with heap := x }) hh

set_option maxHeartbeats 400000 in
theorem none_walk (s n E : Int) (av : ∀ w, Calls Tryd.prog 9 #[] w fun e w' => e = .returned (.bool true) ∧ w.grownBy w' none) (hof : ∀ w, Calls Tryd.prog 19 #[.int .i64 s, .int .i64 n, .nilFunc] w fun e w' => e = .returned (.tuple #[.agg #[.int .i64 0, .int .i64 0, .slice none 0 0, .int .i64 0], .int .i64 E]) ∧ w.grownBy w' none) (had : ∀ w, Calls Tryd.prog 11 #[.int .i64 s, .int .i64 n, .bool true] w fun e w' => e = .returned (.int .i64 E) ∧ w' = w) (w : World) : Calls Tryd.prog 5 #[.int .i64 s, .int .i64 n] w fun e w' => e = .returned (.bool true) ∧ w.grownBy w' none := by
  go_enter Tryd.func5, Tryd.ntmps5
  go_wp2_with (first | (go_at_call 9; refine (av _).mono ?_; rintro e w1 ⟨rfl, g1⟩) | (go_at_call 19; guard_hyp g1; (fail_if_success (guard_hyp g2)); refine (hof _).mono ?_; rintro e w2 ⟨rfl, g2⟩; obtain ⟨W3, hW3, sz3, g3, B3⟩ := boxn w2 #[.int .i64 0, .int .i64 0, .slice none 0 0, .int .i64 0] 30; have G3 := gb_trans (gb_trans g1 g2) g3; have c0 := B3.cell 0 (v := .int .i64 0) rfl; have c1 := B3.cell 1 (v := .int .i64 0) rfl; have c2 := B3.cell 2 (v := .slice none 0 0) rfl; have c3 := B3.cell 3 (v := .int .i64 0) rfl; have f0 := B3.frozen 0; have f1 := B3.frozen 1; have f2 := B3.frozen 2; have f3 := B3.frozen 3; have m0 := Bo.same B3 0 (v := .int .i64 0) rfl; have m1 := Bo.same B3 1 (v := .int .i64 0) rfl; have m2 := Bo.same B3 2 (v := .slice none 0 0) rfl; have m3 := Bo.same B3 3 (v := .int .i64 0) rfl) | (go_at_call 13; guard_hyp g3; (fail_if_success (guard_hyp g4)); refine (alikeZ _).mono ?_; rintro e w4 ⟨rfl, g4⟩; have G4 := gb_trans G3 g4) | (go_at_call 11; refine (had _).mono ?_; rintro e w' ⟨rfl, hw'⟩; subst w'))
  go_ret
  exact ⟨rfl, G4⟩
theorem none_core (s n : Int) (av : ∀ w, Calls Tryd.prog 9 #[] w fun e w' => e = .returned (.bool true) ∧ w.grownBy w' none) (w : World) : Calls Tryd.prog 5 #[.int .i64 s, .int .i64 n] w fun e w' => e = .returned (.bool true) ∧ w.grownBy w' none := by
  have had := askedC s n true
  unfold adE at had
  cases h : maB s n with
  | false =>
    rw [h, if_neg (by decide)] at had
    exact none_walk s n 2 av (ofNilA s n h) had w
  | true =>
    rw [h, if_pos rfl, if_pos rfl] at had
    exact none_walk s n 1 av (ofNilN s n h) had w
end Go.Proofs.YteaionmjbkildaaDoor
