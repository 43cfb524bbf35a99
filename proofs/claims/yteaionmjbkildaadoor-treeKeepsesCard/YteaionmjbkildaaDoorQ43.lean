/- Keeps where it refuses. -/
import Derived.Test.YteaionmjbkildaaDoorQ23
import Derived.Test.YteaionmjbkildaaDoorQ42
namespace Go.Proofs.YteaionmjbkildaaDoor
open Go.RowKit Go.Shelf
set_option linter.unusedVariables false
set_option linter.unusedSimpArgs false
set_option maxRecDepth 100000
attribute [local go_sem] Oper.semAt_some

set_option maxHeartbeats 2000000 in
theorem keepsT (S I R : Int) (sn : Option Addr) (q o n c : Nat) (t : Nat → TN) (hsn : 0 < n → sn = some ⟨q, o, none⟩) (hst : ∀ j, (t j).st < 256) (h : ¬ CkOk S I n R t) (sp : Option Addr) (m pc : Nat) (w : World) (hT : Tn w q o n t) :
    Calls Tryd.prog 30 #[.agg #[.int .i64 S, .int .i64 I, .slice sn n c, .int .i64 R], .slice sp m pc] w fun e w' => e = .returned (.tuple #[.bool false, .int .i64 110]) ∧ w.grownBy w' none := by
  obtain ⟨U4, hU4⟩ : ∃ U4, (((w.alloc (.cells #[.int .i64 S, .int .i64 I, .slice sn n c, .int .i64 R] 30)).alloc (.cells #[.slice sp m pc] 25)).alloc (.cells #[.bool false] 4)).alloc (.cells #[.int .i64 0] 23) = U4 := ⟨_, rfl⟩
  have s4 : Hid (U4.heap.size = w.heap.size + 4) := (by unfold Hid; rw [← hU4]; simp)
  have g4 : w.grownBy U4 none := (by rw [← hU4]; exact gb_alloc (gb_alloc (gb_alloc (World.grownBy_alloc _ _ _) _) _) _)
  have D0 : Bo U4 w.heap.size 30 #[.int .i64 S, .int .i64 I, .slice sn n c, .int .i64 R] := (by rw [← hU4]; exact (((Bo.new w _ _).more _).more _).more _)
  have D1 : Bo U4 (w.heap.size + 1) 25 #[.slice sp m pc] := (by rw [← hU4]; exact ((bo_at (by simp)).more _).more _)
  have D2 : Bo U4 (w.heap.size + 1 + 1) 4 #[.bool false] := (by rw [← hU4]; exact (bo_at (by simp)).more _)
  have D3 : Bo U4 (w.heap.size + 1 + 1 + 1) 23 #[.int .i64 0] := (by rw [← hU4]; exact bo_at (by simp))
  have d0 := D0.cell 0 (v := .int .i64 S) rfl
  have d1 := D0.cell 1 (v := .int .i64 I) rfl
  have d2 := D0.cell 2 (v := .slice sn n c) rfl
  have d3 := D0.cell 3 (v := .int .i64 R) rfl
  have hne : w.heap.size + 1 + 1 ≠ w.heap.size + 1 + 1 + 1 := by omega
  have hck := checkC S I R sn q o n c t hsn hst U4 (hT.kept g4)
  rw [if_neg h] at hck
  refine (callsIn_wide (n := 3)).1 ?_
  refine callsIn_of_wp_marks Tryd.func30 rfl trivial ?_ rfl
  simp only [Tryd.ntmps30, List.size_toArray, List.length_cons, List.length_nil, Nat.reduceAdd, Nat.reduceSub, Array.replicate_succ, Array.replicate_zero, List.push_toArray, List.append_toArray, List.nil_append, List.cons_append]
  gi_wp2_with (first | (refine ⟨trivial, ?_⟩; gi_at_call 10; refine (callsIn_wide.2 hck).mono ?_; rintro e w5 ⟨rfl, g5⟩; have R5 := D2.kept g5 (by simp); have T5 := D3.kept g5 (by simp); have r50 := R5.cell 0 (v := .bool false) rfl; have r51 := R5.frozen 0; have r52 := Bo.same R5 0 (v := .bool false) rfl; have t50 := T5.cell 0 (v := .int .i64 0) rfl; have t51 := T5.frozen 0))
  refine ⟨_, res_cells2 (g := w.heap.size + 1 + 1) (g' := w.heap.size + 1 + 1 + 1) rfl rfl rfl (R5.set2 (Ne.symm hne)) (T5.set 0 (.int .i64 110)) underBo underEr rfl rfl, rfl, ?_⟩
  exact gb_new (gb_trans g4 g5) (by show w.heap.size ≤ w.heap.size + 1 + 1 + 1; omega) _

set_option maxHeartbeats 2000000 in
theorem keepsP (S I R : Int) (sn : Option Addr) (q o n c : Nat) (t : Nat → TN) (hsn : 0 < n → sn = some ⟨q, o, none⟩) (hst : ∀ j, (t j).st < 256) (h : CkOk S I n R t) (sp : Option Addr) (m pc : Nat) (p : Nat → Int) (hp : (m : Int) ≠ I ∨ ((m : Int) = I ∧ ¬ Ord p m)) (w : World) (hT : Tn w q o n t) (hP : In w sp m p) :
    Calls Tryd.prog 30 #[.agg #[.int .i64 S, .int .i64 I, .slice sn n c, .int .i64 R], .slice sp m pc] w fun e w' => e = .returned (.tuple #[.bool false, .int .i64 111]) ∧ w.grownBy w' none := by
  have hm := maB_is h.1
  obtain ⟨U4, hU4⟩ : ∃ U4, (((w.alloc (.cells #[.int .i64 S, .int .i64 I, .slice sn n c, .int .i64 R] 30)).alloc (.cells #[.slice sp m pc] 25)).alloc (.cells #[.bool false] 4)).alloc (.cells #[.int .i64 0] 23) = U4 := ⟨_, rfl⟩
  have s4 : Hid (U4.heap.size = w.heap.size + 4) := (by unfold Hid; rw [← hU4]; simp)
  have g4 : w.grownBy U4 none := (by rw [← hU4]; exact gb_alloc (gb_alloc (gb_alloc (World.grownBy_alloc _ _ _) _) _) _)
  have D0 : Bo U4 w.heap.size 30 #[.int .i64 S, .int .i64 I, .slice sn n c, .int .i64 R] := (by rw [← hU4]; exact (((Bo.new w _ _).more _).more _).more _)
  have D1 : Bo U4 (w.heap.size + 1) 25 #[.slice sp m pc] := (by rw [← hU4]; exact ((bo_at (by simp)).more _).more _)
  have D2 : Bo U4 (w.heap.size + 1 + 1) 4 #[.bool false] := (by rw [← hU4]; exact (bo_at (by simp)).more _)
  have D3 : Bo U4 (w.heap.size + 1 + 1 + 1) 23 #[.int .i64 0] := (by rw [← hU4]; exact bo_at (by simp))
  have d0 := D0.cell 0 (v := .int .i64 S) rfl
  have d1 := D0.cell 1 (v := .int .i64 I) rfl
  have d2 := D0.cell 2 (v := .slice sn n c) rfl
  have d3 := D0.cell 3 (v := .int .i64 R) rfl
  have hne : w.heap.size + 1 + 1 ≠ w.heap.size + 1 + 1 + 1 := by omega
  have hck := checkC S I R sn q o n c t hsn hst U4 (hT.kept g4)
  rw [if_pos h] at hck
  have hio : ∀ W, In W sp m p → Calls Tryd.prog 53 #[.slice sp m pc, .int .i64 I] W fun e w' => e = .returned (.bool false) ∧ W.grownBy w' none := fun W hW => by
    rcases hp with hp | ⟨hp, ho⟩
    · exact isOrderL sp m pc I hp W
    · rw [← hp]; exact isOrderN sp m pc p (by omega) ho W hW
  refine (callsIn_wide (n := 3)).1 ?_
  refine callsIn_of_wp_marks Tryd.func30 rfl trivial ?_ rfl
  simp only [Tryd.ntmps30, List.size_toArray, List.length_cons, List.length_nil, Nat.reduceAdd, Nat.reduceSub, Array.replicate_succ, Array.replicate_zero, List.push_toArray, List.append_toArray, List.nil_append, List.cons_append]
  gi_wp2_with (first | (refine ⟨trivial, ?_⟩; gi_at_call 10; refine (callsIn_wide.2 hck).mono ?_; rintro e w5 ⟨rfl, g5⟩; have E0 := D0.kept g5 (by simp); have E1 := D1.kept g5 (by simp); have e0 := E0.cell 0 (v := .int .i64 S) rfl; have e1 := E0.cell 1 (v := .int .i64 I) rfl; have e4 := E1.cell 0 (v := .slice sp m pc) rfl) | (refine ⟨trivial, ?_⟩; gi_at_call 53; refine (callsIn_wide.2 (hio w5 (hP.kept (gb_trans g4 g5) (by simp)))).mono ?_; rintro e w6 ⟨rfl, g6⟩; have R6 := D2.kept (gb_trans g5 g6) (by simp); have T6 := D3.kept (gb_trans g5 g6) (by simp); have r60 := R6.cell 0 (v := .bool false) rfl; have r61 := R6.frozen 0; have r62 := Bo.same R6 0 (v := .bool false) rfl; have t60 := T6.cell 0 (v := .int .i64 0) rfl; have t61 := T6.frozen 0))
  refine ⟨_, res_cells2 (g := w.heap.size + 1 + 1) (g' := w.heap.size + 1 + 1 + 1) rfl rfl rfl (R6.set2 (Ne.symm hne)) (T6.set 0 (.int .i64 111)) underBo underEr rfl rfl, rfl, ?_⟩
  exact gb_new (gb_trans g4 (gb_trans g5 g6)) (by show w.heap.size ≤ w.heap.size + 1 + 1 + 1; omega) _

set_option maxHeartbeats 2000000 in
theorem keepsB (S I R : Nat) (sn : Option Addr) (q o n c : Nat) (t : Nat → TN) (hsn : 0 < n → sn = some ⟨q, o, none⟩) (hst : ∀ j, (t j).st < 256) (h : CkOk S I n R t) (hq : ¬ S ^ I ≤ 1048576) (sp : Option Addr) (pc : Nat) (p : Nat → Int) (hp : Ord p I) (w : World) (hT : Tn w q o n t) (hP : In w sp I p) :
    Calls Tryd.prog 30 #[.agg #[.int .i64 (S : Nat), .int .i64 (I : Nat), .slice sn n c, .int .i64 (R : Nat)], .slice sp I pc] w fun e w' => e = .returned (.tuple #[.bool false, .int .i64 4]) ∧ w.grownBy w' none := by
  have hm := maB_is h.1
  obtain ⟨U4, hU4⟩ : ∃ U4, (((w.alloc (.cells #[.int .i64 (S : Nat), .int .i64 (I : Nat), .slice sn n c, .int .i64 (R : Nat)] 30)).alloc (.cells #[.slice sp I pc] 25)).alloc (.cells #[.bool false] 4)).alloc (.cells #[.int .i64 0] 23) = U4 := ⟨_, rfl⟩
  have s4 : Hid (U4.heap.size = w.heap.size + 4) := (by unfold Hid; rw [← hU4]; simp)
  have g4 : w.grownBy U4 none := (by rw [← hU4]; exact gb_alloc (gb_alloc (gb_alloc (World.grownBy_alloc _ _ _) _) _) _)
  have D0 : Bo U4 w.heap.size 30 #[.int .i64 (S : Nat), .int .i64 (I : Nat), .slice sn n c, .int .i64 (R : Nat)] := (by rw [← hU4]; exact (((Bo.new w _ _).more _).more _).more _)
  have D1 : Bo U4 (w.heap.size + 1) 25 #[.slice sp I pc] := (by rw [← hU4]; exact ((bo_at (by simp)).more _).more _)
  have D2 : Bo U4 (w.heap.size + 1 + 1) 4 #[.bool false] := (by rw [← hU4]; exact (bo_at (by simp)).more _)
  have D3 : Bo U4 (w.heap.size + 1 + 1 + 1) 23 #[.int .i64 0] := (by rw [← hU4]; exact bo_at (by simp))
  have d0 := D0.cell 0 (v := .int .i64 (S : Nat)) rfl
  have d1 := D0.cell 1 (v := .int .i64 (I : Nat)) rfl
  have d2 := D0.cell 2 (v := .slice sn n c) rfl
  have d3 := D0.cell 3 (v := .int .i64 (R : Nat)) rfl
  have hne : w.heap.size + 1 + 1 ≠ w.heap.size + 1 + 1 + 1 := by omega
  have hck := checkC S I R sn q o n c t hsn hst U4 (hT.kept g4)
  rw [if_pos h] at hck
  have hcg := canGoC S I (by omega) (by omega) (by omega)
  rw [decide_eq_false hq] at hcg
  refine (callsIn_wide (n := 3)).1 ?_
  refine callsIn_of_wp_marks Tryd.func30 rfl trivial ?_ rfl
  simp only [Tryd.ntmps30, List.size_toArray, List.length_cons, List.length_nil, Nat.reduceAdd, Nat.reduceSub, Array.replicate_succ, Array.replicate_zero, List.push_toArray, List.append_toArray, List.nil_append, List.cons_append]
  gi_wp2_with (first | (refine ⟨trivial, ?_⟩; gi_at_call 10; refine (callsIn_wide.2 hck).mono ?_; rintro e w5 ⟨rfl, g5⟩; have E0 := D0.kept g5 (by simp); have E1 := D1.kept g5 (by simp); have e0 := E0.cell 0 (v := .int .i64 (S : Nat)) rfl; have e1 := E0.cell 1 (v := .int .i64 (I : Nat)) rfl; have e4 := E1.cell 0 (v := .slice sp I pc) rfl) | (refine ⟨trivial, ?_⟩; gi_at_call 53; refine (callsIn_wide.2 (isOrderY sp I pc p (by omega) hp w5 (hP.kept (gb_trans g4 g5) (by simp)))).mono ?_; rintro e w6 ⟨rfl, g6⟩; have F0 := E0.kept g6 (by simp); have f0 := F0.cell 0 (v := .int .i64 (S : Nat)) rfl; have f1 := F0.cell 1 (v := .int .i64 (I : Nat)) rfl; have R6 := D2.kept (gb_trans g5 g6) (by simp); have T6 := D3.kept (gb_trans g5 g6) (by simp); have r60 := R6.cell 0 (v := .bool false) rfl; have r61 := R6.frozen 0; have r62 := Bo.same R6 0 (v := .bool false) rfl; have t60 := T6.cell 0 (v := .int .i64 0) rfl; have t61 := T6.frozen 0) | (refine ⟨trivial, ?_⟩; gi_at_call 43; refine (callsIn_wide.2 (hcg _)).mono ?_; rintro e w7 ⟨rfl, hw7⟩; subst hw7))
  refine ⟨_, res_cells2 (g := w.heap.size + 1 + 1) (g' := w.heap.size + 1 + 1 + 1) rfl rfl rfl (R6.set2 (Ne.symm hne)) (T6.set 0 (.int .i64 4)) underBo underEr rfl rfl, rfl, ?_⟩
  exact gb_new (gb_trans g4 (gb_trans g5 g6)) (by show w.heap.size ≤ w.heap.size + 1 + 1 + 1; omega) _
end Go.Proofs.YteaionmjbkildaaDoor
