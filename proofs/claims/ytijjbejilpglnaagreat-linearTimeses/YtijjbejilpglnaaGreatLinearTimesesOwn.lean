/- THE STATEMENT LinearTimeses: for every input the call returns true, and what came in reads afterwards as it read before. No condition. -/
import Derived.Test.YtijjbejilpglnaaGreatRows
import Derived.Test.YtijjbejilpglnaaGreatN49
import Derived.ProofKit
import Derived.OpenShut
import Derived.ChangeOld
import Derived.Carry
import Derived.SizedLaws
import Derived.Test.YtijjbejilpglnaaGreatOpenN
namespace Go.Proofs.YtijjbejilpglnaaGreat.linearTimeses
open Go.ChangeShapes Go.WideShapes Go.ChangeAt Go.RowKit
set_option linter.unusedVariables false

theorem own : ownKnob Tryz.prog.godebug = none := by kernel_rfl
theorem laidOut : laidOutB Tryz.prog = true := by kernel_rfl

set_option maxRecDepth 100000 in
theorem lifted (os : Os) (started : os.Started) (H : Type) (enc : TypeId × Value → H) :
    ReturnsInHanded {} Tryz.checked os 5 .any (Rows.linearTimesesSpec.pre6 enc Tryz.prog Tryz.f5 Rows.linearTimesesRow.domain false) (Rows.linearTimesesSpec.post enc Tryz.prog Tryz.f5 false true false false) := by
  refine returnsInHanded_of_change_sized (C := Tryz.checked) own started (by kernel_rfl) Tryz.func5
    (ChangeSpec.witness6 (enc := enc) (C := Tryz.checked) false ⟨#[], #[.slice none 0 0, .slice none 0 0], []⟩ 8 (by kernel_rfl) (by kernel_rfl) (by kernel_rfl) (by kernel_rfl)) ?_
  intro W base args ds gs before hval0 hW hcnd hsz0 _
  have hval : ∀ (j : Nat) t v, Tryz.f5.params[j]? = some t → args[j]? = some v → Value.okWide Tryz.prog W .any base t v := hval0
  have hW' := hW
  obtain ⟨p, q, hA0, hV, rfl, hfz, hnd⟩ := hW
  have hA : DataW.TrodAll enc Tryz.prog W 0 (fun _ => true) true Tryz.f5.params.toList args.toList ds p := hA0
  have hsz : (DataW.weightsEach Tryz.prog (Tryz.f5.params.toList ++ Rows.linearTimesesSpec.plain.varTypes Tryz.prog) (ds ++ gs)).all (· ≤ reachBytes) = true := hsz0
  rw [Tryz.params5] at hA hval hsz
  obtain ⟨v0, vs0, d0, ds0, p0, q0, hargs, rfl, rfl, h0, r0⟩ := trodAll_cons hA
  obtain ⟨v1, vs1, d1, ds1, p1, q1, rfl, rfl, rfl, h1, r1⟩ := trodAll_cons r0
  obtain ⟨rfl, rfl, rfl⟩ := trodAll_nil r1
  obtain rfl : args = #[v0, v1] := by cases args; simp_all
  obtain ⟨rfl, rfl⟩ := trodVars_none hV
  have k0 := h0
  have lt0 : ∀ x ∈ p0, x.block < W.heap.size := by obtain ⟨m, hm⟩ := k0; exact DataW.trod_lt m _ _ _ hm
  have hw0 : ∀ y ∈ d0.weights Tryz.prog 23, y ≤ reachBytes := fun y hy => by
    simpa using List.all_eq_true.1 hsz _ (DataW.weights_mem_each (j := 0) (t := 23) rfl rfl y hy)
  obtain ⟨ao0, al0, ac0, rfl⟩ := okWide_slice Ln.underPS (hval 0 23 v0 rfl rfl)
  obtain ⟨fu0, hf0⟩ := h0
  obtain ⟨sa0, m0, ca0, f0, ev0, e00, e01, e02, e03⟩ := Ln.openPts hf0 hw0
  obtain ⟨rfl, rfl, rfl⟩ : ao0 = sa0 ∧ al0 = m0 ∧ ac0 = ca0 := by simpa using ev0
  have k1 := h1
  have lt1 : ∀ x ∈ p1, x.block < W.heap.size := by obtain ⟨m, hm⟩ := k1; exact DataW.trod_lt m _ _ _ hm
  have hw1 : ∀ y ∈ d1.weights Tryz.prog 23, y ≤ reachBytes := fun y hy => by
    simpa using List.all_eq_true.1 hsz _ (DataW.weights_mem_each (j := 1) (t := 23) rfl rfl y hy)
  obtain ⟨ao1, al1, ac1, rfl⟩ := okWide_slice Ln.underPS (hval 1 23 v1 rfl rfl)
  obtain ⟨fu1, hf1⟩ := h1
  obtain ⟨sa1, m1, ca1, f1, ev1, e10, e11, e12, e13⟩ := Ln.openPts hf1 hw1
  obtain ⟨rfl, rfl, rfl⟩ : ao1 = sa1 ∧ al1 = m1 ∧ ac1 = ca1 := by simpa using ev1
  clear hA0 hval0
  refine (Ln.timeses_walk ao0 al0 ac0 f0 ao1 al1 ac1 f1 e00 e01 e02 e10 e11 e12 W e03 e13).mono fun e W' ⟨he, bel⟩ => ?_
  subst he
  exact ⟨_, rfl, _, _, _, [], _, [], hW', trodAll_mk1 (shut_bool Tryz.underlying4 _), (trodAll_cons_mk (Below.trod laidOut (by kernel_rfl) (of_decide_eq_true (by kernel_rfl)) k0 bel lt0) (trodAll_cons_mk (Below.trod laidOut (by kernel_rfl) (of_decide_eq_true (by kernel_rfl)) k1 bel lt1) trodAll_mk0)), rfl, bel.frame _, fun h => by cases h⟩

theorem over : Rows.linearTimesesRow.holds Tryz.pinned (OpenSpec.ofChange Rows.linearTimesesSpec) :=
  OpenClaim.holds_of_wide 5 Tryz.f5 rfl rfl rfl rfl rfl rfl rfl ⟨rfl, rfl, rfl, rfl, rfl⟩ rfl rfl rfl rfl rfl (by kernel_rfl) Tryz.func5 (by kernel_rfl)
    (of_decide_eq_true (by kernel_rfl)) (by unfold Func.isWrapper; first | (rw [if_pos (by decide +kernel)]; kernel_rfl) | (rw [if_neg (by decide +kernel)]; exact ⟨rfl, rfl⟩))
    (fun os started H enc _ => lifted os started H enc)
end Go.Proofs.YtijjbejilpglnaaGreat.linearTimeses
namespace Go.Proofs.YtijjbejilpglnaaGreat
theorem linearTimeses_holds : Rows.LinearTimesesSaid := linearTimeses.over
#print axioms linearTimeses_holds
end Go.Proofs.YtijjbejilpglnaaGreat
