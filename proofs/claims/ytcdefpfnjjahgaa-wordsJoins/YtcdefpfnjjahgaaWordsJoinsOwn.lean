/- THE STATEMENT WordsJoins: for every input the call returns true, and what came in reads afterwards as it read before. No condition. -/
import Derived.Test.YtcdefpfnjjahgaaRows
import Derived.Test.YtcdefpfnjjahgaaW46
import Derived.ProofKit
import Derived.OpenShut
import Derived.ChangeOld
import Derived.Carry
import Derived.SizedLaws

import Derived.Test.YtcdefpfnjjahgaaOpenR
namespace Go.Proofs.Ytcdefpfnjjahgaa.wordsJoins
open Go.ChangeShapes Go.WideShapes Go.ChangeAt Go.RowKit
set_option linter.unusedVariables false

theorem own : ownKnob Try.prog.godebug = none := by kernel_rfl
theorem laidOut : laidOutB Try.prog = true := by kernel_rfl

set_option maxRecDepth 100000 in
theorem lifted (os : Os) (started : os.Started) (H : Type) (enc : TypeId × Value → H) :
    ReturnsInHanded {} Try.checked os 6 .any (Rows.wordsJoinsSpec.pre6 enc Try.prog Try.f6 Rows.wordsJoinsRow.domain false) (Rows.wordsJoinsSpec.post enc Try.prog Try.f6 false true false false) := by
  refine returnsInHanded_of_change_sized (C := Try.checked) own started (by kernel_rfl) Try.func6
    (ChangeSpec.witness6 (enc := enc) (C := Try.checked) false ⟨#[], #[.agg #[.int .i64 0, .slice none 0 0], .agg #[.int .i64 0, .slice none 0 0]], []⟩ 8 (by kernel_rfl) (by kernel_rfl) (by kernel_rfl) (by kernel_rfl)) ?_
  intro W base args ds gs before hval0 hW hcnd hsz0 _
  have hval : ∀ (j : Nat) t v, Try.f6.params[j]? = some t → args[j]? = some v → Value.okWide Try.prog W .any base t v := hval0
  have hW' := hW
  obtain ⟨p, q, hA0, hV, rfl, hfz, hnd⟩ := hW
  have hA : DataW.TrodAll enc Try.prog W 0 (fun _ => true) true Try.f6.params.toList args.toList ds p := hA0
  have hsz : (DataW.weightsEach Try.prog (Try.f6.params.toList ++ Rows.wordsJoinsSpec.plain.varTypes Try.prog) (ds ++ gs)).all (· ≤ reachBytes) = true := hsz0
  rw [Try.params6] at hA hval hsz
  obtain ⟨v0, vs0, d0, ds0, p0, q0, hargs, rfl, rfl, h0, r0⟩ := trodAll_cons hA
  obtain ⟨v1, vs1, d1, ds1, p1, q1, rfl, rfl, rfl, h1, r1⟩ := trodAll_cons r0
  obtain ⟨rfl, rfl, rfl⟩ := trodAll_nil r1
  obtain rfl : args = #[v0, v1] := by cases args; simp_all
  obtain ⟨rfl, rfl⟩ := trodVars_none hV
  have k0 := h0
  have lt0 : ∀ x ∈ p0, x.block < W.heap.size := by obtain ⟨m, hm⟩ := k0; exact DataW.trod_lt m _ _ _ hm
  obtain ⟨N0, sp0, n0, c0, f0, rfl, o0, e0, b0, l0, m0⟩ := openRow (hval 0 _ v0 rfl rfl) h0
  have z0 : n0 ≤ 17592186043904 := by
    rcases m0 with h9 | ⟨d9, es, ss, rfl, h9⟩
    · omega
    · have h8 := List.all_eq_true.1 hsz _ (DataW.weights_mem_each (j := 0) (t := 25) (d := .agg [d9, .slice es ss]) rfl rfl ((es.length + ss.length) * Try.prog.bytesOf 55) (by simp [DataW.weights, DataW.weightsEach, Try.underlying25]))
      have hby : Try.prog.bytesOf 55 = 8 := by kernel_rfl
      have hre : reachBytes = 140737488351232 := by decide
      rw [hby, hre] at h8
      simp only [decide_eq_true_eq] at h8
      omega
  have k1 := h1
  have lt1 : ∀ x ∈ p1, x.block < W.heap.size := by obtain ⟨m, hm⟩ := k1; exact DataW.trod_lt m _ _ _ hm
  obtain ⟨N1, sp1, n1, c1, f1, rfl, o1, e1, b1, l1, m1⟩ := openRow (hval 1 _ v1 rfl rfl) h1
  have z1 : n1 ≤ 17592186043904 := by
    rcases m1 with h9 | ⟨d9, es, ss, rfl, h9⟩
    · omega
    · have h8 := List.all_eq_true.1 hsz _ (DataW.weights_mem_each (j := 1) (t := 25) (d := .agg [d9, .slice es ss]) rfl rfl ((es.length + ss.length) * Try.prog.bytesOf 55) (by simp [DataW.weights, DataW.weightsEach, Try.underlying25]))
      have hby : Try.prog.bytesOf 55 = 8 := by kernel_rfl
      have hre : reachBytes = 140737488351232 := by decide
      rw [hby, hre] at h8
      simp only [decide_eq_true_eq] at h8
      omega
  clear hA0 hval0
  refine (joins_walk N0 n0 c0 sp0 f0 N1 n1 c1 sp1 f1 z0 (fun k _ => b0 k) z1 (fun k _ => b1 k) W e0 o0 e1 o1).mono fun e W' ⟨he, bel⟩ => ?_
  subst he
  exact ⟨_, rfl, _, _, _, [], _, [], hW', trodAll_mk1 (shut_bool Try.underlying4 _), (trodAll_cons_mk (Below.trod laidOut (by kernel_rfl) (of_decide_eq_true (by kernel_rfl)) k0 bel lt0) (trodAll_cons_mk (Below.trod laidOut (by kernel_rfl) (of_decide_eq_true (by kernel_rfl)) k1 bel lt1) trodAll_mk0)), rfl, bel.frame _, fun h => by cases h⟩

theorem over : Rows.wordsJoinsRow.holds Try.pinned (OpenSpec.ofChange Rows.wordsJoinsSpec) :=
  OpenClaim.holds_of_wide 6 Try.f6 rfl rfl rfl rfl rfl rfl rfl ⟨rfl, rfl, rfl, rfl, rfl⟩ rfl rfl rfl rfl rfl (by kernel_rfl) Try.func6 (by kernel_rfl)
    (of_decide_eq_true (by kernel_rfl)) (by unfold Func.isWrapper; first | (rw [if_pos (by decide +kernel)]; kernel_rfl) | (rw [if_neg (by decide +kernel)]; exact ⟨rfl, rfl⟩))
    (fun os started H enc _ => lifted os started H enc)
end Go.Proofs.Ytcdefpfnjjahgaa.wordsJoins
namespace Go.Proofs.Ytcdefpfnjjahgaa
theorem wordsJoins_holds : Rows.WordsJoinsSaid := wordsJoins.over
#print axioms wordsJoins_holds
end Go.Proofs.Ytcdefpfnjjahgaa
