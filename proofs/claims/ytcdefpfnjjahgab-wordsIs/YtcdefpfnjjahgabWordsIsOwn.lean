/- THE STATEMENT WordsIs: for every input the call returns true, and what came in reads afterwards as it read before. No condition. -/
import Derived.Test.YtcdefpfnjjahgabRows
import Derived.Test.YtcdefpfnjjahgabW54
import Derived.ProofKit
import Derived.OpenShut
import Derived.ChangeOld
import Derived.Carry
import Derived.SizedLaws
import Derived.Test.YtcdefpfnjjahgabOpenA


namespace Go.Proofs.Ytcdefpfnjjahgab.wordsIs
open Go.ChangeShapes Go.WideShapes Go.ChangeAt Go.RowKit
set_option linter.unusedVariables false

theorem own : ownKnob Try.prog.godebug = none := by kernel_rfl
theorem laidOut : laidOutB Try.prog = true := by kernel_rfl

set_option maxRecDepth 100000 in
theorem lifted (os : Os) (started : os.Started) (H : Type) (enc : TypeId × Value → H) :
    ReturnsInHanded {} Try.checked os 5 .any (Rows.wordsIsSpec.pre6 enc Try.prog Try.f5 Rows.wordsIsRow.domain false) (Rows.wordsIsSpec.post enc Try.prog Try.f5 false true false false) := by
  refine returnsInHanded_of_change_sized (C := Try.checked) own started (by kernel_rfl) Try.func5
    (ChangeSpec.witness6 (enc := enc) (C := Try.checked) false ⟨#[], #[.agg #[.int .i64 0, .slice none 0 0, .int .i64 0, .slice none 0 0, .int .i64 0, .slice none 0 0, .int .i64 0, .slice none 0 0, .int .i64 0]], []⟩ 8 (by kernel_rfl) (by kernel_rfl) (by kernel_rfl) (by kernel_rfl)) ?_
  intro W base args ds gs before hval0 hW hcnd hsz0 _
  have hval : ∀ (j : Nat) t v, Try.f5.params[j]? = some t → args[j]? = some v → Value.okWide Try.prog W .any base t v := hval0
  have hW' := hW
  obtain ⟨p, q, hA0, hV, rfl, hfz, hnd⟩ := hW
  have hA : DataW.TrodAll enc Try.prog W 0 (fun _ => true) true Try.f5.params.toList args.toList ds p := hA0
  have hsz : (DataW.weightsEach Try.prog (Try.f5.params.toList ++ Rows.wordsIsSpec.plain.varTypes Try.prog) (ds ++ gs)).all (· ≤ reachBytes) = true := hsz0
  rw [Try.params5] at hA hval hsz
  obtain ⟨v0, vs0, d0, ds0, p0, q0, hargs, rfl, rfl, h0, r0⟩ := trodAll_cons hA
  obtain ⟨rfl, rfl, rfl⟩ := trodAll_nil r0
  obtain rfl : args = #[v0] := by cases args; simp_all
  obtain ⟨rfl, rfl⟩ := trodVars_none hV
  have k0 := h0
  have lt0 : ∀ x ∈ p0, x.block < W.heap.size := by obtain ⟨m, hm⟩ := k0; exact DataW.trod_lt m _ _ _ hm
  obtain ⟨e0, e1, e2, e3, e4, e5, e6, e7, a, x0, x1, x2, x3, x4, rfl, rfl, s0, s1, s2, s3⟩ := openAsked (hval 0 _ v0 rfl rfl) h0
  obtain ⟨N0, sp0, n0, c0, f0, rfl, rfl, o0, z0, b0, l0, m0⟩ := s0
  obtain ⟨N1, sp1, n1, c1, f1, rfl, rfl, o1, z1, b1, l1, m1⟩ := s1
  obtain ⟨N2, sp2, n2, c2, f2, rfl, rfl, o2, z2, b2, l2, m2⟩ := s2
  obtain ⟨N3, sp3, n3, c3, f3, rfl, rfl, o3, z3, b3, l3, m3⟩ := s3
  have y0 : n0 ≤ 17592186043904 := by
    rcases m0 with h9 | ⟨d9, es, ss, rfl, h9⟩
    · omega
    · have h8 := List.all_eq_true.1 hsz _ (DataW.weights_mem_each (j := 0) (t := 47) (d := .agg [.agg [d9, .slice es ss], x1, x2, x3, x4]) rfl rfl ((es.length + ss.length) * Try.prog.bytesOf 22) (by
        simp only [DataW.weights, Try.underlying47]
        exact DataW.weights_mem_each (j := 0) (t := 31) (d := .agg [d9, .slice es ss]) rfl rfl _ (by simp [DataW.weights, DataW.weightsEach, Try.underlying31])))
      have hby : Try.prog.bytesOf 22 = 8 := by kernel_rfl
      have hre : reachBytes = 140737488351232 := by decide
      rw [hby, hre] at h8
      simp only [decide_eq_true_eq] at h8
      omega
  have y1 : n1 ≤ 17592186043904 := by
    rcases m1 with h9 | ⟨d9, es, ss, rfl, h9⟩
    · omega
    · have h8 := List.all_eq_true.1 hsz _ (DataW.weights_mem_each (j := 0) (t := 47) (d := .agg [x0, .agg [d9, .slice es ss], x2, x3, x4]) rfl rfl ((es.length + ss.length) * Try.prog.bytesOf 22) (by
        simp only [DataW.weights, Try.underlying47]
        exact DataW.weights_mem_each (j := 1) (t := 31) (d := .agg [d9, .slice es ss]) rfl rfl _ (by simp [DataW.weights, DataW.weightsEach, Try.underlying31])))
      have hby : Try.prog.bytesOf 22 = 8 := by kernel_rfl
      have hre : reachBytes = 140737488351232 := by decide
      rw [hby, hre] at h8
      simp only [decide_eq_true_eq] at h8
      omega
  have y2 : n2 ≤ 17592186043904 := by
    rcases m2 with h9 | ⟨d9, es, ss, rfl, h9⟩
    · omega
    · have h8 := List.all_eq_true.1 hsz _ (DataW.weights_mem_each (j := 0) (t := 47) (d := .agg [x0, x1, .agg [d9, .slice es ss], x3, x4]) rfl rfl ((es.length + ss.length) * Try.prog.bytesOf 22) (by
        simp only [DataW.weights, Try.underlying47]
        exact DataW.weights_mem_each (j := 2) (t := 31) (d := .agg [d9, .slice es ss]) rfl rfl _ (by simp [DataW.weights, DataW.weightsEach, Try.underlying31])))
      have hby : Try.prog.bytesOf 22 = 8 := by kernel_rfl
      have hre : reachBytes = 140737488351232 := by decide
      rw [hby, hre] at h8
      simp only [decide_eq_true_eq] at h8
      omega
  have y3 : n3 ≤ 17592186043904 := by
    rcases m3 with h9 | ⟨d9, es, ss, rfl, h9⟩
    · omega
    · have h8 := List.all_eq_true.1 hsz _ (DataW.weights_mem_each (j := 0) (t := 47) (d := .agg [x0, x1, x2, .agg [d9, .slice es ss], x4]) rfl rfl ((es.length + ss.length) * Try.prog.bytesOf 22) (by
        simp only [DataW.weights, Try.underlying47]
        exact DataW.weights_mem_each (j := 3) (t := 31) (d := .agg [d9, .slice es ss]) rfl rfl _ (by simp [DataW.weights, DataW.weightsEach, Try.underlying31])))
      have hby : Try.prog.bytesOf 22 = 8 := by kernel_rfl
      have hre : reachBytes = 140737488351232 := by decide
      rw [hby, hre] at h8
      simp only [decide_eq_true_eq] at h8
      omega
  clear hA0 hval0
  have hwalk := is_walk (fun d => if d = 0 then (⟨N0, sp0, n0, c0, f0⟩ : RD) else if d = 1 then ⟨N1, sp1, n1, c1, f1⟩ else if d = 2 then ⟨N2, sp2, n2, c2, f2⟩ else ⟨N3, sp3, n3, c3, f3⟩) a (fun d hd => by
    rcases (show d = 0 ∨ d = 1 ∨ d = 2 ∨ d = 3 by omega) with rfl | rfl | rfl | rfl
    · exact y0
    · exact y1
    · exact y2
    · exact y3) W (fun d hd => by
    rcases (show d = 0 ∨ d = 1 ∨ d = 2 ∨ d = 3 by omega) with rfl | rfl | rfl | rfl
    · exact ⟨z0, fun k _ => b0 k, by show n0 ≤ _; omega⟩
    · exact ⟨z1, fun k _ => b1 k, by show n1 ≤ _; omega⟩
    · exact ⟨z2, fun k _ => b2 k, by show n2 ≤ _; omega⟩
    · exact ⟨z3, fun k _ => b3 k, by show n3 ≤ _; omega⟩) (fun d hd => by
    rcases (show d = 0 ∨ d = 1 ∨ d = 2 ∨ d = 3 by omega) with rfl | rfl | rfl | rfl
    · exact o0
    · exact o1
    · exact o2
    · exact o3)
  refine Calls.mono (show Calls Try.prog 5 #[.agg #[.int .i64 N0, .slice sp0 n0 c0, .int .i64 N1, .slice sp1 n1 c1, .int .i64 N2, .slice sp2 n2 c2, .int .i64 N3, .slice sp3 n3 c3, .int .i64 a]] W _ from hwalk) fun e W' ⟨he, bel⟩ => ?_
  subst he
  exact ⟨_, rfl, _, _, _, [], _, [], hW', trodAll_mk1 (shut_bool Try.underlying4 _), (trodAll_cons_mk (Below.trod laidOut (by kernel_rfl) (of_decide_eq_true (by kernel_rfl)) k0 bel lt0) trodAll_mk0), rfl, bel.frame _, fun h => by cases h⟩

theorem over : Rows.wordsIsRow.holds Try.pinned (OpenSpec.ofChange Rows.wordsIsSpec) :=
  OpenClaim.holds_of_wide 5 Try.f5 rfl rfl rfl rfl rfl rfl rfl ⟨rfl, rfl, rfl, rfl, rfl⟩ rfl rfl rfl rfl rfl (by kernel_rfl) Try.func5 (by kernel_rfl)
    (of_decide_eq_true (by kernel_rfl)) (by unfold Func.isWrapper; first | (rw [if_pos (by decide +kernel)]; kernel_rfl) | (rw [if_neg (by decide +kernel)]; exact ⟨rfl, rfl⟩))
    (fun os started H enc _ => lifted os started H enc)
end Go.Proofs.Ytcdefpfnjjahgab.wordsIs
namespace Go.Proofs.Ytcdefpfnjjahgab
theorem wordsIs_holds : Rows.WordsIsSaid := wordsIs.over
#print axioms wordsIs_holds
end Go.Proofs.Ytcdefpfnjjahgab
