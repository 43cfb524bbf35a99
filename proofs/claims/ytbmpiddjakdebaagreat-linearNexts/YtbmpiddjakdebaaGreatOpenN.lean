/- A list of places, and one of whole numbers, that came in, opened. -/
import Derived.Test.YtbmpiddjakdebaaGreatNb
import Derived.Test.YtbmpiddjakdebaaGreatNd
import Derived.Test.YtbmpiddjakdebaaGreatChecked
import Derived.ChangeSlices
import Derived.Deep.SlicePairs
import Derived.Deep.Slices
import Derived.OpenShut
import Derived.ProofKit
import Derived.SizedLaws
namespace Go.Proofs.YtbmpiddjakdebaaGreat
open Go.ChangeShapes Go.WideShapes Go.RowKit Go.ChangeAt Go.Deep
set_option linter.unusedVariables false
set_option linter.unusedSimpArgs false

theorem bd64 {x : Int} (h : (Lit.int .i64 x).wf = true) : -9223372036854775808 ≤ x ∧ x ≤ 9223372036854775807 := by simpa [Lit.wf, IntKind.min, IntKind.max, IntKind.signed, IntKind.bits] using h
namespace Ln
theorem pBytes : Tryz.prog.bytesOf 40 = 16 := by kernel_rfl
theorem iBytes : Tryz.prog.bytesOf 3 = 8 := by kernel_rfl
theorem iCells : Tryz.prog.cellsOf 3 = 1 := by kernel_rfl
theorem underIS : Tryz.prog.underlying 50 = some (.slice 3) := by kernel_rfl
theorem reach_is : reachBytes = 140737488351232 := by decide
theorem spot_no {w : World} {a : Addr} {v : Value} (h : w.cell? a = some v) : a = ⟨a.block, a.off, none⟩ := by
  obtain ⟨b, o, sp⟩ := a
  cases sp with
  | none => rfl
  | some x =>
    unfold World.cell? at h
    split at h
    · simp at h
    · cases h
set_option maxRecDepth 100000 in
set_option maxHeartbeats 2000000 in
theorem openPts {H : Type} {enc : TypeId × Value → H} {W : World} {fuel : Nat} {V : Value} {x : DataW H × List MemPlace} (h : DataW.trod enc Tryz.prog W 0 (fun _ => true) true fuel 24 [V] = some x) (hw : ∀ y ∈ x.1.weights Tryz.prog 24, y ≤ reachBytes) :
    ∃ sp n c, ∃ f : Nat → Pt, V = .slice sp n c ∧ (sp = none → n = 0 ∧ c = 0) ∧ n ≤ 8796093021952 ∧ (∀ j, j < n → PtOk (f j)) ∧ Pl W sp n f := by
  obtain ⟨f0, f1, hs, t0, o0, t1, o1, _, _⟩ := fieldsK
  rcases open_slice_pairs underPS hs cellsK o0 o1 (by rw [t0]; exact cellsI) (by rw [t1]; exact cellsI) h with ⟨hcs, _⟩ | ⟨a, len, cap, m, k, V0, V1, D0, D1, P0, P1, hcs, _, hl, hm, hmm, rfl, hx⟩
  · obtain rfl : V = .slice none 0 0 := by simpa using hcs
    exact ⟨none, 0, 0, fun _ => (0, 0), rfl, fun _ => ⟨rfl, rfl⟩, by decide, fun j hj => absurd hj (Nat.not_lt_zero _), fun j hj => absurd hj (Nat.not_lt_zero _)⟩
  · obtain rfl : V = .slice (some a) len cap := by simpa using hcs
    simp only [if_true] at hmm
    subst hmm
    have hlen : len ≤ 8796093021952 := by
      have h8 := hw ((((List.range len).map fun i => DataW.agg [D0 i, D1 i]).length + ((List.range (m - len)).map fun j => DataW.agg [D0 (len + j), D1 (len + j)]).length) * Tryz.prog.bytesOf 40) (by simp [DataW.weights, underPS])
      rw [pBytes, reach_is] at h8
      simp at h8
      omega
    have key : ∀ i, ∃ p : Pt, i < len → PtOk p ∧ W.cell? (a.add (i * 2)) = some (.int .i64 p.1) ∧ W.cell? (a.add (i * 2 + 1)) = some (.int .i64 p.2) := fun i => by
      by_cases hi : i < len
      · obtain ⟨h0, h1, h2, h3⟩ := hx i (by omega)
        obtain ⟨u, e1, _, w1⟩ := DataW.trod_int (by rw [t0]; exact underI) h2
        obtain ⟨v, e2, _, w2⟩ := DataW.trod_int (by rw [t1]; exact underI) h3
        have e1 : V0 i = .int .i64 u := by simpa using e1
        have e2 : V1 i = .int .i64 v := by simpa using e2
        exact ⟨(u, v), fun _ => ⟨⟨bd64 w1, bd64 w2⟩, by rw [h0, e1], by rw [h1, e2]⟩⟩
      · exact ⟨(0, 0), fun h => absurd h hi⟩
    obtain ⟨f, hf⟩ := Classical.axiomOfChoice key
    refine ⟨some a, len, _, f, rfl, (fun e => by cases e), hlen, fun j hj => (hf j hj).1, fun j hj => ?_⟩
    obtain ⟨_, c0, c1⟩ := hf j hj
    have ha : a = ⟨a.block, a.off, none⟩ := by
      have hc := (hf 0 (by omega)).2.1
      rw [Nat.zero_mul, Addr.add_zero'] at hc
      exact spot_no hc
    refine ⟨a.block, a.off, by rw [← ha], ?_, ?_⟩
    · rw [ha, Addr.add_lit] at c0
      exact c0
    · rw [ha, Addr.add_lit] at c1
      rw [Nat.add_assoc]
      exact c1
set_option maxRecDepth 100000 in
set_option maxHeartbeats 2000000 in
theorem openInts {H : Type} {enc : TypeId × Value → H} {W : World} {fuel : Nat} {V : Value} {x : DataW H × List MemPlace} (h : DataW.trod enc Tryz.prog W 0 (fun _ => true) true fuel 50 [V] = some x) (hw : ∀ y ∈ x.1.weights Tryz.prog 50, y ≤ reachBytes) :
    ∃ sp n c, ∃ f : Nat → Int, V = .slice sp n c ∧ (sp = none → n = 0 ∧ c = 0) ∧ n ≤ 17592186043904 ∧ (∀ j, j < n → -9223372036854775808 ≤ f j ∧ f j ≤ 9223372036854775807) ∧ In W sp n f := by
  rcases open_slice1 underIS iCells h with ⟨hcs, _⟩ | ⟨a, len, cap, m, k, V0, D0, P0, hcs, _, hl, hm, hmm, rfl, hx⟩
  · obtain rfl : V = .slice none 0 0 := by simpa using hcs
    exact ⟨none, 0, 0, fun _ => 0, rfl, fun _ => ⟨rfl, rfl⟩, by decide, fun j hj => absurd hj (Nat.not_lt_zero _), fun j hj => absurd hj (Nat.not_lt_zero _)⟩
  · obtain rfl : V = .slice (some a) len cap := by simpa using hcs
    simp only [if_true] at hmm
    subst hmm
    have hlen : len ≤ 17592186043904 := by
      have h8 := hw ((((List.range len).map D0).length + ((List.range (m - len)).map fun j => D0 (len + j)).length) * Tryz.prog.bytesOf 3) (by simp [DataW.weights, underIS])
      rw [iBytes, reach_is] at h8
      simp at h8
      omega
    have key : ∀ i, ∃ p : Int, i < len → (-9223372036854775808 ≤ p ∧ p ≤ 9223372036854775807) ∧ W.cell? (a.add i) = some (.int .i64 p) := fun i => by
      by_cases hi : i < len
      · obtain ⟨h0, h2⟩ := hx i (by omega)
        obtain ⟨u, e1, _, w1⟩ := DataW.trod_int underI h2
        have e1 : V0 i = .int .i64 u := by simpa using e1
        exact ⟨u, fun _ => ⟨bd64 w1, by rw [h0, e1]⟩⟩
      · exact ⟨0, fun h => absurd h hi⟩
    obtain ⟨f, hf⟩ := Classical.axiomOfChoice key
    refine ⟨some a, len, _, f, rfl, (fun e => by cases e), hlen, fun j hj => (hf j hj).1, fun j hj => ?_⟩
    obtain ⟨_, c0⟩ := hf j hj
    have ha : a = ⟨a.block, a.off, none⟩ := by
      have hc := (hf 0 (by omega)).2
      rw [Addr.add_zero'] at hc
      exact spot_no hc
    refine ⟨a.block, a.off, by rw [← ha], ?_⟩
    rw [ha, Addr.add_lit] at c0
    exact c0
end Ln
end Go.Proofs.YtbmpiddjakdebaaGreat
