/- A list of bytes that came in, opened. -/
import Derived.Test.YtbiilklihieomaaZ3
import Derived.Test.YtbiilklihieomaaChecked
import Derived.ChangeSlices
import Derived.OpenShut
import Derived.ProofKit
import Derived.SizedLaws
namespace Go.Proofs.Ytbiilklihieomaa
open Go.ChangeShapes Go.WideShapes Go.RowKit Go.ChangeAt Go.Deep
set_option linter.unusedVariables false
set_option linter.unusedSimpArgs false

theorem u8Cells : Try.prog.cellsOf 5 = 1 := by kernel_rfl
theorem u8Bytes : Try.prog.bytesOf 5 = 1 := by kernel_rfl
theorem u8S : Try.prog.underlying 39 = some (.slice 5) := by kernel_rfl
theorem uU : Try.prog.underlying 5 = some (.int .u8) := by kernel_rfl
theorem uI : Try.prog.underlying 3 = some (.int .i64) := by kernel_rfl
theorem bdu {x : Int} (h : (Lit.int .u8 x).wf = true) : 0 ≤ x ∧ x < 256 := by
  simp [Lit.wf, IntKind.min, IntKind.max, IntKind.signed, IntKind.bits] at h
  omega
theorem bd64 {x : Int} (h : (Lit.int .i64 x).wf = true) : -9223372036854775808 ≤ x ∧ x ≤ 9223372036854775807 := by
  simp [Lit.wf, IntKind.min, IntKind.max, IntKind.signed, IntKind.bits] at h
  omega
theorem reach_is : reachBytes = 140737488351232 := by decide
set_option maxRecDepth 100000 in
set_option maxHeartbeats 2000000 in
theorem openBy {H : Type} {enc : TypeId × Value → H} {W : World} {fuel : Nat} {V : Value} {x : DataW H × List MemPlace} (h : DataW.trod enc Try.prog W 0 (fun _ => true) true fuel 39 [V] = some x) (hw : ∀ y ∈ x.1.weights Try.prog 39, y ≤ reachBytes) :
    ∃ sa m ca f, V = .slice sa m ca ∧ (sa = none → m = 0 ∧ ca = 0) ∧ By W sa m f ∧ (∀ i, f i < 256) ∧ m ≤ 140737488351232 := by
  rcases open_ints u8S uU u8Cells h with ⟨hcs, _⟩ | ⟨a, len, cap, zs, hcs, _, hl, hm, hz, hxe, hcell, hwf⟩
  · obtain rfl : V = .slice none 0 0 := by simpa using hcs
    exact ⟨none, 0, 0, fun _ => 0, rfl, fun _ => ⟨rfl, rfl⟩, fun k hk => absurd hk (Nat.not_lt_zero _), fun _ => by show 0 < 256; decide, by decide⟩
  · obtain rfl : V = .slice (some a) len cap := by simpa using hcs
    simp only [if_true] at hz
    have hb : ∀ k, 0 ≤ zs.getD k 0 ∧ zs.getD k 0 < 256 := fun k => by
      by_cases hk : k < zs.length
      · have e : zs.getD k 0 = zs[k] := by simp [hk]
        rw [e]
        exact bdu (hwf _ (List.getElem_mem hk))
      · have e : zs.getD k 0 = 0 := by simp [hk]
        rw [e]; decide
    refine ⟨some a, len, cap, fun k => (zs.getD k 0).toNat, rfl, (fun h => by cases h), fun k hk => ⟨a, rfl, ?_⟩, fun k => ?_, ?_⟩
    · rw [hcell k (by omega), Int.toNat_of_nonneg (hb k).1]
    · have := hb k; show (zs.getD k 0).toNat < 256; omega
    · subst hxe
      have h8 := hw (((lits IntKind.u8 (zs.take len) : List (DataW H)).length + (lits IntKind.u8 (zs.drop len) : List (DataW H)).length) * Try.prog.bytesOf 5) (by simp [DataW.weights, u8S])
      rw [u8Bytes, reach_is] at h8
      simp [lits] at h8
      omega
end Go.Proofs.Ytbiilklihieomaa
