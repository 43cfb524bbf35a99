/- A list of bytes that came in. -/
import Derived.Test.YtgiiaokkmnjckabF50
import Derived.Test.YtgiiaokkmnjckabOpenT
import Derived.ChangeSlices
import Derived.OpenShut
import Derived.ProofKit
namespace Go.Proofs.Ytgiiaokkmnjckab
open Go.ChangeShapes Go.WideShapes Go.ChangeAt Go.RowKit
set_option linter.unusedVariables false
set_option maxRecDepth 100000
theorem uBytes : Try.prog.underlying 39 = some (.slice 5) := by kernel_rfl
theorem uByte1 : Try.prog.underlying 5 = some (.int .u8) := by kernel_rfl
theorem cByte1 : Try.prog.cellsOf 5 = 1 := by kernel_rfl
theorem openBytes {H : Type} {enc : TypeId × Value → H} {W : World} {r : Reach} {b0 : Nat} {v : Value} {d : DataW H} {p : List MemPlace}
    (hv : Value.okWide Try.prog W r b0 39 v) (h : DataW.Trod enc Try.prog W 0 (fun _ => true) true 39 v d p) :
    ∃ sp n c F, v = .slice sp n c ∧ Rb W sp n F := by
  obtain ⟨a, len, cap, rfl⟩ := okWide_slice uBytes hv
  obtain ⟨fuel, hf⟩ := h
  rcases open_ints uBytes uByte1 cByte1 hf with ⟨hcs, _⟩ | ⟨a', len', cap', zs, hcs, _, hl, hm, hz, _, hc, hw⟩
  · simp [Value.cells] at hcs
    obtain ⟨rfl, rfl, rfl⟩ := hcs
    exact ⟨none, 0, 0, fun _ => 0, rfl, fun k hk => absurd hk (Nat.not_lt_zero _)⟩
  · simp [Value.cells] at hcs
    obtain ⟨rfl, rfl, rfl⟩ := hcs
    have hz' : zs.length = cap := hz
    refine ⟨_, _, _, fun k => (zs.getD k 0).toNat, rfl, fun k hk => ?_⟩
    have hk' : k < zs.length := by omega
    have b := bu8 (hw (zs.getD k 0) (by rw [List.getD, List.getElem?_eq_getElem hk']; exact List.getElem_mem hk'))
    have q : (zs.getD k 0).toNat < 256 := by omega
    have e : W.cell? (a'.add k) = some (Value.int IntKind.u8 ((zs.getD k 0).toNat : Int)) := by rw [hc k (by omega), Int.toNat_of_nonneg b.1]
    exact ⟨_, rfl, e, q⟩
end Go.Proofs.Ytgiiaokkmnjckab
