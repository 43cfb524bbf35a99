/- The arguments of the statements, opened: lists of bits. -/
import Derived.Test.YtcdefpfnjjahgabDoorMem
import Derived.Test.YtcdefpfnjjahgabDoorChecked
import Derived.Deep.Grids
import Derived.OpenShut
import Derived.ProofKit
namespace Go.Proofs.YtcdefpfnjjahgabDoor
open Go.ChangeShapes Go.WideShapes Go.RowKit Go.Deep
set_option linter.unusedVariables false

theorem oUnderB : Tryd.prog.underlying 22 = some (.slice 4) := by kernel_rfl
theorem oUnderO : Tryd.prog.underlying 4 = some .bool := by kernel_rfl
theorem oCellsO : Tryd.prog.cellsOf 4 = 1 := by kernel_rfl

theorem openBools {H : Type} {enc : TypeId × Value → H} {W : World} {r : Reach} {b0 : Nat} {v : Value} {d : DataW H} {p : List MemPlace}
    (hv : Value.okWide Tryd.prog W r b0 22 v) (h : DataW.Trod enc Tryd.prog W 0 (fun _ => true) true 22 v d p) :
    ∃ sp n c f, v = .slice sp n c ∧ (n ≤ c ∧ c ≤ 9223372036854775807) ∧ Bd W sp n f := by
  obtain ⟨a, len, cap, rfl⟩ := okWide_slice oUnderB hv
  obtain ⟨fuel, hf⟩ := h
  rcases open_bools oUnderB oUnderO oCellsO hf with ⟨hcs, _⟩ | ⟨a', len', cap', B, hcs, _, hl, hm, _, hc⟩
  · simp [Value.cells] at hcs
    obtain ⟨rfl, rfl, rfl⟩ := hcs
    exact ⟨none, 0, 0, fun _ => false, rfl, ⟨Nat.le_refl _, by decide⟩, fun k hk => absurd hk (Nat.not_lt_zero _)⟩
  · simp [Value.cells] at hcs
    obtain ⟨rfl, rfl, rfl⟩ := hcs
    exact ⟨_, _, _, B, rfl, ⟨hl, hm⟩, fun k hk => ⟨_, rfl, hc k (by omega)⟩⟩

end Go.Proofs.YtcdefpfnjjahgabDoor
