/- The arguments of the statements, opened: lists of bits. -/
import Derived.Test.YtcdefpfnjjahgaaMem
import Derived.Test.YtcdefpfnjjahgaaChecked
import Derived.Deep.Grids
import Derived.OpenShut
import Derived.ProofKit
namespace Go.Proofs.Ytcdefpfnjjahgaa
open Go.ChangeShapes Go.WideShapes Go.RowKit Go.Deep
set_option linter.unusedVariables false

theorem oUnderB : Try.prog.underlying 29 = some (.slice 4) := by kernel_rfl
theorem oUnderO : Try.prog.underlying 4 = some .bool := by kernel_rfl
theorem oCellsO : Try.prog.cellsOf 4 = 1 := by kernel_rfl

theorem openBools {H : Type} {enc : TypeId × Value → H} {W : World} {r : Reach} {b0 : Nat} {v : Value} {d : DataW H} {p : List MemPlace}
    (hv : Value.okWide Try.prog W r b0 29 v) (h : DataW.Trod enc Try.prog W 0 (fun _ => true) true 29 v d p) :
    ∃ sp n c f, v = .slice sp n c ∧ (n ≤ c ∧ c ≤ 9223372036854775807) ∧ Bd W sp n f := by
  obtain ⟨a, len, cap, rfl⟩ := okWide_slice oUnderB hv
  obtain ⟨fuel, hf⟩ := h
  rcases open_bools oUnderB oUnderO oCellsO hf with ⟨hcs, _⟩ | ⟨a', len', cap', B, hcs, _, hl, hm, _, hc⟩
  · simp [Value.cells] at hcs
    obtain ⟨rfl, rfl, rfl⟩ := hcs
    exact ⟨none, 0, 0, fun _ => false, rfl, ⟨Nat.le_refl _, by decide⟩, fun k hk => absurd hk (Nat.not_lt_zero _)⟩
  · simp [Value.cells] at hcs
    obtain ⟨rfl, rfl, rfl⟩ := hcs
    exact ⟨_, _, _, B, rfl, ⟨hl, hm⟩, fun k hk => ⟨_, rfl, hc k (by omega)⟩⟩

/-- .. with what the list holds as data. -/
theorem openBoolsZ {H : Type} {enc : TypeId × Value → H} {W : World} {r : Reach} {b0 : Nat} {v : Value} {d : DataW H} {p : List MemPlace}
    (hv : Value.okWide Try.prog W r b0 29 v) (h : DataW.Trod enc Try.prog W 0 (fun _ => true) true 29 v d p) :
    ∃ sp n c f, v = .slice sp n c ∧ (sp = none → n = 0 ∧ c = 0) ∧ Bd W sp n f ∧ (n = 0 ∨ ∃ es ss : List (DataW H), d = .slice es ss ∧ es.length = n) := by
  obtain ⟨a, len, cap, rfl⟩ := okWide_slice oUnderB hv
  obtain ⟨fuel, hf⟩ := h
  rcases open_bools oUnderB oUnderO oCellsO hf with ⟨hcs, _⟩ | ⟨a', len', cap', B, hcs, _, hl, hm, hx, hc⟩
  · simp [Value.cells] at hcs
    obtain ⟨rfl, rfl, rfl⟩ := hcs
    exact ⟨none, 0, 0, fun _ => false, rfl, fun _ => ⟨rfl, rfl⟩, fun k hk => absurd hk (Nat.not_lt_zero _), .inl rfl⟩
  · simp [Value.cells] at hcs
    obtain ⟨rfl, rfl, rfl⟩ := hcs
    injection hx with hd _
    refine ⟨_, _, _, B, rfl, (fun h => by cases h), fun k hk => ⟨_, rfl, hc k (by omega)⟩, .inr ⟨_, _, hd, ?_⟩⟩
    simp
end Go.Proofs.Ytcdefpfnjjahgaa
