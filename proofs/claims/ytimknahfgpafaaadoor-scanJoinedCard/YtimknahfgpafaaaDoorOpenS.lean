/- An argument that is a list of texts, opened. -/
import Derived.Test.YtimknahfgpafaaaDoorS33
import Derived.Test.YtimknahfgpafaaaDoorChecked
import Derived.Deep.Slices
import Derived.Deep.Strs
import Derived.OpenShut
import Derived.ProofKit
namespace Go.Proofs.YtimknahfgpafaaaDoor
open Go.ChangeShapes Go.WideShapes Go.RowKit Go.Deep
set_option linter.unusedVariables false

theorem cellsSt1 : Tryd.prog.cellsOf 9 = 1 := by kernel_rfl
theorem spot_none' {w : World} {a : Addr} {v : Value} (h : w.cell? a = some v) : a = ⟨a.block, a.off, none⟩ := by
  obtain ⟨b, o, sp⟩ := a
  cases sp with
  | none => rfl
  | some x =>
    unfold World.cell? at h
    split at h
    · simp at h
    · cases h
set_option maxRecDepth 100000 in
set_option maxHeartbeats 2000000 in
theorem openStrings {H : Type} {enc : TypeId × Value → H} {W : World} {r : Reach} {b0 : Nat} {v : Value} {d : DataW H} {p : List MemPlace}
    (hv : Value.okWide Tryd.prog W r b0 53 v) (h : DataW.Trod enc Tryd.prog W 0 (fun _ => true) true 53 v d p) :
    ∃ sp n c, ∃ F : Nat → ByteArray, v = .slice sp n c ∧ n ≤ 9223372036854775807 ∧ StrsIn W sp n F ∧ ∀ k, k < n → (F k).size ≤ maxLen := by
  obtain ⟨a, len, cap, rfl⟩ := okWide_slice underStS hv
  obtain ⟨fuel, hf⟩ := h
  rcases open_strs underStS Tryd.underlying9 cellsSt1 hf with ⟨hcs, _⟩ | ⟨aa, len', cap', m, Sx, hcs, _, hl, hm, hmm, _, hx⟩
  · simp [Value.cells] at hcs
    obtain ⟨rfl, rfl, rfl⟩ := hcs
    exact ⟨none, 0, 0, fun _ => ⟨#[]⟩, rfl, by decide, fun k hk => absurd hk (Nat.not_lt_zero _), fun k hk => absurd hk (Nat.not_lt_zero _)⟩
  · simp [Value.cells] at hcs
    obtain ⟨rfl, rfl, rfl⟩ := hcs
    have hlm : len ≤ m := by rw [hmm]; split <;> omega
    refine ⟨some aa, len, cap, Sx, rfl, by have h9 := hm; unfold maxLen at h9; omega, fun k hk => ?_, fun k hk => (hx k (by omega)).2⟩
    have h0 := (hx 0 (by omega)).1
    have ha : aa = ⟨aa.block, aa.off, none⟩ := by
      have := spot_none' h0
      simpa [Addr.add] using this
    have hc := (hx k (by omega)).1
    rw [ha, add_mid] at hc
    exact ⟨aa.block, aa.off, by rw [← ha], hc⟩
end Go.Proofs.YtimknahfgpafaaaDoor
