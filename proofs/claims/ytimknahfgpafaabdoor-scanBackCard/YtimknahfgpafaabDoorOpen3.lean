/- The arguments of the statements, opened: lists of structs of numbers. -/
import Derived.Test.YtimknahfgpafaabDoorMem
import Derived.Test.YtimknahfgpafaabDoorChecked
import Derived.Deep.Slices
import Derived.Deep.SlicePairs
import Derived.OpenShut
import Derived.ProofKit
namespace Go.Proofs.YtimknahfgpafaabDoor
open Go.ChangeShapes Go.WideShapes Go.RowKit Go.Deep
set_option linter.unusedVariables false

theorem field_int {H : Type} {enc : TypeId × Value → H} {P : Program} {W : World} {base n i : Nat} {spare : Nat → Bool} {held : Bool} {f : Field} {cs : List Value} {y : Option (DataW H × List MemPlace)} {k : IntKind} {c : Value}
    (ht : P.underlying f.type = some (.int k)) (ho : f.offset = i ∧ P.cellsOf f.type = 1) (hc : cs[i]? = some c) (hy : y.isSome = true)
    (h : DataW.trod enc P W base spare held n f.type ((cs.drop f.offset).take (P.cellsOf f.type)) = y) : ∃ x, c = .int k x ∧ (Lit.int k x).wf = true := by
  obtain ⟨y', rfl⟩ := Option.isSome_iff_exists.1 hy
  obtain ⟨x, h1, _, h3⟩ := DataW.trod_int ht h
  rw [ho.1, ho.2] at h1
  obtain ⟨hi, he⟩ := List.getElem?_eq_some_iff.1 hc
  have : (cs.drop i).take 1 = [cs[i]] := by rw [List.drop_eq_getElem_cons hi]; rfl
  rw [this] at h1
  refine ⟨x, ?_, h3⟩
  rw [← he]
  simpa using h1
theorem spot_none {w : World} {a : Addr} {v : Value} (h : w.cell? a = some v) : a = ⟨a.block, a.off, none⟩ := by
  obtain ⟨b, o, sp⟩ := a
  cases sp with
  | none => rfl
  | some x =>
    unfold World.cell? at h
    split at h
    · simp at h
    · cases h
theorem add_plain (b o j : Nat) : (⟨b, o, none⟩ : Addr).add j = ⟨b, o + j, none⟩ := by unfold Addr.add; split <;> simp_all

theorem underPieces : Tryd.prog.underlying 22 = some (.slice 27) := by kernel_rfl
theorem cellsPieces : Tryd.prog.cellsOf 27 = 4 := by kernel_rfl
set_option maxRecDepth 100000 in
set_option maxHeartbeats 2000000 in
theorem openPieces {H : Type} {enc : TypeId × Value → H} {W : World} {r : Reach} {b0 : Nat} {v : Value} {d : DataW H} {p : List MemPlace}
    (hv : Value.okWide Tryd.prog W r b0 22 v) (h : DataW.Trod enc Tryd.prog W 0 (fun _ => true) true 22 v d p) :
    ∃ sp n c, ∃ F0 F1 F2 F3 : Nat → Int, v = .slice sp n c ∧ n ≤ 9223372036854775807 ∧ (∀ k, k < n → ∃ b o, sp = some ⟨b, o, none⟩ ∧ W.cell? ⟨b, o + k * 4, none⟩ = some (.int .i64 (F0 k)) ∧ W.cell? ⟨b, o + k * 4 + 1, none⟩ = some (.int .u8 (F1 k)) ∧ W.cell? ⟨b, o + k * 4 + 2, none⟩ = some (.int .i64 (F2 k)) ∧ W.cell? ⟨b, o + k * 4 + 3, none⟩ = some (.int .i64 (F3 k))) ∧ ∀ k, k < n → (Lit.int .i64 (F0 k)).wf = true ∧ (Lit.int .u8 (F1 k)).wf = true ∧ (Lit.int .i64 (F2 k)).wf = true ∧ (Lit.int .i64 (F3 k)).wf = true := by
  obtain ⟨a, len, cap, rfl⟩ := okWide_slice underPieces hv
  obtain ⟨fuel, hf⟩ := h
  rcases open_slice underPieces hf with ⟨hcs, _⟩ | ⟨aa, len', cap', m, n, DD, Pl, hcs, _, hl, hm, hmm, _, hx⟩
  · simp [Value.cells] at hcs
    obtain ⟨rfl, rfl, rfl⟩ := hcs
    exact ⟨none, 0, 0, fun _ => 0, fun _ => 0, fun _ => 0, fun _ => 0, rfl, by decide, fun k hk => absurd hk (Nat.not_lt_zero _), fun k hk => absurd hk (Nat.not_lt_zero _)⟩
  · simp [Value.cells] at hcs
    obtain ⟨rfl, rfl, rfl⟩ := hcs
    have hlm : len ≤ m := by rw [hmm]; split <;> omega
    have each : ∀ k, k < len → ∃ q : Int × Int × Int × Int, (W.cell? (aa.add (k * 4)) = some (.int .i64 (q.1)) ∧ W.cell? (aa.add (k * 4 + 1)) = some (.int .u8 (q.2.1)) ∧ W.cell? (aa.add (k * 4 + 2)) = some (.int .i64 (q.2.2.1)) ∧ W.cell? (aa.add (k * 4 + 3)) = some (.int .i64 (q.2.2.2))) ∧ (Lit.int .i64 (q.1)).wf = true ∧ (Lit.int .u8 (q.2.1)).wf = true ∧ (Lit.int .i64 (q.2.2.1)).wf = true ∧ (Lit.int .i64 (q.2.2.2)).wf = true := by
      intro k hk
      obtain ⟨cs', h1, h2⟩ := hx k (by omega)
      rw [cellsPieces] at h1
      obtain ⟨_, hlen, hcell⟩ := World.cells?_some h1
      obtain ⟨xs, k', hk', hxy, _, hxl, hfs⟩ := DataW.trod_struct Tryd.underlying27 h2
      have hl4 : xs.length = 4 := hxl
      match cs', hlen with
      | [v0, v1, v2, v3], _ =>
        have g0 := hfs 0 _ rfl
        obtain ⟨x0, rfl, q0⟩ := field_int Tryd.underlying3 (i := 0) (c := v0) ⟨rfl, by kernel_rfl⟩ rfl (by rw [List.getElem?_eq_getElem (show 0 < xs.length by rw [hl4]; decide)]; rfl) g0
        have e0 := hcell 0 (by omega)
        rw [add_add] at e0
        have g1 := hfs 1 _ rfl
        obtain ⟨x1, rfl, q1⟩ := field_int Tryd.underlying5 (i := 1) (c := v1) ⟨rfl, by kernel_rfl⟩ rfl (by rw [List.getElem?_eq_getElem (show 1 < xs.length by rw [hl4]; decide)]; rfl) g1
        have e1 := hcell 1 (by omega)
        rw [add_add] at e1
        have g2 := hfs 2 _ rfl
        obtain ⟨x2, rfl, q2⟩ := field_int Tryd.underlying3 (i := 2) (c := v2) ⟨rfl, by kernel_rfl⟩ rfl (by rw [List.getElem?_eq_getElem (show 2 < xs.length by rw [hl4]; decide)]; rfl) g2
        have e2 := hcell 2 (by omega)
        rw [add_add] at e2
        have g3 := hfs 3 _ rfl
        obtain ⟨x3, rfl, q3⟩ := field_int Tryd.underlying3 (i := 3) (c := v3) ⟨rfl, by kernel_rfl⟩ rfl (by rw [List.getElem?_eq_getElem (show 3 < xs.length by rw [hl4]; decide)]; rfl) g3
        have e3 := hcell 3 (by omega)
        rw [add_add] at e3
        exact ⟨(x0, x1, x2, x3), ⟨by simpa using e0, by simpa using e1, by simpa using e2, by simpa using e3⟩, q0, q1, q2, q3⟩
    obtain ⟨q, hq⟩ := choose_lt each
    refine ⟨some aa, len, cap, fun k => (q k).1, fun k => (q k).2.1, fun k => (q k).2.2.1, fun k => (q k).2.2.2, rfl, by have h9 := hm; unfold maxLen at h9; omega, fun k hk => ?_, fun k hk => (hq k hk).2⟩
    have h0 := (hq 0 (by omega)).1.1
    have ha : aa = ⟨aa.block, aa.off, none⟩ := by
      have := spot_none h0
      simpa [Addr.add] using this
    have hc := (hq k hk).1
    rw [ha] at hc
    simp only [add_plain, ← Nat.add_assoc] at hc
    exact ⟨aa.block, aa.off, by rw [← ha], hc⟩
end Go.Proofs.YtimknahfgpafaabDoor
