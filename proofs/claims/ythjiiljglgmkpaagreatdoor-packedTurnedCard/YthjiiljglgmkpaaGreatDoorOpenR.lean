/- An argument that is a row, opened. -/
import Derived.Test.YthjiiljglgmkpaaGreatDoorMem
import Derived.Test.YthjiiljglgmkpaaGreatDoorChecked
import Derived.ChangeSlices
import Derived.OpenShut
import Derived.ProofKit
namespace Go.Proofs.YthjiiljglgmkpaaGreatDoor
open Go.ChangeShapes Go.WideShapes Go.RowKit Go.ChangeAt
set_option linter.unusedVariables false

theorem rCells : Tryz.prog.cellsOf 33 = 2 := by kernel_rfl
theorem rUnderS : Tryz.prog.underlying 31 = some (.slice 37) := by kernel_rfl
theorem rCellsW : Tryz.prog.cellsOf 37 = 1 := by kernel_rfl
theorem array2 {α : Type} {cs : Array α} (h : cs.size = 2) : ∃ c0 c1, cs = #[c0, c1] := by
  obtain ⟨l⟩ := cs
  match l, h with
  | [c0, c1], _ => exact ⟨c0, c1, rfl⟩
theorem rField {H : Type} {enc : TypeId × Value → H} {P : Program} {W : World} {base n i : Nat} {spare : Nat → Bool} {held : Bool} {f : Field} {cs : List Value} {y : Option (DataW H × List MemPlace)} {k : IntKind} {c : Value}
    (ht : P.underlying f.type = some (.int k)) (ho : f.offset = i ∧ P.cellsOf f.type = 1) (hc : cs[i]? = some c) (hy : y.isSome = true)
    (h : DataW.trod enc P W base spare held n f.type ((cs.drop f.offset).take (P.cellsOf f.type)) = y) : ∃ x, c = .int k x ∧ (Lit.int k x).wf = true := by
  obtain ⟨y', rfl⟩ := Option.isSome_iff_exists.1 hy
  obtain ⟨x, h1, _, h3⟩ := DataW.trod_int ht h
  rw [ho.1, ho.2] at h1
  obtain ⟨hi, he⟩ := List.getElem?_eq_some_iff.1 hc
  have : (cs.drop i).take 1 = [cs[i]] := by rw [List.drop_eq_getElem_cons hi]; rfl
  rw [this] at h1
  refine ⟨x, ?_, h3⟩
  rw [← he]
  simpa using h1
theorem bdw {x : Int} (h : (Lit.int .u64 x).wf = true) : 0 ≤ x ∧ x < 18446744073709551616 := by
  simp [Lit.wf, IntKind.min, IntKind.max, IntKind.signed, IntKind.bits] at h
  omega
set_option maxRecDepth 100000 in
set_option maxHeartbeats 2000000 in
theorem openRow {H : Type} {enc : TypeId × Value → H} {W : World} {r : Reach} {b0 : Nat} {v : Value} {d : DataW H} {p : List MemPlace}
    (hv : Value.okWide Tryz.prog W r b0 33 v) (h : DataW.Trod enc Tryz.prog W 0 (fun _ => true) true 33 v d p) :
    ∃ (N : Int) (sp : Option Addr) (n c : Nat) (f : Nat → Nat), v = .agg #[.int .i64 N, .slice sp n c] ∧ (sp = none → n = 0 ∧ c = 0) ∧ Wd W sp n f ∧ (∀ k, f k < 18446744073709551616) ∧ n ≤ c ∧ (c = 0 ∨ ∃ (d0 : DataW H) (es ss : List (DataW H)), d = .agg [d0, .slice es ss] ∧ es.length + ss.length = c) := by
  obtain ⟨cs, rfl, hsz⟩ := okWide_struct Tryz.underlying33 hv
  obtain ⟨c0, c1, rfl⟩ := array2 (hsz.trans rCells)
  obtain ⟨fuel, hf⟩ := h
  obtain ⟨xs, n, _, hx, _, hlen, hfs⟩ := DataW.trod_struct Tryz.underlying33 hf
  have hl2 : xs.length = 2 := hlen
  obtain ⟨x0, x1, rfl⟩ : ∃ x0 x1, xs = [x0, x1] := by
    match xs, hl2 with
    | [x0, x1], _ => exact ⟨x0, x1, rfl⟩
  have g0 := hfs 0 _ rfl
  obtain ⟨N0, rfl, q0⟩ := rField Tryz.underlying3 (i := 0) (c := c0) ⟨rfl, by kernel_rfl⟩ rfl rfl g0
  have g1 := hfs 1 _ rfl
  have g1' : DataW.trod enc Tryz.prog W 0 (fun _ => true) true n 31 [c1] = some x1 := g1
  injection hx with hd _
  rcases open_ints rUnderS Tryz.underlying37 rCellsW g1' with ⟨hcs, _⟩ | ⟨a, len, cap, zs, hcs, _, hl, hm, hz, hxe, hcell, hwf⟩
  · obtain rfl : c1 = .slice none 0 0 := by simpa using hcs
    exact ⟨N0, none, 0, 0, fun _ => 0, rfl, fun _ => ⟨rfl, rfl⟩, fun k hk => absurd hk (Nat.not_lt_zero _), fun k => by show 0 < 18446744073709551616; decide, Nat.le_refl _, .inl rfl⟩
  · obtain rfl : c1 = .slice (some a) len cap := by simpa using hcs
    simp only [if_true] at hz
    have hb : ∀ k, 0 ≤ zs.getD k 0 ∧ zs.getD k 0 < 18446744073709551616 := fun k => by
      by_cases hk : k < zs.length
      · have e : zs.getD k 0 = zs[k] := by simp [hk]
        rw [e]
        exact bdw (hwf _ (List.getElem_mem hk))
      · have e : zs.getD k 0 = 0 := by simp [hk]
        rw [e]; decide
    refine ⟨N0, some a, len, cap, fun k => (zs.getD k 0).toNat, rfl, (fun h => by cases h), fun k hk => ⟨a, rfl, ?_⟩, fun k => ?_, hl, .inr ⟨x0.1, lits IntKind.u64 (zs.take len), lits IntKind.u64 (zs.drop len), ?_, ?_⟩⟩
    · rw [hcell k (by omega), Int.toNat_of_nonneg (hb k).1]
    · have := hb k; show (zs.getD k 0).toNat < 18446744073709551616; omega
    · rw [hd, hxe]; rfl
    · simp [lits]; omega
end Go.Proofs.YthjiiljglgmkpaaGreatDoor
