/- A list of bytes that came in, opened. -/
import Derived.Test.YtjndljjpbkfmiaaGreatDoorZ3
import Derived.Test.YtjndljjpbkfmiaaGreatDoorChecked
import Derived.ChangeSlices
import Derived.OpenShut
import Derived.ProofKit
import Derived.SizedLaws
namespace Go.Proofs.YtjndljjpbkfmiaaGreatDoor
open Go.ChangeShapes Go.WideShapes Go.RowKit Go.ChangeAt Go.Deep
set_option linter.unusedVariables false
set_option linter.unusedSimpArgs false

theorem u8Cells : Tryz.prog.cellsOf 5 = 1 := by kernel_rfl
theorem u8Bytes : Tryz.prog.bytesOf 5 = 1 := by kernel_rfl
theorem u8S : Tryz.prog.underlying 24 = some (.slice 5) := by kernel_rfl
theorem uU : Tryz.prog.underlying 5 = some (.int .u8) := by kernel_rfl
theorem uI : Tryz.prog.underlying 3 = some (.int .i64) := by kernel_rfl
theorem bdu {x : Int} (h : (Lit.int .u8 x).wf = true) : 0 ≤ x ∧ x < 256 := by
  simp [Lit.wf, IntKind.min, IntKind.max, IntKind.signed, IntKind.bits] at h
  omega
theorem bd64 {x : Int} (h : (Lit.int .i64 x).wf = true) : -9223372036854775808 ≤ x ∧ x ≤ 9223372036854775807 := by
  simp [Lit.wf, IntKind.min, IntKind.max, IntKind.signed, IntKind.bits] at h
  omega
theorem reach_is : reachBytes = 140737488351232 := by decide
set_option maxRecDepth 100000 in
set_option maxHeartbeats 2000000 in
theorem openBy {H : Type} {enc : TypeId × Value → H} {W : World} {fuel : Nat} {V : Value} {x : DataW H × List MemPlace} (h : DataW.trod enc Tryz.prog W 0 (fun _ => true) true fuel 24 [V] = some x) (hw : ∀ y ∈ x.1.weights Tryz.prog 24, y ≤ reachBytes) :
    ∃ sa m ca f, V = .slice sa m ca ∧ (sa = none → m = 0 ∧ ca = 0) ∧ By W sa m f ∧ (∀ i, f i < 256) ∧ m ≤ 140737488351232 := by
  rcases open_ints u8S uU u8Cells h with ⟨hcs, _⟩ | ⟨a, len, cap, zs, hcs, _, hl, hm, hz, hxe, hcell, hwf⟩
  · obtain rfl : V = .slice none 0 0 := by simpa using hcs
    exact ⟨none, 0, 0, fun _ => 0, rfl, fun _ => ⟨rfl, rfl⟩, fun k hk => absurd hk (Nat.not_lt_zero _), fun _ => by show 0 < 256; decide, by decide⟩
  · obtain rfl : V = .slice (some a) len cap := by simpa using hcs
    simp only [if_true] at hz
    have hb : ∀ k, 0 ≤ zs.getD k 0 ∧ zs.getD k 0 < 256 := fun k => by
      by_cases hk : k < zs.length
      · have e : zs.getD k 0 = zs[k] := by simp [hk]
        rw [e]
        exact bdu (hwf _ (List.getElem_mem hk))
      · have e : zs.getD k 0 = 0 := by simp [hk]
        rw [e]; decide
    refine ⟨some a, len, cap, fun k => (zs.getD k 0).toNat, rfl, (fun h => by cases h), fun k hk => ⟨a, rfl, ?_⟩, fun k => ?_, ?_⟩
    · rw [hcell k (by omega), Int.toNat_of_nonneg (hb k).1]
    · have := hb k; show (zs.getD k 0).toNat < 256; omega
    · subst hxe
      have h8 := hw (((lits IntKind.u8 (zs.take len) : List (DataW H)).length + (lits IntKind.u8 (zs.drop len) : List (DataW H)).length) * Tryz.prog.bytesOf 5) (by simp [DataW.weights, u8S])
      rw [u8Bytes, reach_is] at h8
      simp [lits] at h8
      omega
theorem frCells : Tryz.prog.cellsOf 33 = 3 := by kernel_rfl
theorem frFields : ∃ f0 f1 f2, Tryz.prog.underlying 33 = some (.struct #[f0, f1, f2]) ∧ (f0.offset = 0 ∧ f0.type = 3) ∧ (f1.offset = 1 ∧ f1.type = 3) ∧ (f2.offset = 2 ∧ f2.type = 24) := ⟨_, _, _, by first | exact Tryz.underlying33 | kernel_rfl, ⟨rfl, rfl⟩, ⟨rfl, rfl⟩, ⟨rfl, rfl⟩⟩
theorem frI : Tryz.prog.cellsOf 3 = 1 := by kernel_rfl
theorem frS : Tryz.prog.cellsOf 24 = 1 := by kernel_rfl
theorem array3 {α : Type} {cs : Array α} (h : cs.size = 3) : ∃ c0 c1 c2, cs = #[c0, c1, c2] := by
  obtain ⟨l⟩ := cs
  match l, h with
  | [c0, c1, c2], _ => exact ⟨c0, c1, c2, rfl⟩
set_option maxRecDepth 100000 in
set_option maxHeartbeats 2000000 in
theorem openFrame {H : Type} {enc : TypeId × Value → H} {W : World} {r : Reach} {b0 : Nat} {v : Value} {d : DataW H} {p : List MemPlace}
    (hv : Value.okWide Tryz.prog W r b0 33 v) (h : DataW.Trod enc Tryz.prog W 0 (fun _ => true) true 33 v d p) (hw : ∀ y ∈ d.weights Tryz.prog 33, y ≤ reachBytes) :
    ∃ (x y : Int) (sp : Option Addr) (n c : Nat) (f : Nat → Nat), v = .agg #[.int .i64 x, .int .i64 y, .slice sp n c] ∧ (sp = none → n = 0 ∧ c = 0) ∧ By W sp n f ∧ (∀ i, f i < 256) ∧ n ≤ 140737488351232 := by
  obtain ⟨f0, f1, f2, hu, ⟨o0, t0⟩, ⟨o1, t1⟩, ⟨o2, t2⟩⟩ := frFields
  obtain ⟨cs, rfl, hsz⟩ := okWide_struct hu hv
  obtain ⟨c0, c1, c2, rfl⟩ := array3 (hsz.trans frCells)
  obtain ⟨fuel, hf⟩ := h
  obtain ⟨xs, n, _, hx, _, hlen, hfs⟩ := DataW.trod_struct hu hf
  have hl3 : xs.length = 3 := hlen
  obtain ⟨x0, x1, x2, rfl⟩ : ∃ x0 x1 x2, xs = [x0, x1, x2] := by
    match xs, hl3 with
    | [x0, x1, x2], _ => exact ⟨x0, x1, x2, rfl⟩
  have g0 := hfs 0 f0 rfl
  have g1 := hfs 1 f1 rfl
  have g2 := hfs 2 f2 rfl
  rw [o0, t0, frI] at g0
  rw [o1, t1, frI] at g1
  rw [o2, t2, frS] at g2
  have g0' : DataW.trod enc Tryz.prog W 0 (fun _ => true) true n 3 [c0] = some x0 := g0
  have g1' : DataW.trod enc Tryz.prog W 0 (fun _ => true) true n 3 [c1] = some x1 := g1
  have g2' : DataW.trod enc Tryz.prog W 0 (fun _ => true) true n 24 [c2] = some x2 := g2
  obtain ⟨z0, a0, _, _⟩ := DataW.trod_int uI g0'
  obtain ⟨z1, a1, _, _⟩ := DataW.trod_int uI g1'
  obtain rfl : c0 = .int .i64 z0 := by simpa using a0
  obtain rfl : c1 = .int .i64 z1 := by simpa using a1
  injection hx with hd _
  have hw2 : ∀ y ∈ x2.1.weights Tryz.prog 24, y ≤ reachBytes := fun y hy => by
    refine hw y ?_
    rw [hd]
    simp only [DataW.weights, hu]
    exact DataW.weights_mem_each (j := 2) (t := 24) (d := x2.1) (by rw [← t2]; rfl) rfl y hy
  obtain ⟨sa, m, ca, f, rfl, e1, e2, e3, e4⟩ := openBy g2' hw2
  exact ⟨z0, z1, sa, m, ca, f, rfl, e1, e2, e3, e4⟩
end Go.Proofs.YtjndljjpbkfmiaaGreatDoor
