/- A rectangle, a list of states, a list of cells that came in, opened. -/
import Derived.Test.YtjacoifhjfipaabRows
import Derived.Test.YtjacoifhjfipaabFl
import Derived.Test.YtjacoifhjfipaabMk
import Derived.Test.YtjacoifhjfipaabChecked
import Derived.Deep.Slices
import Derived.Deep.SlicePairs
import Derived.ChangeSlices
import Derived.WalkKit
import Derived.ProofKit
import Derived.OpenShut
import Derived.SizedLaws
namespace Go.Proofs.Ytjacoifhjfipaab
open Go.ChangeShapes Go.WideShapes Go.ChangeAt Go.RowKit Go.Deep Ln
set_option linter.unusedVariables false
set_option linter.unusedSimpArgs false
set_option maxRecDepth 100000

/-- One field of a struct of one-cell fields, an integer of kind k: the cell there is a number that fits. -/
theorem field_int {H : Type} {enc : TypeId × Value → H} {P : Program} {W : World} {base n i : Nat} {spare : Nat → Bool} {held : Bool} {f : Field} {cs : List Value} {y : Option (DataW H × List MemPlace)} {k : IntKind} {c : Value}
    (ht : P.underlying f.type = some (.int k)) (ho : f.offset = i ∧ P.cellsOf f.type = 1) (hc : cs[i]? = some c) (hy : y.isSome = true)
    (h : DataW.trod enc P W base spare held n f.type ((cs.drop f.offset).take (P.cellsOf f.type)) = y) : ∃ x, c = .int k x ∧ (Lit.int k x).wf = true := by
  obtain ⟨y', rfl⟩ := Option.isSome_iff_exists.1 hy
  obtain ⟨x, h1, _, h3⟩ := DataW.trod_int ht h
  rw [ho.1, ho.2] at h1
  obtain ⟨hi, he⟩ := List.getElem?_eq_some_iff.1 hc
  have : (cs.drop i).take 1 = [cs[i]] := by rw [List.drop_eq_getElem_cons hi]; rfl
  rw [this] at h1
  refine ⟨x, ?_, h3⟩
  rw [← he]
  simpa using h1
theorem bu8 {x : Int} (h : (Lit.int .u8 x).wf = true) : 0 ≤ x ∧ x ≤ 255 := by simpa [Lit.wf, IntKind.min, IntKind.max, IntKind.signed, IntKind.bits] using h
theorem bd64 {x : Int} (h : (Lit.int .i64 x).wf = true) : -9223372036854775808 ≤ x ∧ x ≤ 9223372036854775807 := by simpa [Lit.wf, IntKind.min, IntKind.max, IntKind.signed, IntKind.bits] using h

theorem u8Cells : Try.prog.cellsOf 5 = 1 := by kernel_rfl
theorem u8Bytes : Try.prog.bytesOf 5 = 1 := by kernel_rfl
theorem u8S : Try.prog.underlying 29 = some (.slice 5) := by kernel_rfl
theorem uU : Try.prog.underlying 5 = some (.int .u8) := by kernel_rfl
theorem bdu {x : Int} (h : (Lit.int .u8 x).wf = true) : 0 ≤ x ∧ x < 256 := by
  simp [Lit.wf, IntKind.min, IntKind.max, IntKind.signed, IntKind.bits] at h
  omega
theorem reach_is : reachBytes = 140737488351232 := by decide
def By (w : World) (sp : Option Addr) (m : Nat) (f : Nat → Nat) : Prop := ∀ k, k < m → ∃ a, sp = some a ∧ w.cell? (a.add k) = some (.int .u8 (f k : Nat))
set_option maxRecDepth 100000 in
set_option maxHeartbeats 2000000 in
theorem openBy {H : Type} {enc : TypeId × Value → H} {W : World} {fuel : Nat} {V : Value} {x : DataW H × List MemPlace} (h : DataW.trod enc Try.prog W 0 (fun _ => true) true fuel 29 [V] = some x) (hw : ∀ y ∈ x.1.weights Try.prog 29, y ≤ reachBytes) :
    ∃ sa m ca f, V = .slice sa m ca ∧ (sa = none → m = 0 ∧ ca = 0) ∧ By W sa m f ∧ (∀ i, f i < 256) ∧ m ≤ 140737488351232 := by
  rcases open_ints u8S uU u8Cells h with ⟨hcs, _⟩ | ⟨a, len, cap, zs, hcs, _, hl, hm, hz, hxe, hcell, hwf⟩
  · obtain rfl : V = .slice none 0 0 := by simpa using hcs
    exact ⟨none, 0, 0, fun _ => 0, rfl, fun _ => ⟨rfl, rfl⟩, fun k hk => absurd hk (Nat.not_lt_zero _), fun _ => by show 0 < 256; decide, by decide⟩
  · obtain rfl : V = .slice (some a) len cap := by simpa using hcs
    simp only [if_true] at hz
    have hb : ∀ k, 0 ≤ zs.getD k 0 ∧ zs.getD k 0 < 256 := fun k => by
      by_cases hk : k < zs.length
      · have e : zs.getD k 0 = zs[k] := by simp [hk]
        rw [e]
        exact bdu (hwf _ (List.getElem_mem hk))
      · have e : zs.getD k 0 = 0 := by simp [hk]
        rw [e]; decide
    refine ⟨some a, len, cap, fun k => (zs.getD k 0).toNat, rfl, (fun h => by cases h), fun k hk => ⟨a, rfl, ?_⟩, fun k => ?_, ?_⟩
    · rw [hcell k (by omega), Int.toNat_of_nonneg (hb k).1]
    · have := hb k; show (zs.getD k 0).toNat < 256; omega
    · subst hxe
      have h8 := hw (((lits IntKind.u8 (zs.take len) : List (DataW H)).length + (lits IntKind.u8 (zs.drop len) : List (DataW H)).length) * Try.prog.bytesOf 5) (by simp [DataW.weights, u8S])
      rw [u8Bytes, reach_is] at h8
      simp [lits] at h8
      omega
theorem spot_no {w : World} {a : Addr} {v : Value} (h : w.cell? a = some v) : a = ⟨a.block, a.off, none⟩ := by
  obtain ⟨b, o, sp⟩ := a
  cases sp with
  | none => rfl
  | some x =>
    unfold World.cell? at h
    split at h
    · simp at h
    · cases h
theorem spot_z {w : World} {a : Addr} {v : Value} (h : w.cell? (a.add (0 * 3)) = some v) : a = ⟨a.block, a.off, none⟩ := by
  rw [Nat.zero_mul, Addr.add_zero'] at h
  exact spot_no h
theorem sb_of {w : World} {sp : Option Addr} {m : Nat} {f : Nat → Nat} (h : By w sp m f) : Sb w sp m f := fun k hk => by
  obtain ⟨a, rfl, hc⟩ := h k hk
  obtain ⟨a', ea, h0⟩ := h 0 (by omega)
  cases ea
  rw [Addr.add_zero'] at h0
  have e1 := spot_no h0
  refine ⟨a.block, a.off, by rw [← e1], ?_⟩
  rw [e1, add_mid] at hc
  exact hc

theorem cellsRect : Try.prog.cellsOf 28 = 4 := by kernel_rfl
theorem arrRect {α : Type} {cs : Array α} (h : cs.size = 4) : ∃ c0 c1 c2 c3, cs = #[c0, c1, c2, c3] := by
  obtain ⟨l⟩ := cs
  match l, h with
  | [c0, c1, c2, c3], _ => exact ⟨c0, c1, c2, c3, rfl⟩
theorem openRect {H : Type} {enc : TypeId × Value → H} {W : World} {r : Reach} {b0 base : Nat} {spare : Nat → Bool} {held : Bool} {v : Value} {d : DataW H} {p : List MemPlace}
    (hv : Value.okWide Try.prog W r b0 28 v) (h : DataW.Trod enc Try.prog W base spare held 28 v d p) :
    ∃ x0 x1 x2 x3 : Int, v = .agg #[.int .i64 x0, .int .i64 x1, .int .i64 x2, .int .i64 x3] ∧ (-9223372036854775808 ≤ x0 ∧ x0 ≤ 9223372036854775807) ∧ (-9223372036854775808 ≤ x1 ∧ x1 ≤ 9223372036854775807) ∧ (-9223372036854775808 ≤ x2 ∧ x2 ≤ 9223372036854775807) ∧ (-9223372036854775808 ≤ x3 ∧ x3 ≤ 9223372036854775807) := by
  obtain ⟨cs, rfl, hsz⟩ := okWide_struct Try.underlying28 hv
  obtain ⟨c0, c1, c2, c3, rfl⟩ := arrRect (hsz.trans cellsRect)
  obtain ⟨fuel, hf⟩ := h
  obtain ⟨xs, n, _, _, _, hlen, hfs⟩ := DataW.trod_struct Try.underlying28 hf
  have hl : xs.length = 4 := hlen
  have g0 := hfs 0 _ rfl
  obtain ⟨x0, rfl, q0⟩ := field_int Try.underlying3 (i := 0) (c := c0) ⟨rfl, by kernel_rfl⟩ rfl (by rw [List.getElem?_eq_getElem (show 0 < xs.length by rw [hl]; decide)]; rfl) g0
  have g1 := hfs 1 _ rfl
  obtain ⟨x1, rfl, q1⟩ := field_int Try.underlying3 (i := 1) (c := c1) ⟨rfl, by kernel_rfl⟩ rfl (by rw [List.getElem?_eq_getElem (show 1 < xs.length by rw [hl]; decide)]; rfl) g1
  have g2 := hfs 2 _ rfl
  obtain ⟨x2, rfl, q2⟩ := field_int Try.underlying3 (i := 2) (c := c2) ⟨rfl, by kernel_rfl⟩ rfl (by rw [List.getElem?_eq_getElem (show 2 < xs.length by rw [hl]; decide)]; rfl) g2
  have g3 := hfs 3 _ rfl
  obtain ⟨x3, rfl, q3⟩ := field_int Try.underlying3 (i := 3) (c := c3) ⟨rfl, by kernel_rfl⟩ rfl (by rw [List.getElem?_eq_getElem (show 3 < xs.length by rw [hl]; decide)]; rfl) g3
  exact ⟨x0, x1, x2, x3, rfl, bd64 q0, bd64 q1, bd64 q2, bd64 q3⟩
theorem kCellsC : Try.prog.cellsOf 40 = 3 := by kernel_rfl
theorem kBytesC : Try.prog.bytesOf 40 = 24 := by kernel_rfl
theorem kUCS : Try.prog.underlying 31 = some (.slice 40) := by kernel_rfl
set_option maxRecDepth 100000 in
set_option maxHeartbeats 2000000 in
theorem openCe {H : Type} {enc : TypeId × Value → H} {W : World} {fuel : Nat} {V : Value} {x : DataW H × List MemPlace} (h : DataW.trod enc Try.prog W 0 (fun _ => true) true fuel 31 [V] = some x) (hw : ∀ y ∈ x.1.weights Try.prog 31, y ≤ reachBytes) :
    ∃ sp c, ∃ l : List Cx, V = .slice sp l.length c ∧ l.length ≤ 8796093021952 ∧ (∀ c ∈ l, CxOk c) ∧ Ce W sp l := by
  rcases open_slice kUCS h with ⟨hcs, _⟩ | ⟨aa, len, cap, m, n, DD, Pl, hcs, _, hl, hm, hmm, rfl, hx⟩
  · obtain rfl : V = .slice none 0 0 := by simpa using hcs
    exact ⟨none, 0, [], rfl, by decide, (fun c hc => by cases hc), Ce.nil _ _⟩
  · obtain rfl : V = .slice (some aa) len cap := by simpa using hcs
    simp only [if_true] at hmm
    subst hmm
    have hlen : len ≤ 8796093021952 := by
      have h8 := hw ((((List.range len).map DD).length + ((List.range (m - len)).map fun j => DD (len + j)).length) * Try.prog.bytesOf 40) (by simp [DataW.weights, kUCS])
      rw [kBytesC, reach_is] at h8
      simp at h8
      omega
    have each : ∀ k, k < len → ∃ q : Cx, CxOk q ∧ W.cell? (aa.add (k * 3)) = some (.int .i64 q.1) ∧ W.cell? (aa.add (k * 3 + 1)) = some (.int .i64 q.2.1) ∧ W.cell? (aa.add (k * 3 + 2)) = some (.int .u8 (q.2.2 : Nat)) := by
      intro k hk
      obtain ⟨cs', h1, h2⟩ := hx k (by omega)
      rw [kCellsC] at h1
      obtain ⟨_, hlen', hcell⟩ := World.cells?_some h1
      obtain ⟨xs, k', hk', hxy, _, hxl, hfs⟩ := DataW.trod_struct Try.underlying40 h2
      have hl3 : xs.length = 3 := hxl
      match cs', hlen' with
      | [v0, v1, v2], _ =>
        have g0 := hfs 0 _ rfl
        obtain ⟨x0, rfl, q0⟩ := field_int Try.underlying3 (i := 0) (c := v0) ⟨rfl, by kernel_rfl⟩ rfl (by rw [List.getElem?_eq_getElem (show 0 < xs.length by rw [hl3]; decide)]; rfl) g0
        have e0 := hcell 0 (by omega)
        rw [add_add] at e0
        have g1 := hfs 1 _ rfl
        obtain ⟨x1, rfl, q1⟩ := field_int Try.underlying3 (i := 1) (c := v1) ⟨rfl, by kernel_rfl⟩ rfl (by rw [List.getElem?_eq_getElem (show 1 < xs.length by rw [hl3]; decide)]; rfl) g1
        have e1 := hcell 1 (by omega)
        rw [add_add] at e1
        have g2 := hfs 2 _ rfl
        obtain ⟨x2, rfl, q2⟩ := field_int Try.underlying5 (i := 2) (c := v2) ⟨rfl, by kernel_rfl⟩ rfl (by rw [List.getElem?_eq_getElem (show 2 < xs.length by rw [hl3]; decide)]; rfl) g2
        have e2 := hcell 2 (by omega)
        rw [add_add] at e2
        have b2 := bu8 q2
        refine ⟨(x0, x1, x2.toNat), ⟨⟨bd64 q0, bd64 q1⟩, by show x2.toNat < 256; omega⟩, by simpa using e0, by simpa using e1, ?_⟩
        show W.cell? (aa.add (k * 3 + 2)) = some (.int .u8 (x2.toNat : Int))
        rw [Int.toNat_of_nonneg b2.1]
        simpa using e2
    obtain ⟨q, hq⟩ := choose_lt each
    have el : ((List.range len).map q).length = len := by simp
    refine ⟨some aa, _, (List.range len).map q, by rw [el], by rw [el]; exact hlen, fun c hc => ?_, fun k hk => ?_⟩
    · obtain ⟨i, hi, rfl⟩ := List.mem_map.1 hc
      exact (hq i (List.mem_range.1 hi)).1
    · rw [el] at hk
      obtain ⟨_, h0, h1, h2⟩ := hq k hk
      have e1 := spot_z (hq 0 (by omega)).2.1
      rw [e1, add_mid] at h0 h1 h2
      have eg : ((List.range len).map q)[k]'(by rw [el]; exact hk) = q k := by simp
      rw [eg]
      exact ⟨aa.block, aa.off, by rw [← e1], h0, by rw [Nat.add_assoc]; exact h1, by rw [Nat.add_assoc]; exact h2⟩
end Go.Proofs.Ytjacoifhjfipaab
