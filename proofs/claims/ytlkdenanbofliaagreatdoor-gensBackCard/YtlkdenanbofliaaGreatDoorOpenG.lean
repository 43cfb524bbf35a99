/- A struct of whole numbers that came in by value: its numbers, each within its width. -/
import Derived.Test.YtlkdenanbofliaaGreatDoorRows
import Derived.WalkKit
import Derived.ProofKit
import Derived.OpenShut
import Derived.ChangeSlices
namespace Go.Proofs.YtlkdenanbofliaaGreatDoor
open Go.ChangeShapes Go.WideShapes Go.ChangeAt Go.RowKit
set_option linter.unusedVariables false
set_option maxRecDepth 100000

/-- One field of a struct of one-cell fields, an integer of kind k: the cell there is a number that fits. -/
theorem field_int {H : Type} {enc : TypeId × Value → H} {P : Program} {W : World} {base n i : Nat} {spare : Nat → Bool} {held : Bool} {f : Field} {cs : List Value} {y : Option (DataW H × List MemPlace)} {k : IntKind} {c : Value}
    (ht : P.underlying f.type = some (.int k)) (ho : f.offset = i ∧ P.cellsOf f.type = 1) (hc : cs[i]? = some c) (hy : y.isSome = true)
    (h : DataW.trod enc P W base spare held n f.type ((cs.drop f.offset).take (P.cellsOf f.type)) = y) : ∃ x, c = .int k x ∧ (Lit.int k x).wf = true := by
  obtain ⟨y', rfl⟩ := Option.isSome_iff_exists.1 hy
  obtain ⟨x, h1, _, h3⟩ := DataW.trod_int ht h
  rw [ho.1, ho.2] at h1
  obtain ⟨hi, he⟩ := List.getElem?_eq_some_iff.1 hc
  have : (cs.drop i).take 1 = [cs[i]] := by rw [List.drop_eq_getElem_cons hi]; rfl
  rw [this] at h1
  refine ⟨x, ?_, h3⟩
  rw [← he]
  simpa using h1
theorem bu8 {x : Int} (h : (Lit.int .u8 x).wf = true) : 0 ≤ x ∧ x ≤ 255 := by simpa [Lit.wf, IntKind.min, IntKind.max, IntKind.signed, IntKind.bits] using h
theorem bu16 {x : Int} (h : (Lit.int .u16 x).wf = true) : 0 ≤ x ∧ x ≤ 65535 := by simpa [Lit.wf, IntKind.min, IntKind.max, IntKind.signed, IntKind.bits] using h
theorem bd64 {x : Int} (h : (Lit.int .i64 x).wf = true) : -9223372036854775808 ≤ x ∧ x ≤ 9223372036854775807 := by simpa [Lit.wf, IntKind.min, IntKind.max, IntKind.signed, IntKind.bits] using h

theorem cellsLife : Tryz.prog.cellsOf 25 = 3 := by kernel_rfl
theorem arrLife {α : Type} {cs : Array α} (h : cs.size = 3) : ∃ c0 c1 c2, cs = #[c0, c1, c2] := by
  obtain ⟨l⟩ := cs
  match l, h with
  | [c0, c1, c2], _ => exact ⟨c0, c1, c2, rfl⟩
theorem openLife {H : Type} {enc : TypeId × Value → H} {W : World} {r : Reach} {b0 base : Nat} {spare : Nat → Bool} {held : Bool} {v : Value} {d : DataW H} {p : List MemPlace}
    (hv : Value.okWide Tryz.prog W r b0 25 v) (h : DataW.Trod enc Tryz.prog W base spare held 25 v d p) :
    ∃ x0 x1 x2 : Int, v = .agg #[.int .u8 x0, .int .u16 x1, .int .u16 x2] ∧ (0 ≤ x0 ∧ x0 ≤ 255) ∧ (0 ≤ x1 ∧ x1 ≤ 65535) ∧ (0 ≤ x2 ∧ x2 ≤ 65535) := by
  obtain ⟨cs, rfl, hsz⟩ := okWide_struct Tryz.underlying25 hv
  obtain ⟨c0, c1, c2, rfl⟩ := arrLife (hsz.trans cellsLife)
  obtain ⟨fuel, hf⟩ := h
  obtain ⟨xs, n, _, _, _, hlen, hfs⟩ := DataW.trod_struct Tryz.underlying25 hf
  have hl : xs.length = 3 := hlen
  have g0 := hfs 0 _ rfl
  obtain ⟨x0, rfl, q0⟩ := field_int Tryz.underlying5 (i := 0) (c := c0) ⟨rfl, by kernel_rfl⟩ rfl (by rw [List.getElem?_eq_getElem (show 0 < xs.length by rw [hl]; decide)]; rfl) g0
  have g1 := hfs 1 _ rfl
  obtain ⟨x1, rfl, q1⟩ := field_int Tryz.underlying23 (i := 1) (c := c1) ⟨rfl, by kernel_rfl⟩ rfl (by rw [List.getElem?_eq_getElem (show 1 < xs.length by rw [hl]; decide)]; rfl) g1
  have g2 := hfs 2 _ rfl
  obtain ⟨x2, rfl, q2⟩ := field_int Tryz.underlying23 (i := 2) (c := c2) ⟨rfl, by kernel_rfl⟩ rfl (by rw [List.getElem?_eq_getElem (show 2 < xs.length by rw [hl]; decide)]; rfl) g2
  exact ⟨x0, x1, x2, rfl, bu8 q0, bu16 q1, bu16 q2⟩

theorem cellsGens : Tryz.prog.cellsOf 27 = 4 := by kernel_rfl
theorem arrGens {α : Type} {cs : Array α} (h : cs.size = 4) : ∃ c0 c1 c2 c3, cs = #[c0, c1, c2, c3] := by
  obtain ⟨l⟩ := cs
  match l, h with
  | [c0, c1, c2, c3], _ => exact ⟨c0, c1, c2, c3, rfl⟩
theorem openGens {H : Type} {enc : TypeId × Value → H} {W : World} {r : Reach} {b0 base : Nat} {spare : Nat → Bool} {held : Bool} {v : Value} {d : DataW H} {p : List MemPlace}
    (hv : Value.okWide Tryz.prog W r b0 27 v) (h : DataW.Trod enc Tryz.prog W base spare held 27 v d p) :
    ∃ x0 x1 x2 x3 : Int, v = .agg #[.int .u8 x0, .int .u16 x1, .int .u16 x2, .int .i64 x3] ∧ (0 ≤ x0 ∧ x0 ≤ 255) ∧ (0 ≤ x1 ∧ x1 ≤ 65535) ∧ (0 ≤ x2 ∧ x2 ≤ 65535) ∧ (-9223372036854775808 ≤ x3 ∧ x3 ≤ 9223372036854775807) := by
  obtain ⟨cs, rfl, hsz⟩ := okWide_struct Tryz.underlying27 hv
  obtain ⟨c0, c1, c2, c3, rfl⟩ := arrGens (hsz.trans cellsGens)
  obtain ⟨fuel, hf⟩ := h
  obtain ⟨xs, n, _, _, _, hlen, hfs⟩ := DataW.trod_struct Tryz.underlying27 hf
  have hl : xs.length = 2 := hlen
  have g0 := hfs 0 _ rfl
  have g1 := hfs 1 _ rfl
  obtain ⟨x3, rfl, q3⟩ := field_int Tryz.underlying3 (i := 3) (c := c3) ⟨rfl, by kernel_rfl⟩ rfl (by rw [List.getElem?_eq_getElem (show 1 < xs.length by rw [hl]; decide)]; rfl) g1
  rw [List.getElem?_eq_getElem (show 0 < xs.length by rw [hl]; decide)] at g0
  obtain ⟨ys, m, _, _, _, hlen2, hfs2⟩ := DataW.trod_struct Tryz.underlying25 g0
  have hl2 : ys.length = 3 := hlen2
  have k0 := hfs2 0 _ rfl
  have k1 := hfs2 1 _ rfl
  have k2 := hfs2 2 _ rfl
  obtain ⟨x0, rfl, q0⟩ := field_int Tryz.underlying5 (i := 0) (c := c0) ⟨rfl, by kernel_rfl⟩ rfl (by rw [List.getElem?_eq_getElem (show 0 < ys.length by rw [hl2]; decide)]; rfl) k0
  obtain ⟨x1, rfl, q1⟩ := field_int Tryz.underlying23 (i := 1) (c := c1) ⟨rfl, by kernel_rfl⟩ rfl (by rw [List.getElem?_eq_getElem (show 1 < ys.length by rw [hl2]; decide)]; rfl) k1
  obtain ⟨x2, rfl, q2⟩ := field_int Tryz.underlying23 (i := 2) (c := c2) ⟨rfl, by kernel_rfl⟩ rfl (by rw [List.getElem?_eq_getElem (show 2 < ys.length by rw [hl2]; decide)]; rfl) k2
  exact ⟨x0, x1, x2, x3, rfl, bu8 q0, bu16 q1, bu16 q2, bd64 q3⟩

theorem uInts : Tryz.prog.underlying 40 = some (.slice 3) := by kernel_rfl
theorem uInt1 : Tryz.prog.underlying 3 = some (.int .i64) := by kernel_rfl
theorem cInt1 : Tryz.prog.cellsOf 3 = 1 := by kernel_rfl
/-- Ints that can be read. -/
def Sd (w : World) (sp : Option Addr) (n : Nat) (F : Nat → Int) : Prop := ∀ k, k < n → ∃ a, sp = some a ∧ w.cell? (a.add k) = some (.int .i64 (F k))
theorem openInts {H : Type} {enc : TypeId × Value → H} {W : World} {r : Reach} {b0 : Nat} {v : Value} {d : DataW H} {p : List MemPlace}
    (hv : Value.okWide Tryz.prog W r b0 40 v) (h : DataW.Trod enc Tryz.prog W 0 (fun _ => true) true 40 v d p) :
    ∃ sp n c F, v = .slice sp n c ∧ (n ≤ c ∧ c ≤ 9223372036854775807) ∧ Sd W sp n F ∧ ∀ k, k < n → -9223372036854775808 ≤ F k ∧ F k ≤ 9223372036854775807 := by
  obtain ⟨a, len, cap, rfl⟩ := okWide_slice uInts hv
  obtain ⟨fuel, hf⟩ := h
  rcases open_ints uInts uInt1 cInt1 hf with ⟨hcs, _⟩ | ⟨a', len', cap', zs, hcs, _, hl, hm, hz, _, hc, hw⟩
  · simp [Value.cells] at hcs
    obtain ⟨rfl, rfl, rfl⟩ := hcs
    exact ⟨none, 0, 0, fun _ => 0, rfl, ⟨Nat.le_refl _, by decide⟩, fun k hk => absurd hk (Nat.not_lt_zero _), fun k hk => absurd hk (Nat.not_lt_zero _)⟩
  · simp [Value.cells] at hcs
    obtain ⟨rfl, rfl, rfl⟩ := hcs
    have hz' : zs.length = cap := hz
    refine ⟨_, _, _, fun k => zs.getD k 0, rfl, ⟨hl, hm⟩, fun k hk => ⟨_, rfl, hc k (by omega)⟩, fun k hk => ?_⟩
    have hk' : k < zs.length := by omega
    have := hw (zs.getD k 0) (by rw [List.getD, List.getElem?_eq_getElem hk']; exact List.getElem_mem hk')
    exact bd64 this
end Go.Proofs.YtlkdenanbofliaaGreatDoor
