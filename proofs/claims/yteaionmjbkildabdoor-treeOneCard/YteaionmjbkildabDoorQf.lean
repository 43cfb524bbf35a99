/- A function of the statements that came in, opened. -/
import Derived.Test.YteaionmjbkildabDoorQ41
namespace Go.Proofs.YteaionmjbkildabDoor
open Go.ChangeShapes Go.WideShapes Go.RowKit Go.ChangeAt Go.Deep
set_option linter.unusedVariables false
set_option linter.unusedSimpArgs false
set_option maxRecDepth 100000

theorem fnCells : Tryd.prog.cellsOf 46 = 3 := by kernel_rfl
theorem array3f {α : Type} {cs : Array α} (h : cs.size = 3) : ∃ c0 c1 c2, cs = #[c0, c1, c2] := by
  obtain ⟨l⟩ := cs
  match l, h with
  | [c0, c1, c2], _ => exact ⟨c0, c1, c2, rfl⟩
theorem bdi {x : Int} (h : (Lit.int .i64 x).wf = true) : -9223372036854775808 ≤ x ∧ x ≤ 9223372036854775807 := by simpa [Lit.wf, IntKind.min, IntKind.max, IntKind.signed, IntKind.bits] using h
set_option maxHeartbeats 2000000 in
theorem openF {H : Type} {enc : TypeId × Value → H} {W : World} {r : Reach} {b0 : Nat} {v : Value} {d : DataW H} {p : List MemPlace}
    (hv : Value.okWide Tryd.prog W r b0 46 v) (h : DataW.Trod enc Tryd.prog W 0 (fun _ => true) true 46 v d p) (hw : ∀ y ∈ d.weights Tryd.prog 46, y ≤ reachBytes) :
    ∃ (S I : Int) (sp : Option Addr) (n c : Nat) (f : Nat → Nat), v = .agg #[.int .i64 S, .int .i64 I, .slice sp n c] ∧ (-9223372036854775808 ≤ S ∧ S ≤ 9223372036854775807) ∧ (-9223372036854775808 ≤ I ∧ I ≤ 9223372036854775807) ∧ n ≤ 140737488355328 ∧ (∀ i, f i < 256) ∧ By W sp n f := by
  obtain ⟨cs, rfl, hsz⟩ := okWide_struct Tryd.underlying46 hv
  obtain ⟨c0, c1, c2, rfl⟩ := array3f (hsz.trans fnCells)
  obtain ⟨fuel, hf⟩ := h
  obtain ⟨xs, n, _, hx, _, hlen, hfs⟩ := DataW.trod_struct Tryd.underlying46 hf
  have hl3 : xs.length = 3 := hlen
  obtain ⟨x0, x1, x2, rfl⟩ : ∃ x0 x1 x2, xs = [x0, x1, x2] := by
    match xs, hl3 with
    | [x0, x1, x2], _ => exact ⟨x0, x1, x2, rfl⟩
  have g0 := hfs 0 _ rfl
  have g1 := hfs 1 _ rfl
  obtain ⟨S, rfl, q0⟩ := rField uI (i := 0) (c := c0) ⟨rfl, by kernel_rfl⟩ rfl rfl g0
  obtain ⟨I, rfl, q1⟩ := rField uI (i := 1) (c := c1) ⟨rfl, by kernel_rfl⟩ rfl rfl g1
  have g2 := hfs 2 _ rfl
  have g2' : DataW.trod enc Tryd.prog W 0 (fun _ => true) true n 44 [c2] = some x2 := g2
  have hd := congrArg Prod.fst hx
  obtain ⟨sa, m, ca, f, rfl, h1, h2, h3, h4⟩ := openBy g2' (fun y hy => hw y (by
    rw [show d = .agg [x0.1, x1.1, x2.1] from hd]
    simp only [DataW.weights, Tryd.underlying46]
    exact DataW.weights_mem_each (j := 2) (t := 44) (d := x2.1) rfl rfl y hy))
  exact ⟨S, I, sa, m, ca, f, rfl, bdi q0, bdi q1, by omega, h3, h2⟩
end Go.Proofs.YteaionmjbkildabDoor
