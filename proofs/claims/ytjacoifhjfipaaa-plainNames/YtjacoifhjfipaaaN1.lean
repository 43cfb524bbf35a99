/- Points as keys of maps. -/
import Derived.DeepKeys4
import Derived.Maps.OwnSet
import Derived.Maps.RangeWalk
import Derived.Test.YtjacoifhjfipaaaBo
import Derived.Test.YtjacoifhjfipaaaProg
import Derived.WalkKit
namespace Go.Proofs.Ytjacoifhjfipaaa
open Go.RowKit
set_option linter.unusedVariables false
set_option linter.unusedSimpArgs false
set_option maxRecDepth 100000

namespace Ln
abbrev Pt := Int × Int
def PtOk (p : Pt) : Prop := (-9223372036854775808 ≤ p.1 ∧ p.1 ≤ 9223372036854775807) ∧ (-9223372036854775808 ≤ p.2 ∧ p.2 ≤ 9223372036854775807)
def ptV (p : Pt) : Value := .agg #[.int .i64 p.1, .int .i64 p.2]
theorem laidK : laidOutB Try.prog = true := by kernel_rfl
theorem rowK : 76 < Try.prog.types.size := of_decide_eq_true (by kernel_rfl)
theorem wideK : (match Try.prog.underlying 76 with | some (.array _ _) | some (.struct _) => true | _ => false) = true := by kernel_rfl
theorem lawK : Maps.Keyed Try.prog 76 := Maps.Keyed.of_law (deep_law_laid laidK (m := 3) (by omega) rowK (by kernel_rfl) wideK)
theorem underM : Try.prog.underlying 54 = some (.map 76 5) := by kernel_rfl
theorem underI : Try.prog.underlying 3 = some (.int .i64) := by kernel_rfl
theorem keyT : Try.prog.keyType 76 = true := by kernel_rfl
theorem cellsK : Try.prog.cellsOf 76 = 2 := by kernel_rfl
theorem cellsI : Try.prog.cellsOf 3 = 1 := by kernel_rfl
theorem zeroU (w : World) : (zeroValue 5).run Try.prog w = .ok (.int .u8 0) w := by kernel_rfl
theorem underU : Try.prog.underlying 5 = some (.int .u8) := by kernel_rfl
theorem fieldsK : ∃ f0 f1 : Field, Try.prog.underlying 76 = some (.struct #[f0, f1]) ∧ f0.type = 3 ∧ f0.offset = 0 ∧ f1.type = 3 ∧ f1.offset = 1 ∧ (f0.name != "_") = true ∧ (f1.name != "_") = true := by
  have h : (match Try.prog.underlying 76 with | some (.struct fs) => (decide (fs.toList.map (fun f => (f.type, f.offset, f.name != "_")) = [(3, 0, true), (3, 1, true)])) | _ => false) = true := by kernel_rfl
  split at h
  · rename_i fs hfs
    rcases fs with ⟨l⟩
    match l, of_decide_eq_true h with
    | [f0, f1], e =>
      simp only [List.map_cons, List.map_nil, List.cons.injEq, Prod.mk.injEq, and_true] at e
      exact ⟨f0, f1, hfs, e.1.1, e.1.2.1, e.2.1, e.2.2.1, e.1.2.2, e.2.2.2⟩
  · cases h
/-- What a key reads as. -/
def pk (p : Pt) : Lit := .string (keyBytes [.int .i64 p.1, .int .i64 p.2])
theorem typesK : Try.prog.types.size + 1 = (Try.prog.types.size - 1) + 1 + 1 := by have := rowK; omega
theorem keyOf_is (v : Value) (l : Lit) : keyOf Try.prog 76 v = some l ↔ ∃ x y, v = .agg #[.int .i64 x, .int .i64 y] ∧ (Lit.int .i64 x).wf = true ∧ (Lit.int .i64 y).wf = true ∧ l = pk (x, y) := by
  obtain ⟨f0, f1, hf, t0, o0, t1, o1, n0, n1⟩ := fieldsK
  have e : keyOf Try.prog 76 v = if v.formed Try.prog 76 then (Try.prog.keyLits (Try.prog.types.size + 1) 76 v.cells.toList).map (fun ls => .string (keyBytes ls)) else none := by
    unfold keyOf; rw [hf]; simp [keyT]
  obtain ⟨D, hD⟩ : ∃ D, Try.prog.types.size + 1 = D + 1 + 1 := ⟨Try.prog.types.size - 1, typesK⟩
  rw [hD] at e
  have kI : ∀ c, Try.prog.keyLits (D + 1) 3 [c] = (match c with | .int q' n => if q' = .i64 ∧ (Lit.int .i64 n).wf = true then some [.int .i64 n] else none | _ => none) := fun c => by
    unfold Program.keyLits; rw [underI]; cases c <;> rfl
  have kK : ∀ c0 c1, Try.prog.keyLits (D + 1 + 1) 76 [c0, c1] = ((Try.prog.keyLits (D + 1) 3 [c0]).bind fun x => (Try.prog.keyLits (D + 1) 3 [c1]).map fun y => x ++ y) := fun c0 c1 => by
    conv => lhs; unfold Program.keyLits
    rw [hf]
    simp only [List.length_cons, List.length_nil, cellsK, Nat.reduceAdd, true_and, Array.all_push, List.mapM_cons, List.mapM_nil, t0, o0, t1, o1, cellsI, List.drop_zero, List.take_succ_cons, List.take_zero, List.drop_succ_cons]
    have hall : (#[f0, f1].all fun x => x.name != "_") = true := by simp_all
    rw [hall, if_pos rfl]
    cases Try.prog.keyLits (D + 1) 3 [c0] <;> cases Try.prog.keyLits (D + 1) 3 [c1] <;> simp
  rw [e]
  constructor
  · intro h
    split at h
    · rename_i hfm
      cases v with
      | agg cs =>
        simp only [Value.formed, hf, cellsK, beq_iff_eq] at hfm
        rcases cs with ⟨l⟩
        match l, hfm with
        | [c0, c1], _ =>
          have ec : (Value.agg #[c0, c1]).cells.toList = [c0, c1] := rfl
          rw [ec, kK, kI, kI] at h
          obtain ⟨ls, h1, h2⟩ := Option.map_eq_some_iff.1 h
          obtain ⟨x, h3, h4⟩ := Option.bind_eq_some_iff.1 h1
          obtain ⟨y, h5, h6⟩ := Option.map_eq_some_iff.1 h4
          cases c0 <;> simp at h3
          cases c1 <;> simp at h5
          obtain ⟨⟨rfl, hw⟩, rfl⟩ := h3
          obtain ⟨⟨rfl, hb⟩, rfl⟩ := h5
          subst h6
          exact ⟨_, _, rfl, hw, hb, h2.symm⟩
      | _ => simp [Value.formed, hf] at hfm
    · cases h
  · rintro ⟨x, y, rfl, hw, hb, rfl⟩
    have hfm : (Value.agg #[.int .i64 x, .int .i64 y]).formed Try.prog 76 = true := by simp [Value.formed, hf, cellsK]
    rw [hfm, if_pos rfl]
    have ec : (Value.agg #[.int .i64 x, .int .i64 y]).cells.toList = [.int .i64 x, .int .i64 y] := rfl
    rw [ec, kK, kI, kI]
    simp [hw, hb, pk]
theorem PtOk.wf {p : Pt} (h : PtOk p) : (Lit.int .i64 p.1).wf = true ∧ (Lit.int .i64 p.2).wf = true := ⟨WalkArith.wf_i64 (by have := h.1; omega), WalkArith.wf_i64 (by have := h.2; omega)⟩
theorem PtOk.key {p : Pt} (h : PtOk p) : keyOf Try.prog 76 (ptV p) = some (pk p) := (keyOf_is _ _).2 ⟨p.1, p.2, rfl, h.wf.1, h.wf.2, rfl⟩
theorem ptV_inj {p q : Pt} (h : ptV p = ptV q) : p = q := by
  simp only [ptV, Value.agg.injEq, Array.mk.injEq, List.cons.injEq, Value.int.injEq, true_and, and_true] at h
  exact Prod.ext h.1 h.2
theorem pk_inj {p q : Pt} (hp : PtOk p) (hq : PtOk q) (h : pk p = pk q) : p = q := ptV_inj (lawK.inj hp.key (h ▸ hq.key))
end Ln
end Go.Proofs.Ytjacoifhjfipaaa
