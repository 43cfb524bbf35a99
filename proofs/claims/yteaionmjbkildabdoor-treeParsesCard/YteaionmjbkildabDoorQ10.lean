/- The keys of a form: a state and a text. -/
import Derived.DeepKeys4
import Derived.Maps.OwnSet
import Derived.Maps.RangeWalk
import Derived.Test.YteaionmjbkildabDoorQ9
namespace Go.Proofs.YteaionmjbkildabDoor
open Go.RowKit
set_option linter.unusedVariables false
set_option linter.unusedSimpArgs false
set_option maxRecDepth 100000

theorem laidK : laidOutB Tryd.prog = true := by kernel_rfl
theorem rowK : 116 < Tryd.prog.types.size := of_decide_eq_true (by kernel_rfl)
theorem wideK : (match Tryd.prog.underlying 116 with | some (.array _ _) | some (.struct _) => true | _ => false) = true := by kernel_rfl
theorem lawK : Maps.Keyed Tryd.prog 116 := Maps.Keyed.of_law (deep_law_laid laidK (m := 3) (by omega) rowK (by kernel_rfl) wideK)
theorem underM : Tryd.prog.underlying 100 = some (.map 116 3) := by kernel_rfl
theorem keyT : Tryd.prog.keyType 116 = true := by kernel_rfl
theorem cellsK : Tryd.prog.cellsOf 116 = 2 := by kernel_rfl
theorem cells8 : Tryd.prog.cellsOf 5 = 1 := by kernel_rfl
theorem cellsS : Tryd.prog.cellsOf 9 = 1 := by kernel_rfl
theorem zeroI (w : World) : (zeroValue 3).run Tryd.prog w = .ok (.int .i64 0) w := by kernel_rfl
theorem fieldsK : ∃ f0 f1 : Field, Tryd.prog.underlying 116 = some (.struct #[f0, f1]) ∧ f0.type = 5 ∧ f0.offset = 0 ∧ f1.type = 9 ∧ f1.offset = 1 ∧ (f0.name != "_") = true ∧ (f1.name != "_") = true := by
  have h : (match Tryd.prog.underlying 116 with | some (.struct fs) => (decide (fs.toList.map (fun f => (f.type, f.offset, f.name != "_")) = [(5, 0, true), (9, 1, true)])) | _ => false) = true := by kernel_rfl
  split at h
  · rename_i fs hfs
    rcases fs with ⟨l⟩
    match l, of_decide_eq_true h with
    | [f0, f1], e =>
      simp only [List.map_cons, List.map_nil, List.cons.injEq, Prod.mk.injEq, and_true] at e
      exact ⟨f0, f1, hfs, e.1.1, e.1.2.1, e.2.1, e.2.2.1, e.1.2.2, e.2.2.2⟩
  · cases h
/-- What a key reads as. -/
def kl (st : Int) (b : ByteArray) : Lit := .string (keyBytes [.int .u8 st, .string b.data.toList])
theorem typesK : Tryd.prog.types.size + 1 = (Tryd.prog.types.size - 1) + 1 + 1 := by have := rowK; omega
theorem keyOf_is (v : Value) (l : Lit) : keyOf Tryd.prog 116 v = some l ↔ ∃ st b, v = .agg #[.int .u8 st, .string b] ∧ (Lit.int .u8 st).wf = true ∧ b.size ≤ maxLen ∧ l = kl st b := by
  obtain ⟨f0, f1, hf, t0, o0, t1, o1, n0, n1⟩ := fieldsK
  have e : keyOf Tryd.prog 116 v = if v.formed Tryd.prog 116 then (Tryd.prog.keyLits (Tryd.prog.types.size + 1) 116 v.cells.toList).map (fun ls => .string (keyBytes ls)) else none := by
    unfold keyOf; rw [hf]; simp [keyT]
  obtain ⟨D, hD⟩ : ∃ D, Tryd.prog.types.size + 1 = D + 1 + 1 := ⟨Tryd.prog.types.size - 1, typesK⟩
  rw [hD] at e
  have k8 : ∀ c, Tryd.prog.keyLits (D + 1) 5 [c] = (match c with | .int q' n => if q' = .u8 ∧ (Lit.int .u8 n).wf = true then some [.int .u8 n] else none | _ => none) := fun c => by
    unfold Program.keyLits; rw [under8]; cases c <;> rfl
  have kS : ∀ c, Tryd.prog.keyLits (D + 1) 9 [c] = (match c with | .string x => if x.size ≤ maxLen then some [.string x.data.toList] else none | _ => none) := fun c => by
    unfold Program.keyLits; rw [underSt]; cases c <;> rfl
  have kK : ∀ c0 c1, Tryd.prog.keyLits (D + 1 + 1) 116 [c0, c1] = ((Tryd.prog.keyLits (D + 1) 5 [c0]).bind fun x => (Tryd.prog.keyLits (D + 1) 9 [c1]).map fun y => x ++ y) := fun c0 c1 => by
    conv => lhs; unfold Program.keyLits
    rw [hf]
    simp only [List.length_cons, List.length_nil, cellsK, Nat.reduceAdd, true_and, Array.all_push, List.mapM_cons, List.mapM_nil, t0, o0, t1, o1, cells8, cellsS, List.drop_zero, List.take_succ_cons, List.take_zero, List.drop_succ_cons]
    have hall : (#[f0, f1].all fun x => x.name != "_") = true := by simp_all
    rw [hall, if_pos rfl]
    cases Tryd.prog.keyLits (D + 1) 5 [c0] <;> cases Tryd.prog.keyLits (D + 1) 9 [c1] <;> simp
  rw [e]
  constructor
  · intro h
    split at h
    · rename_i hfm
      cases v with
      | agg cs =>
        simp only [Value.formed, hf, cellsK, beq_iff_eq] at hfm
        rcases cs with ⟨l⟩
        match l, hfm with
        | [c0, c1], _ =>
          have ec : (Value.agg #[c0, c1]).cells.toList = [c0, c1] := rfl
          rw [ec, kK, k8, kS] at h
          obtain ⟨ls, h1, h2⟩ := Option.map_eq_some_iff.1 h
          obtain ⟨x, h3, h4⟩ := Option.bind_eq_some_iff.1 h1
          obtain ⟨y, h5, h6⟩ := Option.map_eq_some_iff.1 h4
          cases c0 <;> simp at h3
          cases c1 <;> simp at h5
          obtain ⟨⟨rfl, hw⟩, rfl⟩ := h3
          obtain ⟨hb, rfl⟩ := h5
          subst h6
          exact ⟨_, _, rfl, hw, hb, h2.symm⟩
      | _ => simp [Value.formed, hf] at hfm
    · cases h
  · rintro ⟨st, b, rfl, hw, hb, rfl⟩
    have hfm : (Value.agg #[.int .u8 st, .string b]).formed Tryd.prog 116 = true := by simp [Value.formed, hf, cellsK]
    rw [hfm, if_pos rfl]
    have ec : (Value.agg #[.int .u8 st, .string b]).cells.toList = [.int .u8 st, .string b] := rfl
    rw [ec, kK, k8, kS]
    simp [hw, hb, kl]
end Go.Proofs.YteaionmjbkildabDoor
