/- A table of arrays and structs of whole numbers: what reads as it holds its numbers, cell by cell. Nothing of the program in it. -/
import Derived.Test.YthjiiljglgmkpaaGreatDoorRows
import Derived.LaidLaws
import Derived.ChangeArms
import Derived.OpenShut
namespace Go.Proofs.YthjiiljglgmkpaaGreatDoor
open Go
set_option linter.unusedVariables false

mutual
def flat {H : Type} : DataW H → List Value
  | .lit (.int k z) => [.int k z]
  | .agg ds => flats ds
  | _ => []
def flats {H : Type} : List (DataW H) → List Value
  | [] => []
  | d :: r => flat d ++ flats r
end
def contigN : Nat → List (Nat × Nat) → Nat → Bool
  | o, [], e => o == e
  | o, p :: r, e => p.1 == o && contigN (o + p.2) r e
/-- A type of whole numbers, arrays and structs of such, without gaps. -/
def plainT (P : Program) : Nat → TypeId → Bool
  | 0, _ => false
  | n + 1, t => match P.underlying t with
    | some (.int _) => true
    | some (.array m e) => plainT P n e && P.cellsOf t == m * P.cellsOf e
    | some (.struct fs) => contigN 0 (fs.toList.map fun f => (f.offset, P.cellsOf f.type)) (P.cellsOf t) && fs.toList.all fun f => plainT P n f.type
    | _ => false
theorem pieces {H : Type} (cs : List Value) : ∀ (xs : List (DataW H × List MemPlace)) (os : List (Nat × Nat)) (o : Nat), xs.length = os.length → (∀ (i : Nat) (x : DataW H × List MemPlace) (p : Nat × Nat), xs[i]? = some x → os[i]? = some p → (cs.drop p.1).take p.2 = flat x.1) → contigN o os cs.length = true → cs.drop o = flats (xs.map (·.1))
  | [], [], o, _, _, h => by
    have h' : o = cs.length := by simpa [contigN] using h
    rw [h', List.drop_length]; rfl
  | x :: xs, p :: os, o, hl, hp, h => by
    simp only [contigN, Bool.and_eq_true, beq_iff_eq] at h
    obtain ⟨h1, h2⟩ := h
    have e1 := hp 0 x p rfl rfl
    have e2 := pieces cs xs os (o + p.2) (by simpa using hl) (fun i y q hy hq => hp (i + 1) y q (by simpa using hy) (by simpa using hq)) h2
    rw [h1] at e1
    show cs.drop o = flat x.1 ++ flats (xs.map (·.1))
    rw [← e1, ← e2, ← List.drop_drop, List.take_append_drop]
  | [], _ :: _, _, hl, _, _ => by simp at hl
  | _ :: _, [], _, hl, _, _ => by simp at hl
theorem contig_range (c : Nat) : ∀ (n k : Nat), contigN (k * c) ((List.range' k n).map fun i => (i * c, c)) ((k + n) * c) = true
  | 0, k => by simp [contigN]
  | n + 1, k => by
    rw [List.range'_succ, List.map_cons]
    simp only [contigN, Bool.and_eq_true, beq_iff_eq, true_and]
    have := contig_range c n (k + 1)
    rw [show k * c + c = (k + 1) * c by rw [Nat.add_mul, Nat.one_mul], show k + (n + 1) = k + 1 + n by omega]
    exact this
/-- What reads as the datum holds its numbers. -/
theorem flat_of {H : Type} {enc : TypeId × Value → H} {P : Program} {w : World} {base : Nat} {spare : Nat → Bool} {held : Bool} : ∀ (n fuel : Nat) (t : TypeId) (cs : List Value) (x : DataW H × List MemPlace), plainT P n t = true → DataW.trod enc P w base spare held fuel t cs = some x → cs = flat x.1
  | 0, _, _, _, _, h, _ => by simp [plainT] at h
  | n + 1, fuel, t, cs, x, h, hx => by
    unfold plainT at h
    split at h
    · rename_i k ht
      obtain ⟨z, h1, h2, _⟩ := DataW.trod_int ht hx
      rw [h1, h2]; rfl
    · rename_i m e ht
      simp only [Bool.and_eq_true, beq_iff_eq] at h
      obtain ⟨xs, fl, _, rfl, hl, hxs, hi⟩ := DataW.trod_array ht hx
      have hc := contig_range (P.cellsOf e) m 0
      rw [Nat.zero_mul, Nat.zero_add, ← List.range_eq_range', ← h.2, ← hl] at hc
      have := pieces cs xs ((List.range m).map fun i => (i * P.cellsOf e, P.cellsOf e)) 0 (by simpa using hxs) (fun i y p hy hp => by
        have him : i < m := by rw [← hxs]; exact (List.getElem?_eq_some_iff.1 hy).1
        have hp' : p = (i * P.cellsOf e, P.cellsOf e) := by
          rw [List.getElem?_map, List.getElem?_range him] at hp
          exact (Option.some.inj hp).symm
        subst hp'
        exact flat_of n fl e _ y h.1 ((hi i him).trans hy)) hc
      rw [List.drop_zero] at this
      exact this
    · rename_i fs ht
      simp only [Bool.and_eq_true] at h
      obtain ⟨xs, fl, _, rfl, hl, hxs, hi⟩ := DataW.trod_struct ht hx
      have := pieces cs xs (fs.toList.map fun f => (f.offset, P.cellsOf f.type)) 0 (by simpa using hxs) (fun i y p hy hp => by
        rw [List.getElem?_map, Option.map_eq_some_iff] at hp
        obtain ⟨f, hf, rfl⟩ := hp
        have hm : f ∈ fs.toList := List.mem_of_getElem? hf
        have hf' : fs[i]? = some f := by simpa using hf
        exact flat_of n fl f.type _ y (List.all_eq_true.1 h.2 f hm) ((hi i f hf').trans hy)) (by rw [hl]; exact h.1)
      rw [List.drop_zero] at this
      exact this
    · cases h
end Go.Proofs.YthjiiljglgmkpaaGreatDoor
