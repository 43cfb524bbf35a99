/- The document's Times. -/
import Derived.Test.YtijjbejilpglnaaGreatN39
namespace Go.Proofs.YtijjbejilpglnaaGreat
open Go.RowKit
set_option linter.unusedVariables false
set_option linter.unusedSimpArgs false
set_option maxRecDepth 100000

namespace Ln
theorem tnL_len (p : Pt) : ∀ L : List Pt, (tnL L p).length ≤ L.length + 1
  | [] => Nat.le_refl _
  | r :: L => by
    have := tnL_len p L
    unfold tnL
    split
    · simp only [List.length_cons]; omega
    · split
      · simp only [List.length_cons]; omega
      · simp only [List.length_cons]; omega
theorem xor_swap (a b c : Bool) : Bool.xor (Bool.xor a b) c = Bool.xor (Bool.xor a c) b := by cases a <;> cases b <;> cases c <;> rfl
theorem dec_cons (q r : Pt) (L : List Pt) (h : r ∉ L) : decide (q ∈ r :: L) = Bool.xor (decide (q = r)) (decide (q ∈ L)) := by
  by_cases e : q = r
  · subst e
    rw [decide_eq_true (List.mem_cons_self), decide_eq_true rfl, decide_eq_false h]; rfl
  · rw [decide_eq_false e]
    by_cases m : q ∈ L
    · rw [decide_eq_true (List.mem_cons_of_mem _ m), decide_eq_true m]; rfl
    · rw [decide_eq_false (fun hh => (List.mem_cons.1 hh).elim e m), decide_eq_false m]; rfl
theorem tnL_flip (p q : Pt) : ∀ {L : List Pt}, Sd L → decide (q ∈ tnL L p) = Bool.xor (decide (q ∈ L)) (decide (q = p))
  | [], _ => by
    unfold tnL
    rw [dec_cons q p [] (by simp)]
    cases decide (q = p) <;> simp
  | r :: L, h => by
    obtain ⟨h1, h2⟩ := List.pairwise_cons.1 h
    have hr : r ∉ L := fun hm => by have := h1 r hm; rw [ahB_is] at this; omega
    have ih := tnL_flip p q h2
    unfold tnL
    split
    · rename_i ha
      have hn : r ∉ tnL L p := fun hm => by
        rcases tnL_mem hm with hm | hm
        · exact hr hm
        · subst hm; rw [ahB_is] at ha; omega
      rw [dec_cons q r _ hn, dec_cons q r L hr, ih]
      cases decide (q = r) <;> cases decide (q ∈ L) <;> cases decide (q = p) <;> rfl
    · rename_i ha
      split
      · rename_i e
        subst e
        rw [dec_cons q r L hr]
        cases decide (q = r) <;> cases decide (q ∈ L) <;> rfl
      · rename_i e
        have hp : p ∉ r :: L := fun hm => by
          rcases List.mem_cons.1 hm with hm | hm
          · exact e hm.symm
          · exact ha (h1 p hm)
        rw [dec_cons q p _ hp]
        cases decide (q = p) <;> cases decide (q ∈ r :: L) <;> rfl
theorem odS_snoc (f : Nat → Pt) (n : Nat) (q p : Pt) : ∀ S : List Pt, odS (S ++ [p]) f n q = Bool.xor (odS S f n q) (od1 p f n q)
  | [] => by show Bool.xor (od1 p f n q) false = Bool.xor false (od1 p f n q); cases od1 p f n q <;> rfl
  | r :: S => by
    show Bool.xor (od1 r f n q) (odS (S ++ [p]) f n q) = Bool.xor (Bool.xor (od1 r f n q) (odS S f n q)) (od1 p f n q)
    rw [odS_snoc f n q p S]
    cases od1 r f n q <;> cases odS S f n q <;> cases od1 p f n q <;> rfl
theorem adL_psL {f : Nat → Pt} : ∀ {n : Nat}, tw f n = false → adL f n = psL f n
  | 0, _ => rfl
  | n + 1, h => by
    have hd := (adL_full f (n + 1)).1 (by
      have := adL_len f (n + 1)
      unfold tw at h
      have := of_decide_eq_false h
      omega)
    have ih := adL_psL (f := f) (n := n) (tw_no (fun i j hij hj => hd i j hij (by omega)))
    rw [psL_succ, ← ih]
    show adp (adL f n) (f n) = _
    unfold adp
    rw [if_neg (fun hm => by
      obtain ⟨i, hi, e⟩ := (mem_adL f (f n) n).1 hm
      exact hd i n hi (by omega) e.symm)]
/-- The document's product is the program's. -/
theorem srt_doc {f1 f2 : Nat → Pt} {n1 n2 : Nat} {T D : List Pt} (ht : tw f1 n1 = false) (hT : tmS f1 n1 f2 n2 T) (hD : Sd D) (hq : ∀ q, decide (q ∈ D) = odS (psL f1 n1) f2 n2 q) : srt T = D := by
  obtain ⟨hn, hT⟩ := hT
  refine srtA ((List.perm_ext_iff_of_nodup hD.nodup hn).2 (fun q => ?_)) (hD.imp (fun {x y} h => (ahB_is x y).1 h))
  have e1 := hT q
  rw [adL_psL ht, ← hq q] at e1
  by_cases m : q ∈ D
  · rw [decide_eq_true m] at e1
    exact ⟨fun _ => of_decide_eq_true e1, fun _ => m⟩
  · rw [decide_eq_false m] at e1
    exact ⟨fun h => absurd h m, fun h => absurd h (of_decide_eq_false e1)⟩
end Ln
end Go.Proofs.YtijjbejilpglnaaGreat
