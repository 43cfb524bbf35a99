/- A region that draws its order, within a round of a range over a function: it reads, and what follows goes one by one. -/
import Derived.StillTailTactics
import Derived.OrdersIn
import Derived.Test.YteaionmjbkildabDoorQ15
namespace Go.Proofs.YteaionmjbkildabDoor
open Go.RowKit
set_option linter.unusedVariables false

/-- No operation is a defer statement. -/
def noDef (o : Oper) : Bool := match o.op with | .defer _ => false | _ => true
theorem op_in {l n : Nat} {P : Program} {o : Oper} {a : Act} {w : World} {K : Act → World → Prop} {Q : Exit → Act → World → Prop} (hd : noDef o = true) (h : o.wp P a w K Q) : o.wpIn (Fence.wide.inRound l) n P a w K Q := by
  refine ⟨fun _ _ => trivial, ?_⟩
  rw [Oper.semAt_eq _ _ _ (fun c e => by simp [noDef, e] at hd)]
  unfold Oper.wp at h
  generalize (execOp a.eval o).run P w = r at h
  cases r with
  | ok x w' =>
    cases x <;> simp only [Oper.upon, Oper.uponIn] at h ⊢ <;> first | exact h | exact ⟨fun e => by simp [Fence.wide] at e, CallsIn.inRound l (callsIn_wide.2 h)⟩ | exact ⟨fun e => by simp [Fence.wide] at e, fun c cs _ => by obtain ⟨v, w', r, s⟩ := h c cs; exact ⟨v, w', r, stepsIn_wide.2 s⟩⟩ | exact h.elim
  | halt x w' => cases x <;> simp only [Oper.upon, Oper.uponIn] at h ⊢ <;> exact h
theorem any_in {l n : Nat} {P : Program} {md : Region.Mode} {ops : Array Oper} {Q : Exit → Act → World → Prop} (hd : ∀ (i : Nat) (o : Oper), ops[i]? = some o → noDef o = true) (hno : ¬ LetsOut Q) : ∀ (fuel : Nat) (listed : Array Bool) (a : Act) (w : World), wpAny P md ops Q fuel listed a w → wpAnyIn (Fence.wide.inRound l) n P md ops Q fuel listed a w
  | 0, listed, a, w, h => h
  | fuel + 1, listed, a, w, h => by
    refine ⟨h.1, fun i hi => ?_⟩
    have h2 := h.2 i hi
    unfold wpOp at h2
    unfold wpOpIn
    cases ho : ops[i]? with
    | none => rw [ho] at h2; exact any_in hd hno fuel _ _ _ h2
    | some o =>
      rw [ho] at h2
      dsimp only at h2 ⊢
      split
      · rename_i hw
        rw [if_pos hw] at h2
        rcases h2 with h2 | h2
        · exact Oper.wpIn_mono (fun a w => any_in hd hno fuel _ a w) (op_in (hd i o ho) h2)
        · exact absurd h2.2 hno
      · rename_i hw
        rw [if_neg hw] at h2
        exact ⟨fun _ _ => trivial, any_in hd hno fuel _ _ _ h2⟩
/-- What lets nothing out. -/
def noO (Q : Exit → Act → World → Prop) : Exit → Act → World → Prop
  | .outgrown, _, _ => False
  | e, a, w => Q e a w
theorem noO_le {Q : Exit → Act → World → Prop} : ∀ e a w, noO Q e a w → Q e a w := fun e a w h => by
  cases e <;> first | exact h | exact h.elim
theorem noO_normal {Q : Exit → Act → World → Prop} {a : Act} {w : World} (h : Q .normal a w) : noO Q .normal a w := h
theorem tail_in {l n : Nat} {P : Program} {id : Nat} {Q : Exit → Act → World → Prop} {a : Act} {w : World} {ops : List Oper} (k : Nat) (hm : P.follows .mixedOrders = true) (hd : ops.all noDef = true) (hB : Region.lexTailB .any ops.toArray k = true)
    (h : wpStill P ops.toArray w.drew (fun a' => wpList P ops.toArray (noO Q) (ops.drop k) a' w.drew) (ops.take k) a) : (Code.region id ops.toArray true).wpIn (Fence.wide.inRound l) n P Q a w := by
  refine wpIn_mono (Q := noO Q) ?_ noO_le
  simp only [Region.lexTailB, Bool.and_eq_true, decide_eq_true_eq] at hB
  obtain ⟨⟨⟨⟨b1, b2⟩, b3⟩, b4⟩, b5⟩ := hB
  have hk : k < ops.length := by simpa using b2
  have e1 : (ops.take k).length = k := by simp; omega
  have e2 : (ops.drop k).length = ops.toArray.size - k := by simp
  have hw : (w.drew : World) = { w with drawn := w.drawn + 1 } := rfl
  have A := wpAnyL_lex (md := .any) (g := ops.toArray.size - k) b1 b3 b4 b2 (ops.take k) 0 (Array.replicate ops.toArray.size false) a (fun j hj => by
    rw [e1] at hj
    simp [hj]) (by simpa using e1) ⟨by simp, fun j oj _ hl => (by rw [getD_replicate_false] at hl; cases hl), fun t _ ht => getD_in (by simpa using ht) (getD_replicate_false _ _)⟩ (by rw [e1]; exact b5) h
  have B := wpAny_of_head (Q' := noO Q) (g := ops.toArray.size - k) (fun listed a' hL => by
    have := wpAny_of_seq (md := .any) (Q' := noO Q) (ops.drop k) k listed a' w.drew (fun j => by simp [List.getElem?_drop]) (by rw [e2]; exact hL.1) hL.2
    rwa [e2] at this) _ _ _ A
  rw [e1, show k + (ops.toArray.size - k) = ops.toArray.size by omega] at B
  refine wpIn_region_any hm (any_in (fun i o ho => ?_) (fun ⟨a, w, h⟩ => h) _ _ _ _ B)
  exact List.all_eq_true.1 hd o (List.mem_of_getElem? (by simpa using ho))
end Go.Proofs.YteaionmjbkildabDoor
