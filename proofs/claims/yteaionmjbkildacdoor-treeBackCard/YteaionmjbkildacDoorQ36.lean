/- lent: a tree of one's own, with marks behind its lists. -/
import Derived.Deep.RegionLaw
import Derived.Deep.AppendLies
import Derived.Laws.AppendOwnNone
import Derived.Lib.SmallJoins
import Derived.Lib.Hide
import Derived.Test.YteaionmjbkildacDoorQ30
import Derived.Test.YteaionmjbkildacDoorQ14
namespace Go.Proofs.YteaionmjbkildacDoor
open Go.RowKit
set_option linter.unusedVariables false
set_option linter.unusedSimpArgs false
set_option maxRecDepth 100000

/-- Kids as cells. -/
def kidsV (kf : Nat → Int) (kn : Nat) : List Value := (List.range kn).map fun i => .int .i64 (kf i)
theorem kidsV_len (kf : Nat → Int) (kn : Nat) : (kidsV kf kn).length = kn := by simp [kidsV]
theorem kidsV_get {kf : Nat → Int} {kn j : Nat} {u : Value} (h : (kidsV kf kn)[j]? = some u) : j < kn ∧ u = .int .i64 (kf j) := by
  have hj : j < kn := by
    have := (List.getElem?_eq_some_iff.1 h).1
    rwa [kidsV_len] at this
  refine ⟨hj, ?_⟩
  simp [kidsV, hj] at h
  exact h.symm
/-- A kids' list that was lent: its block, the marks behind it. -/
def KR (w : World) (B g q : Nat) (t : TN) : Prop := w.ownsRow B 3 1 (.slice (some ⟨g, 0, none⟩) (t.kn + 2) q) (t.kn + 2) (kidsV t.kf t.kn ++ [.int .i64 (-7), .int .i64 (-8)])
/-- The nodes as cells. -/
def ndV (t : Nat → TN) (kb kq : Nat → Nat) : Nat → List Value
  | 0 => []
  | j + 1 => ndV t kb kq j ++ [.int .u8 ((t j).st : Nat), .slice (some ⟨kb j, 0, none⟩) (t j).kn (kq j)]
theorem ndV_congr (t : Nat → TN) {kb kq kb' kq' : Nat → Nat} : ∀ {j : Nat}, (∀ k, k < j → kb k = kb' k ∧ kq k = kq' k) → ndV t kb kq j = ndV t kb' kq' j
  | 0, _ => rfl
  | j + 1, h => by
    rw [ndV, ndV, ndV_congr t (fun k hk => h k (by omega)), (h j (by omega)).1, (h j (by omega)).2]

theorem app_in {ops : Array Oper} {rest : List Oper} {o : Oper} {a : Act} {Q : Exit → Act → World → Prop} (w : World) (hgd : o.guard = none) (s x : Operand)
    (ho : o.op = .call { callee := .builtin .append, args := #[s, x], argTypes := #[43, 43] }) (hs : a.eval s = .slice none 0 0) (kp : Option Addr) (kn kc : Nat) (kf : Nat → Int) (hx : a.eval x = .slice kp kn kc) (hin : In w kp kn kf) (hnil : kp = none → kn = 0 ∧ kc = 0) (hb : kn ≤ 17592186043904)
    (h : ∀ v' w', w'.ownsRow w.heap.size 3 1 v' kn (kidsV kf kn) → w.grownBy w' none → wpList Tryd.prog ops Q rest (a.put o.dst v') w') : wpList Tryd.prog ops Q (o :: rest) a w := by
  obtain ⟨i0, h1, h2, h3, h4⟩ := info_parts infoI
  cases kp with
  | none =>
    obtain ⟨rfl, rfl⟩ := hnil rfl
    exact wpList_append_own_none hgd s x 43 ho w.heap.size 3 i0 1 underIS h1 _ 0 [] hs (World.ownsRow_nil _ _ _ _) hx (h _ _ (World.ownsRow_nil _ _ _ _) (World.grownBy.refl _ _))
  | some ad =>
    refine wpList_append_own _ hgd s x 43 ho w.heap.size 3 i0 (.int .i64 0) 1 8 underIS h1 h2 h3 h4 rfl (by decide) _ 0 [] hs (World.ownsRow_nil _ _ _ _) ad kn kc (kidsV kf kn) hx (by rw [kidsV_len]; omega) (fun j u hu => ?_) (fun u hu => ?_) (by unfold maxLen; omega) (by omega) (Nat.le_refl _) ?_
    · obtain ⟨hj, rfl⟩ := kidsV_get hu
      exact hin.at hj
    · simp only [kidsV, List.mem_map] at hu
      obtain ⟨i, _, rfl⟩ := hu
      rfl
    · intro v' w' own' g' _
      refine h v' w' ?_ g'
      simpa using own'

theorem own_ne {w : World} {B B' j m m' q g : Nat} {v : Value} {xs ys : List Value} (h : w.ownsRow B 48 2 v j xs) (k : w.ownsRow B' 3 1 (.slice (some ⟨g, 0, none⟩) m q) m' ys) : some g ≠ v.ownBlock := by
  rcases h.2 with ⟨rfl, _⟩ | ⟨g1, cap, cur, rfl, _, h1, _⟩
  · simp [Value.ownBlock]
  · rcases k.2 with ⟨e, _⟩ | ⟨g2, cap2, cur2, e, _, h2, _⟩
    · cases e
    · cases e
      intro he
      simp only [Value.ownBlock, Option.some.injEq] at he
      subst he
      rw [h1] at h2
      simp at h2
theorem gb_d {W w6 : World} {r : Option Nat} (g : W.drew.grownBy w6 r) : W.grownBy w6 r := ⟨g.os, g.tape, g.output, g.size, g.block⟩
theorem KR.keep {w w' : World} {B g q : Nat} {t : TN} {r : Option Nat} (h : KR w B g q t) (hg : w.grownBy w' r) (hne : some g ≠ r) : KR w' B g q t := World.ownsRow.kept h hg (.inr hne)
theorem lent_next {B j g4 q4 : Nat} {t : Nat → TN} {kb kq : Nat → Nat} {v v6 : Value} {wr w4 W5 w6 : World} (hB : B ≤ wr.heap.size) (own5 : W5.ownsRow B 48 2 v j (ndV t kb kq j)) (own6 : w6.ownsRow B 48 2 v6 (j + 1) (ndV t kb kq j ++ [.int .u8 ((t j).st : Nat), .slice (some ⟨g4, 0, none⟩) (t j).kn q4])) (hks : ∀ k, k < j → KR wr B (kb k) (kq k) (t k)) (hinc : ∀ i k, i < k → k < j → kb i < kb k) (Gk : wr.grownBy w4 none) (g5 : w4.grownBy W5 none) (own4 : w4.ownsRow wr.heap.size 3 1 (.slice (some ⟨g4, 0, none⟩) ((t j).kn + 2) q4) ((t j).kn + 2) (kidsV (t j).kf (t j).kn ++ [.int .i64 (-7), .int .i64 (-8)])) (gr6 : W5.drew.grownBy w6 v.ownBlock) :
    ∃ kb' kq', w6.ownsRow B 48 2 v6 (j + 1) (ndV t kb' kq' (j + 1)) ∧ (∀ k, k < j + 1 → KR w6 B (kb' k) (kq' k) (t k)) ∧ (∀ i k, i < k → k < j + 1 → kb' i < kb' k) := by
  refine ⟨fun k => if k = j then g4 else kb k, fun k => if k = j then q4 else kq k, ?_, fun k hk => ?_, fun i k hi hk => ?_⟩
  · rw [ndV, ndV_congr t (kb' := kb) (kq' := kq) (fun k hk => by simp [show k ≠ j by omega])]
    simpa using own6
  · by_cases e : k = j
    · subst e
      simp only [if_true]
      have k5 : KR W5 B g4 q4 (t k) := World.ownsRow.kept (Joins.ownsRow_le own4 hB) g5 (Classical.em _)
      exact k5.keep (gb_d gr6) (own_ne own5 k5)
    · simp only [e, if_false]
      have k5 := ((hks k (by omega)).keep Gk (by simp)).keep g5 (by simp)
      exact k5.keep (gb_d gr6) (own_ne own5 k5)
  · have hlt4 := (own4.lt g4 rfl).1
    by_cases e : k = j
    · subst e
      have := (World.ownsRow.lt (hks i hi) (kb i) rfl).2
      simp [show i ≠ k by omega]
      omega
    · simp [e, show i ≠ j by omega]
      exact hinc i k hi (by omega)
theorem bo_keep {W w6 : World} {B g : Nat} {t : TypeId} {cs : Array Value} {r : Option Nat} (h : Bo W g t cs) (hg : W.drew.grownBy w6 r) (hr : ∀ b, r = some b → B ≤ b) (hB : g < B) : Bo w6 g t cs := h.kept (gb_d hg) (fun e => by have := hr g e.symm; omega)

/-- A tree that was lent: its nodes' block, the kids' blocks, the marks. -/
structure Lt (w : World) (B gN cN n : Nat) (t : Nat → TN) (kb kq : Nat → Nat) : Prop where
  nodes : w.ownsRow B 48 2 (.slice (some ⟨gN, 0, none⟩) (n + 2) cN) (n + 2) (ndV t kb kq n ++ [.int .u8 77, .slice none 0 0] ++ [.int .u8 77, .slice none 0 0])
  kids : ∀ k, k < n → KR w B (kb k) (kq k) (t k)
  inc : ∀ i k, i < k → k < n → kb i < kb k
theorem Lt.keep {w w' : World} {B gN cN n : Nat} {t : Nat → TN} {kb kq : Nat → Nat} {r : Option Nat} (h : Lt w B gN cN n t kb kq) (hg : w.grownBy w' r) (hr : ∀ b, r = some b → b < B) : Lt w' B gN cN n t kb kq where
  nodes := h.nodes.kept hg (.inr (fun e => by have := hr gN e.symm; have := (h.nodes.lt gN rfl).1; omega))
  kids := fun k hk => (h.kids k hk).keep hg (fun e => by have := hr (kb k) e.symm; have := (World.ownsRow.lt (h.kids k hk) (kb k) rfl).1; omega)
  inc := h.inc
theorem mark_kids {B j m : Nat} {t : Nat → TN} {kb kq : Nat → Nat} {v : Value} {xs : List Value} {W w' : World} (own : W.ownsRow B 48 2 v m xs) (gr : W.grownBy w' v.ownBlock) (hks : ∀ k, k < j → KR W B (kb k) (kq k) (t k)) : ∀ k, k < j → KR w' B (kb k) (kq k) (t k) := fun k hk => (hks k hk).keep gr (own_ne own (hks k hk))

end Go.Proofs.YteaionmjbkildacDoor
