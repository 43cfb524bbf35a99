/- A list and what is grown of it. -/
import Derived.Test.YtgflchbmoinonaaDoorH22
namespace Go.Proofs.YtgflchbmoinonaaDoor
open Go.RowKit
open Fl
set_option linter.unusedVariables false
set_option linter.unusedSimpArgs false
set_option maxRecDepth 100000

def Pr (w : World) (lo base n i : Nat) (v0 vc : Value) (off add : Int) : Prop := (v0 = .slice none 0 0 ∧ n = 0 ∧ ∃ xs, w.ownsRow base 3 1 vc i xs ∧ ∀ j : Nat, j < i → xs[j]? = some (.int .i64 (add + (j : Int)))) ∨ ∃ ga t c0, v0 = .slice (some ⟨ga, 0, none⟩) n c0 ∧ lo ≤ ga ∧ n ≤ c0 ∧ c0 ≤ maxLen ∧ Cq w base ga t c0 n i vc off add
theorem Pr.start {w : World} {lo base n : Nat} {v0 : Value} {F : Nat → Int} {off add : Int} (h : Lst w lo v0 n F) (hF : ∀ j, j < n → F j = off + (j : Int)) : Pr w lo base n 0 v0 v0 off add := by
  rcases h with ⟨rfl, rfl⟩ | ⟨ga, t, c0, cs, rfl, h1, B, h2, h3, h4, h5⟩
  · exact .inl ⟨rfl, rfl, [], World.ownsRow_nil _ _ _ _, fun j hj => by omega⟩
  · exact .inr ⟨ga, t, c0, rfl, h1, h3, h4, cs, B, h2, fun j hj => by rw [h5 j hj, hF j hj], .inl ⟨rfl, by omega, fun j hj => by omega⟩⟩
theorem Pr.kept {w w' : World} {lo base n i : Nat} {v0 vc : Value} {off add : Int} {r : Option Nat} (h : Pr w lo base n i v0 vc off add) (hg : w.grownBy w' r) (h1 : ∀ b, r = some b → v0.ownBlock ≠ some b ∧ vc.ownBlock ≠ some b) : Pr w' lo base n i v0 vc off add := by
  rcases h with ⟨e, e0, xs, ho, hx⟩ | ⟨ga, t, c0, rfl, l1, l2, l3, hc⟩
  · refine .inl ⟨e, e0, xs, ho.kept hg ?_, hx⟩
    cases r with
    | none => cases hv : vc.ownBlock <;> simp
    | some b => exact .inr (h1 b rfl).2
  · refine .inr ⟨ga, t, c0, rfl, l1, l2, l3, hc.kept hg (fun e => (h1 ga e.symm).1 rfl) (fun e => ?_)⟩
    obtain ⟨g, eg, _⟩ := hc.block
    rw [eg] at e
    exact (h1 g e.symm).2 eg
theorem Pr.end {w : World} {lo base n i : Nat} {v0 vc : Value} {off add : Int} (h : Pr w lo base n i v0 vc off add) (hlb : lo ≤ base) : Lst w lo v0 n (fun j => off + (j : Int)) ∧ Lst w lo vc (n + i) (fun j => if j < n then off + (j : Int) else add + ((j - n : Nat) : Int)) := by
  rcases h with ⟨rfl, rfl, xs, ho, hx⟩ | ⟨ga, t, c0, rfl, l1, l2, l3, cs, B, hs, hp, h⟩
  · refine ⟨.inl ⟨rfl, rfl⟩, ?_⟩
    rw [Nat.zero_add]
    rcases ho.2 with ⟨rfl, h0⟩ | ⟨g, cap, cur, rfl, hb, hg, q1, q2, q3, q4⟩
    · exact .inl ⟨rfl, h0⟩
    · refine .inr ⟨g, 3, cap, cur, rfl, by omega, hg, by omega, q1, q2, fun j hj => ?_⟩
      have e := hx j hj
      rw [← q4, List.getElem?_take, if_pos (by omega)] at e
      dsimp only
      rw [if_neg (by omega), Nat.sub_zero]
      simpa using e
  · refine ⟨.inr ⟨ga, t, c0, cs, rfl, l1, B, hs, l2, l3, hp⟩, ?_⟩
    rcases h with ⟨rfl, hle, hq⟩ | ⟨⟨g, cap, rfl, h3, h4, h5⟩, xs, ho, hx1, hx2⟩
    · refine .inr ⟨ga, t, c0, cs, rfl, l1, B, hs, hle, l3, fun j hj => ?_⟩
      dsimp only
      by_cases e : j < n
      · rw [if_pos e]; exact hp j e
      · rw [if_neg e, ← hq (j - n) (by omega), show n + (j - n) = j by omega]
    · rcases ho.2 with ⟨e, _⟩ | ⟨g', cap', cur, e, hb, hg, q1, q2, q3, q4⟩
      · cases e
      · injection e with e1 e2 e3
        injection e1 with e1
        injection e1 with e1
        subst e1 e3
        refine .inr ⟨g, 3, cap, cur, rfl, by omega, hg, by omega, q1, q2, fun j hj => ?_⟩
        dsimp only
        have tk : ∀ u, xs[j]? = some u → cur[j]? = some u := fun u hu => by
          rw [← q4, List.getElem?_take, if_pos (by omega)] at hu
          simpa using hu
        by_cases e : j < n
        · rw [if_pos e]; exact tk _ (hx1 j e)
        · rw [if_neg e]
          refine tk _ ?_
          rw [← hx2 (j - n) (by omega), show n + (j - n) = j by omega]
theorem wp_pr {ops : Array Oper} {rest : List Oper} {o : Oper} {a : Act} {w : World} {Q : Exit → Act → World → Prop} (hgd : o.guard = none) (s x : Operand) (hop : o.op = Op.call { callee := Callee.builtin Builtin.append, args := #[s, x], argTypes := #[25, 25] })
    (lo base n i : Nat) (v0 vc : Value) (off add : Int) (h : Pr w lo base n i v0 vc off add) (hbase : base ≤ w.heap.size) (hi : i ≤ 12) (hn : n ≤ 8) (ad : Nat) (hs : a.eval s = vc) (hx : a.eval x = .slice (some ⟨ad, 0, none⟩) 1 1)
    (X : Int) (hX : X = add + (i : Int)) (hn0 : w.cell? ⟨ad, 0, none⟩ = some (.int .i64 X))
    (k : ∀ v' w', Pr w' lo base n (i + 1) v0 v' off add → w.grownBy w' vc.ownBlock → (v'.ownBlock = vc.ownBlock ∨ ∃ g, v'.ownBlock = some g ∧ w.heap.size ≤ g) → wpList Tryd.prog ops Q rest (a.put o.dst v') w') : wpList Tryd.prog ops Q (o :: rest) a w := by
  rcases h with ⟨e, e0, xs, ho, hx1⟩ | ⟨ga, t, c0, e, l1, l2, l3, hc⟩
  · obtain ⟨ib, hib⟩ := info_parts infoN
    subst hX
    have hnews : ∀ j u, [Value.int .i64 (add + (i : Int))][j]? = some u → w.cell? ((⟨ad, 0, none⟩ : Addr).add j) = some u := fun j u hj => by
      match j, hj with
      | 0, hj => cases hj; exact hn0
    have hxl := ho.1
    refine wpList_append_own_at w hgd s x 25 hop base 3 ib _ 1 8 underIn hib.1 hib.2.1 hib.2.2.1 hib.2.2.2 rfl (by decide) _ i xs hs ho ⟨ad, 0, none⟩ 1 1 _ hx rfl hnews (fun u hu => by simp only [List.mem_cons, List.not_mem_nil, or_false] at hu; subst hu; rfl) (by unfold maxLen; omega) (by omega) hbase (fun v' w' ho' hg hnil hblk => ?_)
    refine k _ _ (.inl ⟨e, e0, _, ho', fun j hj => ?_⟩) hg (hblk.imp id (fun e => ⟨w.heap.size, e, Nat.le_refl _⟩))
    by_cases e : j = i
    · subst e
      rw [List.getElem?_append_right (by omega), hxl, Nat.mul_one, Nat.sub_self]; rfl
    · rw [List.getElem?_append_left (by omega)]
      exact hx1 j (by omega)
  · exact wp_cq hgd s x hop base ga t c0 n i vc off add hc hbase hi hn l3 ad hs hx X hX hn0 (fun v' w' hc' hg hb => k v' w' (.inr ⟨ga, t, c0, e, l1, l2, l3, hc'⟩) hg hb)
end Go.Proofs.YtgflchbmoinonaaDoor
