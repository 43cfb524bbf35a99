/- An append onto a slice of the box of offsets. -/
import Derived.Test.YtgflchbmoinonaaDoorH14
import Derived.ArgAppend
import Derived.Maps.AppendAt
namespace Go.Proofs.YtgflchbmoinonaaDoor
open Go.RowKit
open Fl
set_option linter.unusedVariables false
set_option linter.unusedSimpArgs false
set_option maxRecDepth 100000

theorem infoPt : (Tryd.prog.info? 37).map (fun i => (i.zero, i.size, i.bytes)) = some (some (.agg #[.int .i64 0, .int .i64 0]), 2, 16) := by kernel_rfl
theorem underPt : Tryd.prog.underlying 32 = some (.slice 37) := by kernel_rfl
theorem gb_weak {w w' : World} (h : w.grownBy w' none) (r : Option Nat) : w.grownBy w' r := ⟨h.os, h.tape, h.output, h.size, fun k hk _ => h.block k hk (by simp)⟩
/-- A list that was appended to i times: in the box of offsets still, or in a row of its own. -/
def Cr (w : World) (base ga n i : Nat) (vc : Value) (off add : Int) : Prop := ∃ cs : Array Value, Bo w ga 55 cs ∧ cs.size = 17 ∧ (∀ j : Nat, j < n → cs[j * 2]? = some (.int .i64 (off + (j : Int)))) ∧
  ((vc = .slice (some ⟨ga, 0, none⟩) (n + i) 8 ∧ n + i ≤ 8 ∧ ∀ j : Nat, j < i → cs[(n + j) * 2]? = some (.int .i64 (add + (j : Int)))) ∨
   ((∃ g cap, vc = .slice (some ⟨g, 0, none⟩) (n + i) cap ∧ base ≤ g ∧ g ≠ ga ∧ g < w.heap.size) ∧ ∃ xs, w.ownsRow base 37 2 vc (n + i) xs ∧ (∀ j : Nat, j < n → xs[j * 2]? = some (.int .i64 (off + (j : Int)))) ∧ ∀ j : Nat, j < i → xs[(n + j) * 2]? = some (.int .i64 (add + (j : Int)))))
theorem Cr.kept {w w' : World} {base ga n i : Nat} {vc : Value} {off add : Int} {r : Option Nat} (h : Cr w base ga n i vc off add) (hg : w.grownBy w' r) (h1 : some ga ≠ r) (h2 : vc.ownBlock ≠ r) : Cr w' base ga n i vc off add := by
  obtain ⟨cs, B, hs, hp, h⟩ := h
  refine ⟨cs, B.kept hg h1, hs, hp, h.imp id fun ⟨⟨g, cap, e, h3, h4, h5⟩, xs, ho, hx⟩ => ⟨⟨g, cap, e, h3, h4, Nat.lt_of_lt_of_le h5 hg.size⟩, xs, ho.kept hg (.inr h2), hx⟩⟩
theorem Cr.block {w : World} {base ga n i : Nat} {vc : Value} {off add : Int} (h : Cr w base ga n i vc off add) : ∃ g, vc.ownBlock = some g ∧ g < w.heap.size ∧ (g = ga ∨ base ≤ g) := by
  obtain ⟨cs, B, hs, hp, h⟩ := h
  rcases h with ⟨e, _, _⟩ | ⟨⟨g, cap, e, h3, h4, h5⟩, _⟩
  · exact ⟨ga, by rw [e]; rfl, B.lt, .inl rfl⟩
  · exact ⟨g, by rw [e]; rfl, h5, .inr h3⟩
theorem wp_cr {ops : Array Oper} {rest : List Oper} {o : Oper} {a : Act} {w : World} {Q : Exit → Act → World → Prop} (hgd : o.guard = none) (s x : Operand) (hop : o.op = Op.call { callee := Callee.builtin Builtin.append, args := #[s, x], argTypes := #[32, 32] })
    (base ga n i : Nat) (vc : Value) (off add : Int) (h : Cr w base ga n i vc off add) (hbase : base ≤ w.heap.size) (hi : i ≤ 12) (hn : n ≤ 8) (ad : Nat) (hs : a.eval s = vc) (hx : a.eval x = .slice (some ⟨ad, 0, none⟩) 1 1)
    (X : Int) (hX : X = add + (i : Int)) (hn0 : w.cell? ⟨ad, 0, none⟩ = some (.int .i64 X)) (hn1 : w.cell? ⟨ad, 1, none⟩ = some (.int .i64 0))
    (k : ∀ v' w', Cr w' base ga n (i + 1) v' off add → w.grownBy w' vc.ownBlock → (v'.ownBlock = vc.ownBlock ∨ ∃ g, v'.ownBlock = some g ∧ w.heap.size ≤ g) → wpList Tryd.prog ops Q rest (a.put o.dst v') w') : wpList Tryd.prog ops Q (o :: rest) a w := by
  obtain ⟨ib, hib⟩ := info_parts infoPt
  subst hX
  have hnews : ∀ j u, [Value.int .i64 (add + (i : Int)), .int .i64 0][j]? = some u → w.cell? ((⟨ad, 0, none⟩ : Addr).add j) = some u := fun j u hj => by
    match j, hj with
    | 0, hj => cases hj; exact hn0
    | 1, hj => cases hj; exact hn1
  have hone : ∀ u ∈ [Value.int .i64 (add + (i : Int)), .int .i64 0], u.oneCell' = true := fun u hu => by
    simp only [List.mem_cons, List.not_mem_nil, or_false] at hu
    rcases hu with rfl | rfl <;> rfl
  obtain ⟨cs, B, hsz, hp, h⟩ := h
  rcases h with ⟨rfl, hle, hq⟩ | ⟨⟨g, cap, rfl, h3, h4, h5⟩, xs, hown, hx1, hx2⟩
  · have hlo : (cs.toList.take ((n + i) * 2)).length = (n + i) * 2 := by simp; omega
    have hat : ∀ (j : Nat) u, (cs.toList.take ((n + i) * 2))[j]? = some u → cs[j]? = some u := fun j u hj => by
      rw [List.getElem?_take] at hj
      split at hj
      · simpa using hj
      · cases hj
    have htk : ∀ (j : Nat) u, j < (n + i) * 2 → cs[j]? = some u → (cs.toList.take ((n + i) * 2))[j]? = some u := fun j u hj hu => by
      rw [List.getElem?_take, if_pos hj]; simpa using hu
    refine wpList_append_arg w hgd s x 32 hop 37 ib _ 2 16 underPt hib.1 hib.2.1 hib.2.2.1 hib.2.2.2 rfl (by decide) ga 0 (n + i) 8 (cs.toList.take ((n + i) * 2)) hs hlo (fun j u hj => by rw [Nat.zero_add]; exact B.cell j (hat j u hj)) ⟨ad, 0, none⟩ 1 1 _ hx rfl hnews hone (fun hr j hj => ?_) (by unfold maxLen; omega) (by omega) (fun hr => ?_) (fun hr v' w' ho hg => ?_)
    · have hj2 : j < 2 := hj
      have hlt : 0 + (n + i) * 2 + j < cs.size := by omega
      exact ⟨by rw [B.cell _ (Array.getElem?_eq_getElem hlt)]; rfl, B.frozen _⟩
    · have ew : w.setCells ga (0 + (n + i) * 2) [Value.int .i64 (add + (i : Int)), .int .i64 0] = (w.setCell ⟨ga, (n + i) * 2, none⟩ (.int .i64 (add + (i : Int)))).setCell ⟨ga, (n + i) * 2 + 1, none⟩ (.int .i64 0) := by rw [Nat.zero_add]; rfl
      rw [ew]
      refine k _ _ ⟨_, (B.set ((n + i) * 2) (.int .i64 (add + (i : Int)))).set ((n + i) * 2 + 1) (.int .i64 0), by simpa using hsz, fun j hj => ?_, .inl ⟨rfl, by omega, fun j hj => ?_⟩⟩ ?_ (.inl rfl)
      · rw [Array.getElem?_setIfInBounds_ne (by omega), Array.getElem?_setIfInBounds_ne (by omega)]
        exact hp j hj
      · rw [Array.getElem?_setIfInBounds_ne (by omega)]
        by_cases e : j = i
        · subst e
          rw [Array.getElem?_setIfInBounds_self_of_lt (by omega)]
        · rw [Array.getElem?_setIfInBounds_ne (by omega)]
          exact hq j (by omega)
      · exact gb_set (gb_set (World.grownBy.refl w (some ga)) _ _) _ _
    · obtain ⟨g', cap', rfl⟩ : ∃ g' cap', v' = .slice (some ⟨g', 0, none⟩) (n + i + 1) cap' := by
        rcases ho.2 with ⟨_, h0⟩ | ⟨g', cap', cur, e, _⟩
        · omega
        · exact ⟨g', cap', e⟩
      have hlt := ho.lt g' rfl
      refine k _ _ ⟨cs, B.kept hg (by simp), hsz, hp, .inr ⟨⟨g', cap', rfl, by omega, by have := B.lt; omega, hlt.2⟩, _, ⟨ho.1, ho.2.imp id fun ⟨g, cap, cur, e, hb, r⟩ => ⟨g, cap, cur, e, Nat.le_trans hbase hb, r⟩⟩, fun j hj => ?_, fun j hj => ?_⟩⟩ (gb_weak hg _) (.inr ⟨g', rfl, hlt.1⟩)
      · rw [List.getElem?_append_left (by omega)]
        exact htk _ _ (by omega) (hp j hj)
      · by_cases e : j = i
        · subst e
          rw [List.getElem?_append_right (by omega), hlo, Nat.sub_self]; rfl
        · rw [List.getElem?_append_left (by omega)]
          exact htk _ _ (by omega) (hq j (by omega))
  · have hxl := hown.1
    refine wpList_append_own_at w hgd s x 32 hop base 37 ib _ 2 16 underPt hib.1 hib.2.1 hib.2.2.1 hib.2.2.2 rfl (by decide) _ (n + i) xs hs hown ⟨ad, 0, none⟩ 1 1 _ hx rfl hnews hone (by unfold maxLen; omega) (by omega) hbase (fun v' w' ho hg hnil hblk => ?_)
    obtain ⟨g', cap', rfl⟩ : ∃ g' cap', v' = .slice (some ⟨g', 0, none⟩) (n + i + 1) cap' := by
      rcases ho.2 with ⟨_, h0⟩ | ⟨g', cap', cur, e, _⟩
      · omega
      · exact ⟨g', cap', e⟩
    have hlt := ho.lt g' rfl
    have hgne : g' ≠ ga := by
      rcases hblk with e | e
      · have e' : some g' = some g := e
        injection e'; omega
      · have e' : some g' = some w.heap.size := e
        injection e'; have := B.lt; omega
    refine k _ _ ⟨cs, B.kept hg (fun e => h4 (by have e' : some ga = some g := e; injection e'; omega)), hsz, hp, .inr ⟨⟨g', cap', rfl, hlt.1, hgne, hlt.2⟩, _, ho, fun j hj => ?_, fun j hj => ?_⟩⟩ hg (hblk.imp id (fun e => ⟨w.heap.size, e, Nat.le_refl _⟩))
    · rw [List.getElem?_append_left (by omega)]
      exact hx1 j hj
    · by_cases e : j = i
      · subst e
        rw [List.getElem?_append_right (by omega), hxl, Nat.sub_self]; rfl
      · rw [List.getElem?_append_left (by omega)]
        exact hx2 j (by omega)
end Go.Proofs.YtgflchbmoinonaaDoor
