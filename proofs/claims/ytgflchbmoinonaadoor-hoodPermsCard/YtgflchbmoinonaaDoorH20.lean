/- An append onto a slice of ints in a block of any type. -/
import Derived.Test.YtgflchbmoinonaaDoorH15
import Derived.Test.YtgflchbmoinonaaDoorH19
namespace Go.Proofs.YtgflchbmoinonaaDoor
open Go.RowKit
open Fl
set_option linter.unusedVariables false
set_option linter.unusedSimpArgs false
set_option maxRecDepth 100000

/-- A list that was appended to i times: in the box of offsets still, or in a row of its own. -/
def Cq (w : World) (base ga t c0 n i : Nat) (vc : Value) (off add : Int) : Prop := ∃ cs : Array Value, Bo w ga t cs ∧ cs.size = c0 ∧ (∀ j : Nat, j < n → cs[j]? = some (.int .i64 (off + (j : Int)))) ∧
  ((vc = .slice (some ⟨ga, 0, none⟩) (n + i) c0 ∧ n + i ≤ c0 ∧ ∀ j : Nat, j < i → cs[n + j]? = some (.int .i64 (add + (j : Int)))) ∨
   ((∃ g cap, vc = .slice (some ⟨g, 0, none⟩) (n + i) cap ∧ base ≤ g ∧ g ≠ ga ∧ g < w.heap.size) ∧ ∃ xs, w.ownsRow base 3 1 vc (n + i) xs ∧ (∀ j : Nat, j < n → xs[j]? = some (.int .i64 (off + (j : Int)))) ∧ ∀ j : Nat, j < i → xs[n + j]? = some (.int .i64 (add + (j : Int)))))
theorem Cq.kept {w w' : World} {base ga t c0 n i : Nat} {vc : Value} {off add : Int} {r : Option Nat} (h : Cq w base ga t c0 n i vc off add) (hg : w.grownBy w' r) (h1 : some ga ≠ r) (h2 : vc.ownBlock ≠ r) : Cq w' base ga t c0 n i vc off add := by
  obtain ⟨cs, B, hs, hp, h⟩ := h
  refine ⟨cs, B.kept hg h1, hs, hp, h.imp id fun ⟨⟨g, cap, e, h3, h4, h5⟩, xs, ho, hx⟩ => ⟨⟨g, cap, e, h3, h4, Nat.lt_of_lt_of_le h5 hg.size⟩, xs, ho.kept hg (.inr h2), hx⟩⟩
theorem Cq.block {w : World} {base ga t c0 n i : Nat} {vc : Value} {off add : Int} (h : Cq w base ga t c0 n i vc off add) : ∃ g, vc.ownBlock = some g ∧ g < w.heap.size ∧ (g = ga ∨ base ≤ g) := by
  obtain ⟨cs, B, hs, hp, h⟩ := h
  rcases h with ⟨e, _, _⟩ | ⟨⟨g, cap, e, h3, h4, h5⟩, _⟩
  · exact ⟨ga, by rw [e]; rfl, B.lt, .inl rfl⟩
  · exact ⟨g, by rw [e]; rfl, h5, .inr h3⟩
theorem wp_cq {ops : Array Oper} {rest : List Oper} {o : Oper} {a : Act} {w : World} {Q : Exit → Act → World → Prop} (hgd : o.guard = none) (s x : Operand) (hop : o.op = Op.call { callee := Callee.builtin Builtin.append, args := #[s, x], argTypes := #[25, 25] })
    (base ga t c0 n i : Nat) (vc : Value) (off add : Int) (h : Cq w base ga t c0 n i vc off add) (hbase : base ≤ w.heap.size) (hi : i ≤ 12) (hn : n ≤ 8) (hc0 : c0 ≤ maxLen) (ad : Nat) (hs : a.eval s = vc) (hx : a.eval x = .slice (some ⟨ad, 0, none⟩) 1 1)
    (X : Int) (hX : X = add + (i : Int)) (hn0 : w.cell? ⟨ad, 0, none⟩ = some (.int .i64 X))
    (k : ∀ v' w', Cq w' base ga t c0 n (i + 1) v' off add → w.grownBy w' vc.ownBlock → (v'.ownBlock = vc.ownBlock ∨ ∃ g, v'.ownBlock = some g ∧ w.heap.size ≤ g) → wpList Tryd.prog ops Q rest (a.put o.dst v') w') : wpList Tryd.prog ops Q (o :: rest) a w := by
  obtain ⟨ib, hib⟩ := info_parts infoN
  subst hX
  have hnews : ∀ j u, [Value.int .i64 (add + (i : Int))][j]? = some u → w.cell? ((⟨ad, 0, none⟩ : Addr).add j) = some u := fun j u hj => by
    match j, hj with
    | 0, hj => cases hj; exact hn0
  have hone : ∀ u ∈ [Value.int .i64 (add + (i : Int))], u.oneCell' = true := fun u hu => by
    simp only [List.mem_cons, List.not_mem_nil, or_false] at hu
    subst hu; rfl
  obtain ⟨cs, B, hsz, hp, h⟩ := h
  rcases h with ⟨rfl, hle, hq⟩ | ⟨⟨g, cap, rfl, h3, h4, h5⟩, xs, hown, hx1, hx2⟩
  · have hlo : (cs.toList.take ((n + i))).length = (n + i) := by simp; omega
    have hat : ∀ (j : Nat) u, (cs.toList.take ((n + i)))[j]? = some u → cs[j]? = some u := fun j u hj => by
      rw [List.getElem?_take] at hj
      split at hj
      · simpa using hj
      · cases hj
    have htk : ∀ (j : Nat) u, j < (n + i) → cs[j]? = some u → (cs.toList.take ((n + i)))[j]? = some u := fun j u hj hu => by
      rw [List.getElem?_take, if_pos hj]; simpa using hu
    refine wpList_append_arg w hgd s x 25 hop 3 ib _ 1 8 underIn hib.1 hib.2.1 hib.2.2.1 hib.2.2.2 rfl (by decide) ga 0 (n + i) c0 (cs.toList.take ((n + i))) hs (by rw [hlo, Nat.mul_one]) (fun j u hj => by rw [Nat.zero_add]; exact B.cell j (hat j u hj)) ⟨ad, 0, none⟩ 1 1 _ hx rfl hnews hone (fun hr j hj => ?_) (by unfold maxLen; omega) (by omega) (fun hr => ?_) (fun hr v' w' ho hg => ?_)
    · have hj2 : j < 1 := hj
      have hlt : 0 + (n + i) * 1 + j < cs.size := by omega
      exact ⟨by rw [B.cell _ (Array.getElem?_eq_getElem hlt)]; rfl, B.frozen _⟩
    · have ew : w.setCells ga (0 + (n + i) * 1) [Value.int .i64 (add + (i : Int))] = w.setCell ⟨ga, n + i, none⟩ (.int .i64 (add + (i : Int))) := by rw [Nat.zero_add, Nat.mul_one]; rfl
      rw [ew]
      refine k _ _ ⟨_, B.set (n + i) (.int .i64 (add + (i : Int))), by simpa using hsz, fun j hj => ?_, .inl ⟨rfl, by omega, fun j hj => ?_⟩⟩ ?_ (.inl rfl)
      · rw [Array.getElem?_setIfInBounds_ne (by omega)]
        exact hp j hj
      · by_cases e : j = i
        · subst e
          rw [Array.getElem?_setIfInBounds_self_of_lt (by omega)]
        · rw [Array.getElem?_setIfInBounds_ne (by omega)]
          exact hq j (by omega)
      · exact gb_set (World.grownBy.refl w (some ga)) _ _
    · obtain ⟨g', cap', rfl⟩ : ∃ g' cap', v' = .slice (some ⟨g', 0, none⟩) (n + i + 1) cap' := by
        rcases ho.2 with ⟨_, h0⟩ | ⟨g', cap', cur, e, _⟩
        · omega
        · exact ⟨g', cap', e⟩
      have hlt := ho.lt g' rfl
      refine k _ _ ⟨cs, B.kept hg (by simp), hsz, hp, .inr ⟨⟨g', cap', rfl, by omega, by have := B.lt; omega, hlt.2⟩, _, ⟨ho.1, ho.2.imp id fun ⟨g, cap, cur, e, hb, r⟩ => ⟨g, cap, cur, e, Nat.le_trans hbase hb, r⟩⟩, fun j hj => ?_, fun j hj => ?_⟩⟩ (gb_weak hg _) (.inr ⟨g', rfl, hlt.1⟩)
      · rw [List.getElem?_append_left (by omega)]
        exact htk _ _ (by omega) (hp j hj)
      · by_cases e : j = i
        · subst e
          rw [List.getElem?_append_right (by omega), hlo, Nat.sub_self]; rfl
        · rw [List.getElem?_append_left (by omega)]
          exact htk _ _ (by omega) (hq j (by omega))
  · have hxl := hown.1
    refine wpList_append_own_at w hgd s x 25 hop base 3 ib _ 1 8 underIn hib.1 hib.2.1 hib.2.2.1 hib.2.2.2 rfl (by decide) _ (n + i) xs hs hown ⟨ad, 0, none⟩ 1 1 _ hx rfl hnews hone (by unfold maxLen; omega) (by omega) hbase (fun v' w' ho hg hnil hblk => ?_)
    obtain ⟨g', cap', rfl⟩ : ∃ g' cap', v' = .slice (some ⟨g', 0, none⟩) (n + i + 1) cap' := by
      rcases ho.2 with ⟨_, h0⟩ | ⟨g', cap', cur, e, _⟩
      · omega
      · exact ⟨g', cap', e⟩
    have hlt := ho.lt g' rfl
    have hgne : g' ≠ ga := by
      rcases hblk with e | e
      · have e' : some g' = some g := e
        injection e'; omega
      · have e' : some g' = some w.heap.size := e
        injection e'; have := B.lt; omega
    refine k _ _ ⟨cs, B.kept hg (fun e => h4 (by have e' : some ga = some g := e; injection e'; omega)), hsz, hp, .inr ⟨⟨g', cap', rfl, hlt.1, hgne, hlt.2⟩, _, ho, fun j hj => ?_, fun j hj => ?_⟩⟩ hg (hblk.imp id (fun e => ⟨w.heap.size, e, Nat.le_refl _⟩))
    · rw [List.getElem?_append_left (by omega)]
      exact hx1 j hj
    · by_cases e : j = i
      · subst e
        rw [List.getElem?_append_right (by omega), hxl, Nat.mul_one, Nat.sub_self]; rfl
      · rw [List.getElem?_append_left (by omega)]
        exact hx2 j (by omega)
end Go.Proofs.YtgflchbmoinonaaDoor
