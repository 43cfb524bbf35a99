/- Four lists, what is grown of each, and the row of those that are grown. -/
import Derived.Test.YtgflchbmoinonaaDoorH24
namespace Go.Proofs.YtgflchbmoinonaaDoor
open Go.RowKit
open Fl
set_option linter.unusedVariables false
set_option linter.unusedSimpArgs false
set_option maxRecDepth 100000

def II (m k a : Nat) : Nat := if a < m then 12 else if a = m then k else 0
theorem II_next (m : Nat) : II m 12 = II (m + 1) 0 := by
  funext a
  unfold II
  split
  · rw [if_pos (by omega)]
  · split
    · rw [if_pos (by omega)]
    · rw [if_neg (by omega)]; split <;> rfl
theorem II_self (m k : Nat) : II m k m = k := by unfold II; rw [if_neg (by omega), if_pos rfl]
theorem II_ne {m a : Nat} (k k' : Nat) (h : a ≠ m) : II m k a = II m k' a := by unfold II; rw [if_neg h, if_neg h]
def upV (U : Nat → Value) (i : Nat) (v : Value) : Nat → Value := fun a => if a = i then v else U a
theorem upV_self (U : Nat → Value) (i : Nat) (v : Value) : upV U i v i = v := if_pos rfl
theorem upV_ne (U : Nat → Value) {i a : Nat} (v : Value) (h : a ≠ i) : upV U i v a = U a := if_neg h

def Gw (w : World) (lo gal : Nat) (V U : Nat → Value) (Nn : Nat → Nat) (vg : Value) (m k : Nat) : Prop :=
  Bo w gal 25 #[V 0, V 1, V 2, V 3] ∧ w.ownsRow lo 25 1 vg m ((List.range m).map U) ∧ vg.ownBlock ≠ some gal ∧ (∀ a, II m k a = 0 → U a = V a) ∧
  ∀ a, a < 4 → Pr w lo lo (Nn a) (II m k a) (V a) (U a) (100 * (a : Int) + 50) (1000 * (a : Int) + 500) ∧
    ∀ b, ((V a).ownBlock = some b ∨ (U a).ownBlock = some b) → b ≠ gal ∧ vg.ownBlock ≠ some b ∧ ∀ a', a' < 4 → a' ≠ a → (V a').ownBlock ≠ some b ∧ (U a').ownBlock ≠ some b
theorem Gw.kept {w w' : World} {lo gal : Nat} {V U : Nat → Value} {Nn : Nat → Nat} {vg : Value} {m k : Nat} (h : Gw w lo gal V U Nn vg m k) (hg : w.grownBy w' none) : Gw w' lo gal V U Nn vg m k :=
  ⟨h.1.kept hg (by simp), h.2.1.kept hg (by cases vg.ownBlock <;> simp), h.2.2.1, h.2.2.2.1, fun a ha => ⟨(h.2.2.2.2 a ha).1.kept hg (by simp), (h.2.2.2.2 a ha).2⟩⟩
theorem Gw.all {w : World} {lo gal : Nat} {V U : Nat → Value} {Nn : Nat → Nat} {vg : Value} {m k : Nat} (h : Gw w lo gal V U Nn vg m k) {i : Nat} (hi : i < 4) : w.cell? ⟨gal, i, none⟩ = some (V i) := by
  refine h.1.cell i ?_
  match i, hi with
  | 0, _ => rfl
  | 1, _ => rfl
  | 2, _ => rfl
  | 3, _ => rfl
theorem Gw.start {w : World} {lo gal : Nat} {V : Nat → Value} {Nn : Nat → Nat} {G : Nat → Nat → Int} (h : Sv w lo gal V Nn G) (hG : ∀ a, a < 4 → ∀ j, j < Nn a → G a j = 100 * (a : Int) + j + 50) : Gw w lo gal V V Nn (.slice none 0 0) 0 0 := by
  refine ⟨h.1, World.ownsRow_nil _ _ _ _, (by intro e; cases e), fun a _ => rfl, fun a ha => ?_⟩
  obtain ⟨hL, hn, hd⟩ := h.2 a ha
  have e0 : II 0 0 a = 0 := by unfold II; rw [if_neg (by omega)]; split <;> rfl
  refine ⟨?_, fun b hb => ?_⟩
  · rw [e0]
    exact Pr.start hL (fun j hj => by rw [hG a ha j hj]; omega)
  · have hb : (V a).ownBlock = some b := hb.elim id id
    exact ⟨fun e => hn (by rw [hb, e]), (by intro e; cases e), fun a' ha' hne => ⟨hd a' ha' (fun e => hne e.symm) b hb, hd a' ha' (fun e => hne e.symm) b hb⟩⟩
theorem Gw.lt {w : World} {lo gal : Nat} {V U : Nat → Value} {Nn : Nat → Nat} {vg : Value} {m k : Nat} (h : Gw w lo gal V U Nn vg m k) {a b : Nat} (ha : a < 4) (hb : (V a).ownBlock = some b ∨ (U a).ownBlock = some b) : lo ≤ b ∧ b < w.heap.size := by
  obtain ⟨l1, l2⟩ := (h.2.2.2.2 a ha).1.end (Nat.le_refl _)
  exact hb.elim (l1.lt b) (l2.lt b)
theorem Gw.step {w w' : World} {lo gal : Nat} {V U : Nat → Value} {Nn : Nat → Nat} {vg : Value} {m k : Nat} (h : Gw w lo gal V U Nn vg m k) (hm : m < 4) {v' : Value} (hg : w.grownBy w' (U m).ownBlock)
    (p : Pr w' lo lo (Nn m) (k + 1) (V m) v' (100 * (m : Int) + 50) (1000 * (m : Int) + 500)) (hb : v'.ownBlock = (U m).ownBlock ∨ ∃ g, v'.ownBlock = some g ∧ w.heap.size ≤ g) : Gw w' lo gal V (upV U m v') Nn vg m (k + 1) := by
  have hlt := @Gw.lt w lo gal V U Nn vg m k h
  obtain ⟨hB, hR, hv, hz, h4⟩ := h
  refine ⟨hB.kept hg (fun e => ((h4 m hm).2 gal (.inr e.symm)).1 rfl), ?_, hv, fun a ha => ?_, fun a ha => ?_⟩
  · have e : (List.range m).map (upV U m v') = (List.range m).map U := List.map_congr_left fun a ha => upV_ne U v' (by have := List.mem_range.1 ha; omega)
    rw [e]
    refine hR.kept hg ?_
    cases hr : (U m).ownBlock with
    | none => cases vg.ownBlock <;> simp
    | some b => exact .inr ((h4 m hm).2 b (.inr hr)).2.1
  · by_cases e : a = m
    · subst e; rw [II_self] at ha; omega
    · rw [upV_ne U v' e]; exact hz a (by rw [II_ne k (k + 1) e]; exact ha)
  · have hvb : ∀ b, v'.ownBlock = some b → (U m).ownBlock = some b ∨ w.heap.size ≤ b := fun b e => by
      rcases hb with e' | ⟨g, e', hl⟩
      · exact .inl (e' ▸ e)
      · rw [e'] at e; cases e; exact .inr hl
    by_cases e : a = m
    · subst e
      rw [II_self, upV_self]
      refine ⟨p, fun b hbb => ?_⟩
      have hw : ((V a).ownBlock = some b ∨ (U a).ownBlock = some b) ∨ w.heap.size ≤ b := by
        rcases hbb with e | e
        · exact .inl (.inl e)
        · exact (hvb b e).imp .inr id
      rcases hw with hw | hw
      · obtain ⟨q1, q2, q3⟩ := (h4 a ha).2 b hw
        exact ⟨q1, q2, fun a' ha' hne => by rw [upV_ne U v' hne]; exact q3 a' ha' hne⟩
      · refine ⟨fun e => ?_, fun e => ?_, fun a' ha' hne => ?_⟩
        · have := hB.lt; omega
        · have := (hR.lt b e).2; omega
        · rw [upV_ne U v' hne]
          exact ⟨fun e => by have := (hlt ha' (.inl e)).2; omega, fun e => by have := (hlt ha' (.inr e)).2; omega⟩
    · rw [upV_ne U v' e, II_ne (k + 1) k e]
      refine ⟨(h4 a ha).1.kept hg (fun b eb => ((h4 m hm).2 b (.inr eb)).2.2 a ha e), fun b hbb => ?_⟩
      obtain ⟨q1, q2, q3⟩ := (h4 a ha).2 b hbb
      refine ⟨q1, q2, fun a' ha' hne => ?_⟩
      by_cases e' : a' = m
      · subst e'
        rw [upV_self]
        refine ⟨(q3 a' ha' hne).1, fun e2 => ?_⟩
        rcases hvb b e2 with e3 | e3
        · exact (q3 a' ha' hne).2 e3
        · have := (hlt ha hbb).2; omega
      · rw [upV_ne U v' e']; exact q3 a' ha' hne
theorem Gw.push {w w' : World} {lo gal : Nat} {V U : Nat → Value} {Nn : Nat → Nat} {vg : Value} {m : Nat} (h : Gw w lo gal V U Nn vg m 12) {v' : Value} (hg : w.grownBy w' vg.ownBlock)
    (p : w'.ownsRow lo 25 1 v' (m + 1) ((List.range m).map U ++ [U m])) (hb : v'.ownBlock = vg.ownBlock ∨ v'.ownBlock = some w.heap.size) : Gw w' lo gal V U Nn v' (m + 1) 0 := by
  have hlt := @Gw.lt w lo gal V U Nn vg m 12 h
  obtain ⟨hB, hR, hv, hz, h4⟩ := h
  rw [II_next] at hz h4
  have hvb : ∀ b, v'.ownBlock = some b → vg.ownBlock = some b ∨ b = w.heap.size := fun b e => by
    rcases hb with e' | e'
    · exact .inl (e' ▸ e)
    · rw [e'] at e; cases e; exact .inr rfl
  refine ⟨hB.kept hg (fun e => hv e.symm), ?_, fun e => ?_, hz, fun a ha => ⟨(h4 a ha).1.kept hg (fun b eb => ⟨fun e => ?_, fun e => ?_⟩), fun b hbb => ?_⟩⟩
  · rw [List.range_succ, List.map_append]; exact p
  · rcases hvb _ e with e | e
    · exact hv e
    · have := hB.lt; omega
  · exact ((h4 a ha).2 b (.inl e)).2.1 eb
  · exact ((h4 a ha).2 b (.inr e)).2.1 eb
  · obtain ⟨q1, q2, q3⟩ := (h4 a ha).2 b hbb
    refine ⟨q1, fun e => ?_, q3⟩
    rcases hvb _ e with e | e
    · exact q2 e
    · have := (hlt ha hbb).2; omega
theorem Lst.at {w : World} {lo n : Nat} {v : Value} {F : Nat → Int} (h : Lst w lo v n F) {k : Nat} (hk : k < n) : ∃ ga c, v = .slice (some ⟨ga, 0, none⟩) n c ∧ w.cell? ⟨ga, k, none⟩ = some (.int .i64 (F k)) := by
  rcases h with ⟨rfl, rfl⟩ | ⟨ga, t, c0, cs, rfl, h1, B, h2, h3, h4, h5⟩
  · omega
  · exact ⟨ga, c0, rfl, B.cell k (h5 k hk)⟩
theorem Lst.rdOf {w : World} {lo n c : Nat} {sp : Option Addr} {F : Nat → Int} (h : Lst w lo (.slice sp n c) n F) : Rd w sp n F := by
  obtain ⟨sp', c', e, R⟩ := h.rd
  injection e with e1 _ _
  subst e1
  exact R
theorem Gw.read {w : World} {lo gal : Nat} {V U : Nat → Value} {Nn : Nat → Nat} {vg : Value} (h : Gw w lo gal V U Nn vg 4 0) : ∃ gg cap, vg = .slice (some ⟨gg, 0, none⟩) 4 cap ∧ ∀ a, a < 4 → w.cell? ⟨gal, a, none⟩ = some (V a) ∧ w.cell? ⟨gg, a, none⟩ = some (U a) ∧ Lst w lo (V a) (Nn a) (fun j => 100 * (a : Int) + 50 + (j : Int)) ∧ Lst w lo (U a) (Nn a + 12) (fun j => if j < Nn a then 100 * (a : Int) + 50 + (j : Int) else 1000 * (a : Int) + 500 + ((j - Nn a : Nat) : Int)) := by
  obtain ⟨hB, hR, hv, hz, h4⟩ := h
  rcases hR.2 with ⟨_, h0⟩ | ⟨gg, cap, cur, e, _⟩
  · omega
  · subst e
    refine ⟨gg, cap, rfl, fun a ha => ?_⟩
    obtain ⟨l1, l2⟩ := (h4 a ha).1.end (Nat.le_refl _)
    have e12 : II 4 0 a = 12 := if_pos ha
    rw [e12] at l2
    refine ⟨hB.cell a ?_, (hR.cellAt a (by omega)).trans ?_, l1, l2⟩
    · match a, ha with
      | 0, _ => rfl
      | 1, _ => rfl
      | 2, _ => rfl
      | 3, _ => rfl
    · rw [List.getElem?_map, List.getElem?_range ha]; rfl
theorem underIs2 : Tryd.prog.underlying 39 = some (.slice 25) := by kernel_rfl
theorem infoIs : (Tryd.prog.info? 25).map (fun i => (i.zero, i.size, i.bytes)) = some (some (.slice none 0 0), 1, 24) := by kernel_rfl
theorem gb_rowG {a b c : World} {v : Option Nat} (h : a.grownBy b none) (k : b.grownBy c v) (hv : ∀ i, v = some i → a.heap.size ≤ i) : a.grownBy c none :=
  ⟨k.os.trans h.os, k.tape.trans h.tape, k.output.trans h.output, Nat.le_trans h.size k.size, fun i hi _ => (k.block i (Nat.lt_of_lt_of_le hi h.size) (fun e => by have := hv i e.symm; omega)).trans (h.block i hi (by simp))⟩
/-- **The row of those that are grown: one more.** -/
theorem wp_push {ops : Array Oper} {rest : List Oper} {o : Oper} {a : Act} {w : World} {Q : Exit → Act → World → Prop} (hgd : o.guard = none) (s x : Operand) (hop : o.op = Op.call { callee := Callee.builtin Builtin.append, args := #[s, x], argTypes := #[39, 39] })
    (lo gal : Nat) (V U : Nat → Value) (Nn : Nat → Nat) (vg : Value) (m : Nat) (h : Gw w lo gal V U Nn vg m 12) (hm : m < 4) (hbase : lo ≤ w.heap.size) (ad : Nat) (hs : a.eval s = vg) (hx : a.eval x = .slice (some ⟨ad, 0, none⟩) 1 1)
    (hn0 : w.cell? ⟨ad, 0, none⟩ = some (U m))
    (k : ∀ v' w', Gw w' lo gal V U Nn v' (m + 1) 0 → w.grownBy w' vg.ownBlock → (∀ i, vg.ownBlock = some i → lo ≤ i) → wpList Tryd.prog ops Q rest (a.put o.dst v') w') : wpList Tryd.prog ops Q (o :: rest) a w := by
  obtain ⟨ib, hib⟩ := info_parts infoIs
  have hnews : ∀ j u, [U m][j]? = some u → w.cell? ((⟨ad, 0, none⟩ : Addr).add j) = some u := fun j u hj => by
    match j, hj with
    | 0, hj => cases hj; exact hn0
  have hone : (U m).oneCell' = true := by
    obtain ⟨_, l2⟩ := (h.2.2.2.2 m hm).1.end (Nat.le_refl _)
    obtain ⟨sp, c, e, _⟩ := l2.rd
    rw [e]; rfl
  refine wpList_append_own_at w hgd s x 39 hop lo 25 ib _ 1 24 underIs2 hib.1 hib.2.1 hib.2.2.1 hib.2.2.2 rfl (by decide) _ m _ hs h.2.1 ⟨ad, 0, none⟩ 1 1 [U m] hx rfl hnews (fun u hu => by simp only [List.mem_cons, List.not_mem_nil, or_false] at hu; subst hu; exact hone) (by unfold maxLen; omega) (by omega) hbase (fun v' w' ho' hg hnil hblk => ?_)
  exact k _ _ (h.push hg ho' hblk) hg (fun i e => (h.2.1.lt i e).1)
end Go.Proofs.YtgflchbmoinonaaDoor
