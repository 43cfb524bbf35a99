/- wipe: a tree that was lent is written over. -/
import Derived.Test.YteaionmjbkildaaDoorQ38
namespace Go.Proofs.YteaionmjbkildaaDoor
open Go.RowKit
set_option linter.unusedVariables false
set_option linter.unusedSimpArgs false
set_option maxRecDepth 100000

/-- A node written over. -/
def wpN (S : Int) (t : TN) : TN :=
  if 1 < t.kn then { t with kf := fun i => if i = 0 then t.kf (t.kn - 1) else if i = t.kn - 1 then t.kf 0 else t.kf i }
  else if t.kn = 0 ∧ 1 < S then { t with st := (((t.st : Int) + 1) % S % 256).toNat }
  else t
def wpT (S : Int) (t : Nat → TN) (m j : Nat) : TN := if j < m then wpN S (t j) else t j

theorem own_setIn {w : World} {B size n q g i : Nat} {e : TypeId} {xs : List Value} (h : w.ownsRow B e size (.slice (some ⟨g, 0, none⟩) n q) n xs) (v : Value) : (w.setCell ⟨g, i, none⟩ v).ownsRow B e size (.slice (some ⟨g, 0, none⟩) n q) n (xs.set i v) := by
  rcases h.2 with ⟨e, _⟩ | ⟨g', cap, cur, e, hb, hg, h1, h2, h3, h4⟩
  · cases e
  · cases e
    refine ⟨by simp [h.1], .inr ⟨g, q, cur.setIfInBounds i v, rfl, hb, Joins.block_setCell hg v, h1, h2, by simp [h3], ?_⟩⟩
    rw [Array.toList_setIfInBounds, List.take_set, h4]
theorem ndV_set (t : Nat → TN) (kb kq : Nat → Nat) (j s : Nat) : ∀ n, j < n → (ndV t kb kq n).set (j * 2) (.int .u8 (s : Nat)) = ndV (fun k => if k = j then { t k with st := s } else t k) kb kq n
  | 0, h => absurd h (Nat.not_lt_zero _)
  | n + 1, h => by
    have hl := ndV_len t kb kq n
    by_cases e : j = n
    · subst e
      have hc : ndV (fun k => if k = j then { t k with st := s } else t k) kb kq j = ndV t kb kq j := by
        have : ∀ m, m ≤ j → ndV (fun k => if k = j then { t k with st := s } else t k) kb kq m = ndV t kb kq m := by
          intro m
          induction m with
          | zero => intro _; rfl
          | succ m ih => intro hm; rw [ndV, ndV, ih (by omega)]; simp [show m ≠ j by omega]
        exact this j (Nat.le_refl _)
      rw [ndV, ndV, hc, List.set_append_right _ _ (by omega), hl]
      simp
    · rw [ndV, ndV, List.set_append_left _ _ (by omega), ndV_set t kb kq j s n (by omega)]
      simp [show n ≠ j by omega]
theorem swapV (kf : Nat → Int) (kn : Nat) (h : 1 < kn) (a b : Value) : ((kidsV kf kn ++ [a, b]).set 0 (.int .i64 (kf (kn - 1)))).set (kn - 1) (.int .i64 (kf 0)) = kidsV (fun i => if i = 0 then kf (kn - 1) else if i = kn - 1 then kf 0 else kf i) kn ++ [a, b] := by
  have hl := kidsV_len kf kn
  apply List.ext_getElem?
  intro i
  have hl2 := kidsV_len (fun i => if i = 0 then kf (kn - 1) else if i = kn - 1 then kf 0 else kf i) kn
  by_cases hi : i < kn
  · rw [List.getElem?_append_left (l₁ := kidsV (fun i => if i = 0 then kf (kn - 1) else if i = kn - 1 then kf 0 else kf i) kn) (by omega)]
    by_cases e1 : i = kn - 1
    · subst e1
      rw [List.getElem?_set_self (by simp [hl]; omega)]
      simp [kidsV, show kn - 1 < kn by omega, show kn - 1 ≠ 0 by omega]
    · rw [List.getElem?_set_ne (by omega)]
      by_cases e0 : i = 0
      · subst e0
        rw [List.getElem?_set_self (by simp [hl])]
        simp [kidsV, hi]
      · rw [List.getElem?_set_ne (by omega), List.getElem?_append_left (by omega)]
        simp [kidsV, hi, e0, e1]
  · rw [List.getElem?_set_ne (by omega), List.getElem?_set_ne (by omega), List.getElem?_append_right (by omega), List.getElem?_append_right (by omega), hl, hl2]
/-- What wipe leaves alone: every block but those of the tree. -/
structure Wk (gN n : Nat) (kb : Nat → Nat) (w w' : World) : Prop where
  os : w'.os = w.os
  tape : w'.tape = w.tape
  output : w'.output = w.output
  size : w.heap.size ≤ w'.heap.size
  block : ∀ g, g < w.heap.size → g ≠ gN → (∀ j, j < n → g ≠ kb j) → w'.heap[g]? = w.heap[g]?

theorem Wk.gb {gN n : Nat} {kb : Nat → Nat} {w w' w'' : World} {r : Option Nat} (h : Wk gN n kb w w') (g : w'.grownBy w'' r) (hr : ∀ b, r = some b → b = gN ∨ ∃ j, j < n ∧ b = kb j) : Wk gN n kb w w'' :=
  ⟨g.os.trans h.os, g.tape.trans h.tape, g.output.trans h.output, Nat.le_trans h.size g.size, fun k hk h1 h2 => (g.block k (Nat.lt_of_lt_of_le hk h.size) (fun e => by
    rcases hr k e.symm with h | ⟨j, hj, h⟩
    · exact h1 h
    · exact h2 j hj h)).trans (h.block k hk h1 h2)⟩
theorem Lt.swap {w : World} {B gN cN n : Nat} {t : Nat → TN} {kb kq : Nat → Nat} {S : Int} (h : Lt w B gN cN n t kb kq) {j : Nat} (hj : j < n) (hk : 1 < (t j).kn) : Lt ((w.setCell ⟨kb j, 0, none⟩ (.int .i64 ((t j).kf ((t j).kn - 1)))).setCell ⟨kb j, (t j).kn - 1, none⟩ (.int .i64 ((t j).kf 0))) B gN cN n (fun k => if k = j then wpN S (t k) else t k) kb kq := by
  have hK := h.kids j hj
  have e1 : wpN S (t j) = { t j with kf := fun i => if i = 0 then (t j).kf ((t j).kn - 1) else if i = (t j).kn - 1 then (t j).kf 0 else (t j).kf i } := by unfold wpN; rw [if_pos hk]
  have hst : ∀ k, (if k = j then wpN S (t k) else t k).st = (t k).st ∧ (if k = j then wpN S (t k) else t k).kn = (t k).kn := fun k => by
    by_cases e : k = j
    · subst e; simp [e1]
    · simp [e]
  have g1 : ∀ {W : World} i v, W.grownBy (W.setCell ⟨kb j, i, none⟩ v) (some (kb j)) := fun i v => gb_set (World.grownBy.refl _ _) i v
  refine ⟨?_, fun k hk' => ?_, h.inc⟩
  · have hn : ∀ m, ndV (fun k => if k = j then wpN S (t k) else t k) kb kq m = ndV t kb kq m := fun m => by
      induction m with
      | zero => rfl
      | succ m ih => rw [ndV, ndV, ih, (hst m).1, (hst m).2]
    rw [hn]
    have ne : some gN ≠ some (kb j) := fun e => own_ne h.nodes hK (by simp only [Value.ownBlock]; exact e.symm)
    exact (h.nodes.kept (g1 _ _) (.inr ne)).kept (g1 _ _) (.inr ne)
  · by_cases e : k = j
    · subst e
      simp only [if_true]
      have := own_setIn (i := (t k).kn - 1) (own_setIn (i := 0) hK (.int .i64 ((t k).kf ((t k).kn - 1)))) (.int .i64 ((t k).kf 0))
      rw [swapV _ _ hk] at this
      rw [e1]
      exact this
    · simp only [e, if_false]
      have ne : some (kb k) ≠ some (kb j) := fun e' => by
        have e'' := Option.some.inj e'
        rcases Nat.lt_or_gt_of_ne e with h' | h'
        · have := h.inc k j h' hj; omega
        · have := h.inc j k h' hk'; omega
      exact ((h.kids k hk').keep (g1 _ _) ne).keep (g1 _ _) ne
theorem Lt.turn {w : World} {B gN cN n : Nat} {t : Nat → TN} {kb kq : Nat → Nat} (h : Lt w B gN cN n t kb kq) {j : Nat} (hj : j < n) (s : Nat) : Lt (w.setCell ⟨gN, j * 2, none⟩ (.int .u8 (s : Nat))) B gN cN n (fun k => if k = j then { t k with st := s } else t k) kb kq := by
  refine ⟨?_, fun k hk' => ?_, h.inc⟩
  · have := own_setIn (i := j * 2) h.nodes (.int .u8 (s : Nat))
    have hl := ndV_len t kb kq n
    rw [List.append_assoc, List.set_append_left _ _ (by omega), ndV_set t kb kq j s n hj, ← List.append_assoc] at this
    exact this
  · have g1 := (h.kids k hk').keep (gb_set (b := gN) (World.grownBy.refl w _) (j * 2) (.int .u8 (s : Nat))) (fun e => own_ne h.nodes (h.kids k hk') e)
    by_cases e : k = j
    · simp only [e, if_true] at g1 ⊢; exact g1
    · simp only [e, if_false]; exact g1
theorem Lt.congr {w : World} {B gN cN n : Nat} {t t' : Nat → TN} {kb kq : Nat → Nat} (h : Lt w B gN cN n t kb kq) (e : ∀ k, k < n → t k = t' k) : Lt w B gN cN n t' kb kq := by
  refine ⟨?_, fun k hk => by rw [← e k hk]; exact h.kids k hk, h.inc⟩
  have hn : ∀ m, m ≤ n → ndV t' kb kq m = ndV t kb kq m := fun m => by
    induction m with
    | zero => intro _; rfl
    | succ m ih => intro hm; rw [ndV, ndV, ih (by omega), e m (by omega)]
  rw [hn n (Nat.le_refl _)]
  exact h.nodes

set_option maxHeartbeats 2000000 in
theorem wipeC (S I R : Int) (n B gN cN : Nat) (kb kq : Nat → Nat) (t : Nat → TN) (hn : n ≤ 4398046510976) (hst : ∀ j, (t j).st < 256) (hkn : ∀ j, j < n → (t j).kn ≤ 17592186043904) (w : World) (hL : Lt w B gN cN n t kb kq) :
    Calls Tryd.prog 24 #[.agg #[.int .i64 S, .int .i64 I, .slice (some ⟨gN, 0, none⟩) n cN, .int .i64 R]] w fun e w' => e = .returned (.tuple #[]) ∧ Lt w' B gN cN n (wpT S t n) kb kq ∧ Wk gN n kb w w' := by
  obtain ⟨W1, hW1, sz1, g1, B1⟩ := boxn w #[.int .i64 S, .int .i64 I, .slice (some ⟨gN, 0, none⟩) n cN, .int .i64 R] 30
  have a0 := B1.cell 0 (v := .int .i64 S) rfl
  have a1 := B1.cell 1 (v := .int .i64 I) rfl
  have a2 := B1.cell 2 (v := .slice (some ⟨gN, 0, none⟩) n cN) rfl
  have a3 := B1.cell 3 (v := .int .i64 R) rfl
  go_enter Tryd.func24, Tryd.ntmps24
  go_wp2
  clear a0 a1 a2 a3
  go_loopw [2] (fun i wr => ∃ j : Nat, j ≤ n ∧ i = .int .i64 j ∧ Lt wr B gN cN n (wpT S t j) kb kq ∧ Wk gN n kb w wr ∧ Bo wr w.heap.size 30 #[.int .i64 S, .int .i64 I, .slice (some ⟨gN, 0, none⟩) n cN, .int .i64 R]) (fun i _ => n - (intOf i).toNat)
  case atStart => exact ⟨0, Nat.zero_le _, rfl, (hL.keep g1 (by simp)).congr (fun k hk => by simp [wpT]), ⟨g1.os, g1.tape, g1.output, g1.size, fun k hk _ _ => g1.block k hk (by simp)⟩, B1⟩
  case round =>
    obtain ⟨j, hj, rfl, hLj, Wj, Bj⟩ := hrel
    have a0 := Bj.cell 0 (v := .int .i64 S) rfl
    have a2 := Bj.cell 2 (v := .slice (some ⟨gN, 0, none⟩) n cN) rfl
    by_cases hlt : j < n
    · have hlt' : (j : Int) < (n : Int) := by omega
      have hwj : wpT S t j j = t j := by simp [wpT]
      obtain ⟨y0, y1⟩ := hLj.node hlt
      have hK := hLj.kids j hlt
      rw [hwj] at y0 y1 hK
      have HN : Hid (∀ k, k < n → (if k = j then wpN S (wpT S t j k) else wpT S t j k) = wpT S t (j + 1) k) := fun k hk => by
        by_cases e : k = j
        · subst e; simp [wpT]
        · by_cases e2 : k < j
          · simp [wpT, e, e2, show k < j + 1 by omega]
          · simp [wpT, e, e2, show ¬ k < j + 1 by omega]
      have hkj := hkn j hlt
      have hsj := hst j
      have hgl : gN < w.heap.size := (hL.nodes.lt gN rfl).2
      have hkl : kb j < w.heap.size := (World.ownsRow.lt (hL.kids j hlt) (kb j) rfl).2
      by_cases hk1 : 1 < (t j).kn
      · have k0 := hK.kid (i := 0) (by omega)
        have k1 := hK.kid (i := (t j).kn - 1) (by omega)
        have HS : Hid (1 < (wpT S t j j).kn) := by unfold Hid; rw [hwj]; exact hk1
        have HW : Hid (wpT S t j j = t j) := hwj
        have f0 : ∀ i, wr.frozen? ⟨kb j, i, none⟩ = false := fun i => by
          rcases hK.2 with ⟨h, _⟩ | ⟨g', cap', cur', h, _, h2, _⟩
          · cases h
          · cases h; simp [World.frozen?, h2]
        obtain ⟨m, hm⟩ : ∃ m, (t j).kn = m + 2 := ⟨(t j).kn - 2, by omega⟩
        have hm1 : (t j).kn - 1 = m + 1 := by omega
        have HM1 : Hid ((t j).kn - 1 = m + 1) := hm1
        rw [hm1] at k1
        rw [hm] at y1 hkj
        have f1 := f0 0
        have f2 := f0 (m + 1)
        have ne : (m + 1) ≠ 0 := by omega
        have LS := (hLj.swap (S := S) hlt HS.out).congr HN.out
        rw [hwj, hm1] at LS
        have HLS := Lib.hid LS
        have neb : kb j ≠ w.heap.size := by omega
        clear hwj hm hm1 hk1 f0 LS
        go_wp2
        go_region
        go_wp2
        go_roundw
        case rel => exact ⟨j + 1, hlt, by go_num, HLS.out.keep ⟨rfl, rfl, rfl, Nat.le_refl _, fun _ _ _ => rfl⟩ (r := none) (by simp), ((Wj.gb (gb_set (World.grownBy.refl wr _) 0 _) (fun b hb => .inr ⟨j, hlt, by cases hb; rfl⟩)).gb (gb_set (World.grownBy.refl _ _) (m + 1) _) (fun b hb => .inr ⟨j, hlt, by cases hb; rfl⟩)).gb (r := none) ⟨rfl, rfl, rfl, Nat.le_refl _, fun _ _ _ => rfl⟩ (by simp), ((Bj.set2 neb).set2 neb).dr⟩
        case measure => simp [intOf]; omega
      · have hk1' : ¬ ((1 : Int) < ((t j).kn : Int)) := by omega
        by_cases hk0 : (t j).kn = 0 ∧ 1 < S
        · obtain ⟨hk0, hS1⟩ := hk0
          rw [hk0] at y1
          have f0 : wr.frozen? ⟨gN, j * 2, none⟩ = false := by
            rcases hLj.nodes.2 with ⟨h, _⟩ | ⟨g', cap', cur', h, _, h2, _⟩
            · cases h
            · cases h; simp [World.frozen?, h2]
          have hS0 : S ≠ 0 := by omega
          have hs : (((t j).st : Int) + 1) % S % 256 = ((((((t j).st : Int) + 1) % S % 256).toNat : Nat) : Int) := (Int.toNat_of_nonneg (Int.emod_nonneg _ (by decide))).symm
          have e1 : wpN S (t j) = { t j with st := ((((t j).st : Int) + 1) % S % 256).toNat } := by unfold wpN; rw [if_neg hk1, if_pos ⟨hk0, hS1⟩]
          have LS := (hLj.turn hlt ((((t j).st : Int) + 1) % S % 256).toNat).congr (t' := wpT S t (j + 1)) (fun k hk => by
            rw [← HN.out k hk]
            by_cases e : k = j
            · subst e; rw [if_pos rfl, if_pos rfl, hwj, e1]
            · rw [if_neg e, if_neg e])
          rw [← hs] at LS
          have HLS := Lib.hid LS
          have neb : gN ≠ w.heap.size := by omega
          clear hk1' hk1 hs e1 LS
          go_wp2
          go_region
          go_wp2
          go_roundw
          case rel => exact ⟨j + 1, hlt, by go_num, HLS.out.keep ⟨rfl, rfl, rfl, Nat.le_refl _, fun _ _ _ => rfl⟩ (r := none) (by simp), (Wj.gb (gb_set (World.grownBy.refl wr _) (j * 2) _) (fun b hb => .inl (by cases hb; rfl))).gb (r := none) ⟨rfl, rfl, rfl, Nat.le_refl _, fun _ _ _ => rfl⟩ (by simp), (Bj.set2 neb).dr⟩
          case measure => simp [intOf]; omega
        · have e1 : wpN S (t j) = t j := by unfold wpN; rw [if_neg hk1, if_neg hk0]
          have LS : Lt wr B gN cN n (wpT S t (j + 1)) kb kq := hLj.congr (fun k hk => by
            rw [← HN.out k hk]
            by_cases e : k = j
            · subst e; rw [if_pos rfl, hwj, e1]
            · rw [if_neg e])
          by_cases hz : (t j).kn = 0
          · have hz' : (((t j).kn : Int) == 0) = true := by simp [hz]
            have hS' : ¬ (1 < S) := fun h => hk0 ⟨hz, h⟩
            clear hk0 hz e1
            go_wp2
            go_roundw
            case rel => exact ⟨j + 1, hlt, by go_num, LS, Wj, Bj⟩
            case measure => simp [intOf]; omega
          · have hz' : (((t j).kn : Int) == 0) = false := by simp; omega
            clear hk0 hz e1
            go_wp2
            go_roundw
            case rel => exact ⟨j + 1, hlt, by go_num, LS, Wj, Bj⟩
            case measure => simp [intOf]; omega
    · have hjn : j = n := by omega
      subst hjn
      have hjn' : ¬ ((j : Int) < (j : Int)) := by omega
      go_wp2
      refine bodyPost_end (results_none rfl _ _ _) rfl ?_
      exact ⟨rfl, hLj, Wj⟩
end Go.Proofs.YteaionmjbkildaaDoor
