/- lent: a row of one's own, with marks behind its words. -/
import Derived.Test.YtcdefpfnjjahgabW34
import Derived.Laws.AppendOwnNone
namespace Go.Proofs.Ytcdefpfnjjahgab
open Go.RowKit
set_option linter.unusedVariables false
set_option linter.unusedSimpArgs false

theorem slice_nil2 {n cap : Nat} (h : n = 0) (h' : cap = 0) : Value.slice none n cap = Value.slice none 0 0 := by rw [h, h']
theorem own_nil2 {w : World} {base n : Nat} {f : Nat → Nat} (h : n = 0) : w.ownsRow base 22 1 (.slice none 0 0) n ((List.range n).map fun k : Nat => Value.int .u64 ((f k : Nat) : Int)) := by subst h; exact World.ownsRow_nil _ _ _ _
theorem words_news {w : World} {a : Addr} {n : Nat} {f : Nat → Nat} (h : Wd w (some a) n f) : ∀ j u, ((List.range n).map fun k : Nat => Value.int .u64 ((f k : Nat) : Int))[j]? = some u → w.cell? (a.add j) = some u := fun j u hj => by
  have hjn : j < n := by
    have := (List.getElem?_eq_some_iff.1 hj).1
    simpa using this
  rw [List.getElem?_map, List.getElem?_range hjn] at hj
  cases hj
  exact h.at hjn
theorem words_one {n : Nat} {f : Nat → Nat} : ∀ u ∈ ((List.range n).map fun k : Nat => Value.int .u64 ((f k : Nat) : Int)), u.oneCell' = true := fun u hu => by
  obtain ⟨k, _, rfl⟩ := List.mem_map.1 hu
  rfl
theorem own_rowIs {w : World} {base t n g cap : Nat} {xs : List Value} (h : w.ownsRow base t 1 (.slice (some ⟨g, 0, none⟩) n cap) n xs) : ∃ F : Nat → Value, w.rowIs g t cap F ∧ (∀ j u, xs[j]? = some u → F j = u) ∧ n ≤ cap := by
  rcases h.2 with ⟨e, _⟩ | ⟨g', cap', cur, e, _, hg, hnc, _, hsz, htk⟩
  · cases e
  · injection e with e1 e2 e3
    injection e1 with e1
    injection e1 with e1
    subst e1 e3
    refine ⟨fun j => cur.getD j undef, ⟨cur, hg, by omega, fun i hi => by dsimp only; rw [Array.getD_eq_getD_getElem?, Array.getElem?_eq_getElem (by omega)]; rfl⟩, fun j u hj => ?_, hnc⟩
    rw [← htk, List.getElem?_take] at hj
    split at hj
    · rw [Array.getElem?_toList] at hj
      dsimp only
      rw [Array.getD_eq_getD_getElem?, hj]; rfl
    · cases hj

set_option maxRecDepth 100000 in
set_option maxHeartbeats 4000000 in
theorem lentC (N : Int) (n cap : Nat) (sp : Option Addr) (f : Nat → Nat) (hn : n ≤ 17592186043904) (w : World) (hc : Wd w sp n f) (h0 : sp = none → n = 0 ∧ cap = 0) :
    Calls Try.prog 11 #[.agg #[.int .i64 N, .slice sp n cap]] w fun e w' => ∃ b c, e = .returned (.agg #[.int .i64 N, .slice (some ⟨b, 0, none⟩) n c]) ∧ w.heap.size ≤ b ∧ (∃ F, w'.rowIs b 22 c F ∧ (∀ k, k < n → F k = .int .u64 (f k)) ∧ (∀ i, i < 70 → F (n + i) = .int .u64 (7777 + (i : Int))) ∧ n + 70 ≤ c) ∧ w.grownBy w' none := by
  obtain ⟨iw, hiw⟩ := info_parts bInfoW
  have HW : Hid (Try.prog.info? 22 = some iw ∧ iw.zero = some (.int .u64 0) ∧ iw.size = 1 ∧ iw.bytes = 8) := hiw
  clear hiw
  obtain ⟨W0, hW0, c0, c1, sz0, g0, B0⟩ := box2 w (.int .i64 N) (.slice sp n cap) 31
  obtain ⟨W1, hW1, d0, d1, sz1, g1, B1⟩ := box2 W0 (.int .i64 0) (.slice none 0 0) 31
  have gg := gb_trans g0 g1
  have B01 := B0.kept g1 (by simp)
  have x0 := B01.cell0
  have x1 := B01.cell1
  have z1 := gg.size
  have hb1 := hc.kept gg (by simp)
  cases sp with
  | none =>
    have HN0 : Hid (n = 0) := (h0 rfl).1
    have HC0 : Hid (cap = 0) := (h0 rfl).2
    clear h0
    go_enter Try.func11, Try.ntmps11
    go_wp2_with (at_builtin; refine wpList_append_own_none rfl _ _ 29 rfl W1.heap.size 22 iw 1 bUnderS HW.out.1 _ 0 [] rfl (World.ownsRow_nil _ _ _ _) (slice_nil2 HN0.out HC0.out) ?_; have hown2 : W1.ownsRow W1.heap.size 22 1 (.slice none 0 0) n ((List.range n).map fun k : Nat => Value.int .u64 ((f k : Nat) : Int)) := (own_nil2 HN0.out); have g2 : W1.grownBy W1 none := World.grownBy.refl _ _)
    have hw2 : W1.ownsRow W1.heap.size 22 1 (.slice none 0 0) (n + 0) (((List.range n).map fun k : Nat => Value.int .u64 ((f k : Nat) : Int)) ++ ((List.range 0).map fun i : Nat => Value.int .u64 (7777 + (i : Int)))) := by rw [List.range_zero, List.map_nil, List.append_nil]; exact hown2
    have hg2 : W1.grownBy W1 none := g2
    clear hown2 g2
    go_loopw [3, 4] (fun vl v wr => ∃ k : Nat, k ≤ 70 ∧ v = .int .i64 k ∧ wr.ownsRow W1.heap.size 22 1 vl (n + k) (((List.range n).map fun k : Nat => Value.int .u64 ((f k : Nat) : Int)) ++ ((List.range k).map fun i : Nat => Value.int .u64 (7777 + (i : Int)))) ∧ W1.grownBy wr none) (fun _ v _ => 70 - (intOf v).toNat)
    case atStart => exact ⟨0, Nat.zero_le _, rfl, hw2, hg2⟩
    case round =>
      obtain ⟨k, hk, rfl, hown, hg⟩ := hrel
      have zg := hg.size
      by_cases hlt : k < 70
      · have hlt' : (k : Int) < 70 := by omega
        have hwi : IntKind.i64.wrap (7777 + (k : Int)) = 7777 + (k : Int) := by rw [IntKind.wrap_i64]; omega
        have hwu : IntKind.u64.wrap (7777 + (k : Int)) = 7777 + (k : Int) := by rw [IntKind.wrap_u64]; omega
        obtain ⟨W4, hW4⟩ : ∃ W4, wr.alloc (.cells #[.int .u64 (7777 + (k : Int))] 22) = W4 := ⟨_, rfl⟩
        have g4 : wr.grownBy W4 none := by rw [← hW4]; exact World.grownBy_alloc _ _ _
        have hN4 : ∀ j u, [Value.int .u64 (7777 + (k : Int))][j]? = some u → W4.cell? ((⟨wr.heap.size, 0, none⟩ : Addr).add j) = some u := by rw [← hW4]; exact World.news_of_block (cs := #[Value.int .u64 (7777 + (k : Int))]) (heap_alloc_new wr _)
        have z4 := g4.size
        have ho4 := hown.kept g4 (Classical.em _)
        go_wp2_with (at_builtin; refine wpList_append_own _ rfl _ _ 29 rfl W1.heap.size 22 iw (.int .u64 0) 1 8 bUnderS HW.out.1 HW.out.2.1 HW.out.2.2.1 HW.out.2.2.2 rfl (by decide) _ _ _ rfl ho4 ⟨wr.heap.size, 0, none⟩ 1 1 [.int .u64 (7777 + (k : Int))] rfl rfl hN4 (by intro u hu; simp at hu; subst hu; rfl) (by unfold maxLen; omega) (by omega) (by omega) ?_; intro v5 w5 hown5 hgrow5 hnil5)
        go_roundw
        case rel =>
          refine ⟨k + 1, by omega, by go_num, ?_, gb_row (gb_trans hg g4) hgrow5 (fun i e => (hown.lt i e).1)⟩
          rw [List.range_succ, List.map_append, ← List.append_assoc]
          exact hown5
        case measure => simp [intOf]; omega
      · have hlt' : ¬ (k : Int) < 70 := by omega
        obtain rfl : k = 70 := by omega
        obtain ⟨b, c, rfl⟩ := ownsRow_succ (k := n + 69) hown
        have B9 := B01.kept hg (by simp)
        have R9 := B1.kept hg (by simp)
        have x2 := B9.cell0
        have x3 := B9.cell1
        have x4 := R9.cell0
        have x5 := R9.cell1
        have x6 := R9.free0
        have x7 := R9.free1
        obtain ⟨F, hF, hat, hle⟩ := own_rowIs hown
        have hi1 : (n : Int) ≤ (c : Int) := by omega
        have lb := (hown.lt b rfl).1
        have s1 := B1.lt
        obtain ⟨fs, hfs⟩ := underR
        go_wp2
        refine region_tail 8 mixed (by kernel_rfl) ?_
        simp only [List.take_succ_cons, List.take_zero, List.drop_succ_cons, List.drop_zero]
        repeat still_step
        refine wpStill_nil ?_
        go_wp2
        refine ret_box1 (g := W0.heap.size) (t := 31) rfl hfs infoR rfl (R9.set _ _) rfl ?_
        have hne : b ≠ W0.heap.size := by omega
        have hz0 := g0.size
        refine ⟨b, c, rfl, by omega, ⟨F, World.rowIs.setOther (World.rowIs.setOther hF (a := ⟨W0.heap.size, 0, none⟩) hne _) (a := ⟨W0.heap.size, 1, none⟩) hne _, fun k hk => hat k _ ?_, fun i hi => hat (n + i) _ ?_, by omega⟩, gb_new (gb_new (gb_drew (gb_trans gg hg)) (a := ⟨W0.heap.size, 0, none⟩) hz0 _) (a := ⟨W0.heap.size, 1, none⟩) hz0 _⟩
        · rw [List.getElem?_append_left (by simpa using hk), List.getElem?_map, List.getElem?_range hk]; rfl
        · rw [List.getElem?_append_right (by simp), List.getElem?_map, List.length_map, List.length_range, show n + i - n = i by omega, List.getElem?_range hi]; rfl
  | some a =>
    clear h0
    go_enter Try.func11, Try.ntmps11
    go_wp2_with (at_builtin; refine wpList_append_own _ rfl _ _ 29 rfl W1.heap.size 22 iw (.int .u64 0) 1 8 bUnderS HW.out.1 HW.out.2.1 HW.out.2.2.1 HW.out.2.2.2 rfl (by decide) _ 0 [] rfl (World.ownsRow_nil _ _ _ _) a n cap ((List.range n).map fun k : Nat => Value.int .u64 ((f k : Nat) : Int)) rfl (by simp) (words_news hb1) words_one (by unfold maxLen; omega) (by omega) (by omega) ?_; intro v2 w2 hown2 g2 hnil2; rw [Nat.zero_add, List.nil_append] at hown2)
    have hw2 : w2.ownsRow W1.heap.size 22 1 v2 (n + 0) (((List.range n).map fun k : Nat => Value.int .u64 ((f k : Nat) : Int)) ++ ((List.range 0).map fun i : Nat => Value.int .u64 (7777 + (i : Int)))) := by rw [List.range_zero, List.map_nil, List.append_nil]; exact hown2
    have hg2 : W1.grownBy w2 none := gb_row (World.grownBy.refl _ _) g2 (fun i e => by cases e)
    clear hown2 g2
    go_loopw [3, 4] (fun vl v wr => ∃ k : Nat, k ≤ 70 ∧ v = .int .i64 k ∧ wr.ownsRow W1.heap.size 22 1 vl (n + k) (((List.range n).map fun k : Nat => Value.int .u64 ((f k : Nat) : Int)) ++ ((List.range k).map fun i : Nat => Value.int .u64 (7777 + (i : Int)))) ∧ W1.grownBy wr none) (fun _ v _ => 70 - (intOf v).toNat)
    case atStart => exact ⟨0, Nat.zero_le _, rfl, hw2, hg2⟩
    case round =>
      obtain ⟨k, hk, rfl, hown, hg⟩ := hrel
      have zg := hg.size
      by_cases hlt : k < 70
      · have hlt' : (k : Int) < 70 := by omega
        have hwi : IntKind.i64.wrap (7777 + (k : Int)) = 7777 + (k : Int) := by rw [IntKind.wrap_i64]; omega
        have hwu : IntKind.u64.wrap (7777 + (k : Int)) = 7777 + (k : Int) := by rw [IntKind.wrap_u64]; omega
        obtain ⟨W4, hW4⟩ : ∃ W4, wr.alloc (.cells #[.int .u64 (7777 + (k : Int))] 22) = W4 := ⟨_, rfl⟩
        have g4 : wr.grownBy W4 none := by rw [← hW4]; exact World.grownBy_alloc _ _ _
        have hN4 : ∀ j u, [Value.int .u64 (7777 + (k : Int))][j]? = some u → W4.cell? ((⟨wr.heap.size, 0, none⟩ : Addr).add j) = some u := by rw [← hW4]; exact World.news_of_block (cs := #[Value.int .u64 (7777 + (k : Int))]) (heap_alloc_new wr _)
        have z4 := g4.size
        have ho4 := hown.kept g4 (Classical.em _)
        go_wp2_with (at_builtin; refine wpList_append_own _ rfl _ _ 29 rfl W1.heap.size 22 iw (.int .u64 0) 1 8 bUnderS HW.out.1 HW.out.2.1 HW.out.2.2.1 HW.out.2.2.2 rfl (by decide) _ _ _ rfl ho4 ⟨wr.heap.size, 0, none⟩ 1 1 [.int .u64 (7777 + (k : Int))] rfl rfl hN4 (by intro u hu; simp at hu; subst hu; rfl) (by unfold maxLen; omega) (by omega) (by omega) ?_; intro v5 w5 hown5 hgrow5 hnil5)
        go_roundw
        case rel =>
          refine ⟨k + 1, by omega, by go_num, ?_, gb_row (gb_trans hg g4) hgrow5 (fun i e => (hown.lt i e).1)⟩
          rw [List.range_succ, List.map_append, ← List.append_assoc]
          exact hown5
        case measure => simp [intOf]; omega
      · have hlt' : ¬ (k : Int) < 70 := by omega
        obtain rfl : k = 70 := by omega
        obtain ⟨b, c, rfl⟩ := ownsRow_succ (k := n + 69) hown
        have B9 := B01.kept hg (by simp)
        have R9 := B1.kept hg (by simp)
        have x2 := B9.cell0
        have x3 := B9.cell1
        have x4 := R9.cell0
        have x5 := R9.cell1
        have x6 := R9.free0
        have x7 := R9.free1
        obtain ⟨F, hF, hat, hle⟩ := own_rowIs hown
        have hi1 : (n : Int) ≤ (c : Int) := by omega
        have lb := (hown.lt b rfl).1
        have s1 := B1.lt
        obtain ⟨fs, hfs⟩ := underR
        go_wp2
        refine region_tail 8 mixed (by kernel_rfl) ?_
        simp only [List.take_succ_cons, List.take_zero, List.drop_succ_cons, List.drop_zero]
        repeat still_step
        refine wpStill_nil ?_
        go_wp2
        refine ret_box1 (g := W0.heap.size) (t := 31) rfl hfs infoR rfl (R9.set _ _) rfl ?_
        have hne : b ≠ W0.heap.size := by omega
        have hz0 := g0.size
        refine ⟨b, c, rfl, by omega, ⟨F, World.rowIs.setOther (World.rowIs.setOther hF (a := ⟨W0.heap.size, 0, none⟩) hne _) (a := ⟨W0.heap.size, 1, none⟩) hne _, fun k hk => hat k _ ?_, fun i hi => hat (n + i) _ ?_, by omega⟩, gb_new (gb_new (gb_drew (gb_trans gg hg)) (a := ⟨W0.heap.size, 0, none⟩) hz0 _) (a := ⟨W0.heap.size, 1, none⟩) hz0 _⟩
        · rw [List.getElem?_append_left (by simpa using hk), List.getElem?_map, List.getElem?_range hk]; rfl
        · rw [List.getElem?_append_right (by simp), List.getElem?_map, List.length_map, List.length_range, show n + i - n = i by omega, List.getElem?_range hi]; rfl
end Go.Proofs.Ytcdefpfnjjahgab
