/- lent and kept: a row of one's own with marks behind its words; is it as it was? -/
import Derived.Test.YtkgipjabkalnaaaDoorY12
import Derived.Laws.AppendOwnNone
import Derived.ArgAppend
namespace Go.Proofs.YtkgipjabkalnaaaDoor.Pd
open Go.RowKit
set_option linter.unusedVariables false
set_option linter.unusedSimpArgs false
set_option maxRecDepth 100000

theorem slice_nil2 {n cap : Nat} (h : n = 0) (h' : cap = 0) : Value.slice none n cap = Value.slice none 0 0 := by rw [h, h']
theorem own_nil2 {w : World} {base n : Nat} {f : Nat → Nat} (h : n = 0) : w.ownsRow base 33 1 (.slice none 0 0) n ((List.range n).map fun k : Nat => Value.int .u64 ((f k : Nat) : Int)) := by subst h; exact World.ownsRow_nil _ _ _ _
theorem words_news {w : World} {a : Addr} {n : Nat} {f : Nat → Nat} (h : Wd w (some a) n f) : ∀ j u, ((List.range n).map fun k : Nat => Value.int .u64 ((f k : Nat) : Int))[j]? = some u → w.cell? (a.add j) = some u := fun j u hj => by
  have hjn : j < n := by
    have := (List.getElem?_eq_some_iff.1 hj).1
    simpa using this
  rw [List.getElem?_map, List.getElem?_range hjn] at hj
  cases hj
  exact h.at hjn
theorem words_one {n : Nat} {f : Nat → Nat} : ∀ u ∈ ((List.range n).map fun k : Nat => Value.int .u64 ((f k : Nat) : Int)), u.oneCell' = true := fun u hu => by
  obtain ⟨k, _, rfl⟩ := List.mem_map.1 hu
  rfl
/-- A row that was lent: its words, and the marks behind them. -/
structure Lent (w : World) (b n c : Nat) (f : Nat → Nat) : Prop where
  row : ∃ F, w.rowIs b 33 c F ∧ (∀ k, k < n → F k = .int .u64 (f k)) ∧ F n = .int .u64 77 ∧ F (n + 1) = .int .u64 78
  le : n + 2 ≤ c
theorem Lent.kept {w w' : World} {b n c : Nat} {f : Nat → Nat} {r : Option Nat} (h : Lent w b n c f) (hg : w.grownBy w' r) (hne : some b ≠ r) : Lent w' b n c f := by
  obtain ⟨F, h1, h2⟩ := h.row
  exact ⟨⟨F, rowIs_kept h1 hg hne, h2⟩, h.le⟩
theorem Lent.wd {w : World} {b n c : Nat} {f : Nat → Nat} (h : Lent w b n c f) : Wd w (some ⟨b, 0, none⟩) n f := fun k hk => by
  obtain ⟨F, h1, h2, _⟩ := h.row
  exact ⟨_, rfl, by rw [add_mid, Nat.zero_add, h1.cell (i := k) (by have := h.le; omega), h2 k hk]⟩
theorem Lent.marks {w : World} {b n c : Nat} {f : Nat → Nat} (h : Lent w b n c f) : w.cell? ⟨b, n, none⟩ = some (.int .u64 77) ∧ w.cell? ⟨b, n + 1, none⟩ = some (.int .u64 78) := by
  obtain ⟨F, h1, _, h3, h4⟩ := h.row
  exact ⟨by rw [h1.cell (i := n) (by have := h.le; omega), h3], by rw [h1.cell (i := n + 1) (by have := h.le; omega), h4]⟩
theorem Lent.blt {w : World} {b n c : Nat} {f : Nat → Nat} (h : Lent w b n c f) : b < w.heap.size := by
  obtain ⟨F, h1, _⟩ := h.row
  exact h1.lt
set_option maxHeartbeats 4000000 in
theorem lentC (N : Int) (n cap : Nat) (sp : Option Addr) (f : Nat → Nat) (hn : n ≤ 17592186043904) (w : World) (hc : Wd w sp n f) (h0 : sp = none → n = 0 ∧ cap = 0) :
    Calls Tryd.prog 5 #[.agg #[.int .i64 N, .slice sp n cap]] w fun e w' => ∃ b c, e = .returned (.agg #[.int .i64 N, .slice (some ⟨b, 0, none⟩) n c]) ∧ w.heap.size ≤ b ∧ Lent w' b n c f ∧ w.grownBy w' none := by
  obtain ⟨iw, hiw⟩ := info_parts Wo.infoW
  have HW : Hid (Tryd.prog.info? 33 = some iw ∧ iw.zero = some (.int .u64 0) ∧ iw.size = 1 ∧ iw.bytes = 8) := hiw
  clear hiw
  obtain ⟨W0, hW0, c0, c1, sz0, g0, B0⟩ := box2 w (.int .i64 N) (.slice sp n cap) 27
  obtain ⟨W1, hW1, d0, d1, sz1, g1, B1⟩ := box2 W0 (.int .i64 0) (.slice none 0 0) 27
  have gg := gb_trans g0 g1
  have B01 := B0.kept g1 (by simp)
  have x0 := B01.cell0
  have x1 := B01.cell1
  have z1 := gg.size
  have hb1 := hc.kept gg (by simp)
  cases sp with
  | none =>
    have HN0 : Hid (n = 0) := (h0 rfl).1
    have HC0 : Hid (cap = 0) := (h0 rfl).2
    clear h0
    go_enter Tryd.func5, Tryd.ntmps5
    go_wp2_with (first | (at_builtin; (fail_if_success (guard_hyp g2)); refine wpList_append_own_none rfl _ _ 25 rfl W1.heap.size 33 iw 1 Wo.underS HW.out.1 _ 0 [] rfl (World.ownsRow_nil _ _ _ _) (slice_nil2 HN0.out HC0.out) ?_; have hown2 : W1.ownsRow W1.heap.size 33 1 (.slice none 0 0) n ((List.range n).map fun k : Nat => Value.int .u64 ((f k : Nat) : Int)) := (own_nil2 HN0.out); have g2 : W1.grownBy W1 none := World.grownBy.refl _ _; have hg2 : W1.grownBy W1 none := g2; obtain ⟨W4, hW4⟩ : ∃ W4, W1.alloc (.cells #[.int .u64 77, .int .u64 78] 33) = W4 := ⟨_, rfl⟩; have g4 : W1.grownBy W4 none := (by rw [← hW4]; exact World.grownBy_alloc _ _ _); have hN4 : ∀ j u, [Value.int .u64 77, .int .u64 78][j]? = some u → W4.cell? ((⟨W1.heap.size, 0, none⟩ : Addr).add j) = some u := (by rw [← hW4]; exact World.news_of_block (cs := #[Value.int .u64 77, .int .u64 78]) (heap_alloc_new W1 _)); have z4 := g4.size; have z2 := hg2.size; have ho4 := hown2.kept g4 (Classical.em _)) | (at_builtin; guard_hyp g2; refine wpList_append_own _ rfl _ _ 25 rfl W1.heap.size 33 iw (.int .u64 0) 1 8 Wo.underS HW.out.1 HW.out.2.1 HW.out.2.2.1 HW.out.2.2.2 rfl (by decide) _ _ _ rfl ho4 ⟨W1.heap.size, 0, none⟩ 2 2 [.int .u64 77, .int .u64 78] rfl rfl hN4 (by intro u hu; simp at hu; rcases hu with rfl | rfl <;> rfl) (by unfold maxLen; omega) (by omega) (by omega) ?_; intro v5 w5 hown hgrow5 hnil5; have hg := gb_row (gb_trans hg2 g4) hgrow5 (fun i e => (hown2.lt i e).1); obtain ⟨b, c, e5⟩ := ownsRow_succ (k := n + 1) hown; subst e5; have B9 := B01.kept hg (by simp); have R9 := B1.kept hg (by simp); have x2 := B9.cell0; have x3 := B9.cell1; have x4 := R9.cell0; have x5 := R9.cell1; have x6 := R9.free0; have x7 := R9.free1; obtain ⟨F, hF, hat, hle⟩ := own_rowIs hown; have hi1 : (n : Int) ≤ (c : Int) := (by omega)))
    have lb := (hown.lt b rfl).1
    have s1 := B1.lt
    obtain ⟨fs, hfs⟩ := Wo.underR
    refine region_tail 8 Wo.mixed (by kernel_rfl) ?_
    simp only [List.take_succ_cons, List.take_zero, List.drop_succ_cons, List.drop_zero]
    repeat still_step
    refine wpStill_nil ?_
    go_wp2
    refine ret_box1 (g := W0.heap.size) (t := 27) rfl hfs Wo.infoR rfl (R9.set _ _) rfl ?_
    have hne : b ≠ W0.heap.size := by omega
    have hz0 := g0.size
    refine ⟨b, c, rfl, by omega, ⟨⟨F, World.rowIs.setOther (World.rowIs.setOther hF (a := ⟨W0.heap.size, 0, none⟩) hne _) (a := ⟨W0.heap.size, 1, none⟩) hne _, fun k hk => hat k _ ?_, hat n _ ?_, hat (n + 1) _ ?_⟩, by omega⟩, gb_new (gb_new (gb_drew (gb_trans gg hg)) (a := ⟨W0.heap.size, 0, none⟩) hz0 _) (a := ⟨W0.heap.size, 1, none⟩) hz0 _⟩
    · rw [List.getElem?_append_left (by simpa using hk), List.getElem?_map, List.getElem?_range hk]; rfl
    · rw [List.getElem?_append_right (by simp)]; simp
    · rw [List.getElem?_append_right (by simp)]; simp
  | some a =>
    clear h0
    go_enter Tryd.func5, Tryd.ntmps5
    go_wp2_with (first | (at_builtin; (fail_if_success (guard_hyp g2)); refine wpList_append_own _ rfl _ _ 25 rfl W1.heap.size 33 iw (.int .u64 0) 1 8 Wo.underS HW.out.1 HW.out.2.1 HW.out.2.2.1 HW.out.2.2.2 rfl (by decide) _ 0 [] rfl (World.ownsRow_nil _ _ _ _) a n cap ((List.range n).map fun k : Nat => Value.int .u64 ((f k : Nat) : Int)) rfl (by simp) (words_news hb1) words_one (by unfold maxLen; omega) (by omega) (by omega) ?_; intro v2 w2 hown2 g2 hnil2; rw [Nat.zero_add, List.nil_append] at hown2; have hg2 : W1.grownBy w2 none := (gb_row (World.grownBy.refl _ _) g2 (fun i e => by cases e)); obtain ⟨W4, hW4⟩ : ∃ W4, w2.alloc (.cells #[.int .u64 77, .int .u64 78] 33) = W4 := ⟨_, rfl⟩; have g4 : w2.grownBy W4 none := (by rw [← hW4]; exact World.grownBy_alloc _ _ _); have hN4 : ∀ j u, [Value.int .u64 77, .int .u64 78][j]? = some u → W4.cell? ((⟨w2.heap.size, 0, none⟩ : Addr).add j) = some u := (by rw [← hW4]; exact World.news_of_block (cs := #[Value.int .u64 77, .int .u64 78]) (heap_alloc_new w2 _)); have z4 := g4.size; have z2 := hg2.size; have ho4 := hown2.kept g4 (Classical.em _)) | (at_builtin; guard_hyp g2; refine wpList_append_own _ rfl _ _ 25 rfl W1.heap.size 33 iw (.int .u64 0) 1 8 Wo.underS HW.out.1 HW.out.2.1 HW.out.2.2.1 HW.out.2.2.2 rfl (by decide) _ _ _ rfl ho4 ⟨w2.heap.size, 0, none⟩ 2 2 [.int .u64 77, .int .u64 78] rfl rfl hN4 (by intro u hu; simp at hu; rcases hu with rfl | rfl <;> rfl) (by unfold maxLen; omega) (by omega) (by omega) ?_; intro v5 w5 hown hgrow5 hnil5; have hg := gb_row (gb_trans hg2 g4) hgrow5 (fun i e => (hown2.lt i e).1); obtain ⟨b, c, e5⟩ := ownsRow_succ (k := n + 1) hown; subst e5; have B9 := B01.kept hg (by simp); have R9 := B1.kept hg (by simp); have x2 := B9.cell0; have x3 := B9.cell1; have x4 := R9.cell0; have x5 := R9.cell1; have x6 := R9.free0; have x7 := R9.free1; obtain ⟨F, hF, hat, hle⟩ := own_rowIs hown; have hi1 : (n : Int) ≤ (c : Int) := (by omega)))
    have lb := (hown.lt b rfl).1
    have s1 := B1.lt
    obtain ⟨fs, hfs⟩ := Wo.underR
    refine region_tail 8 Wo.mixed (by kernel_rfl) ?_
    simp only [List.take_succ_cons, List.take_zero, List.drop_succ_cons, List.drop_zero]
    repeat still_step
    refine wpStill_nil ?_
    go_wp2
    refine ret_box1 (g := W0.heap.size) (t := 27) rfl hfs Wo.infoR rfl (R9.set _ _) rfl ?_
    have hne : b ≠ W0.heap.size := by omega
    have hz0 := g0.size
    refine ⟨b, c, rfl, by omega, ⟨⟨F, World.rowIs.setOther (World.rowIs.setOther hF (a := ⟨W0.heap.size, 0, none⟩) hne _) (a := ⟨W0.heap.size, 1, none⟩) hne _, fun k hk => hat k _ ?_, hat n _ ?_, hat (n + 1) _ ?_⟩, by omega⟩, gb_new (gb_new (gb_drew (gb_trans gg hg)) (a := ⟨W0.heap.size, 0, none⟩) hz0 _) (a := ⟨W0.heap.size, 1, none⟩) hz0 _⟩
    · rw [List.getElem?_append_left (by simpa using hk), List.getElem?_map, List.getElem?_range hk]; rfl
    · rw [List.getElem?_append_right (by simp)]; simp
    · rw [List.getElem?_append_right (by simp)]; simp

set_option maxHeartbeats 4000000 in
theorem keptC (N : Int) (n b c cr : Nat) (sr : Option Addr) (f : Nat → Nat) (hn : n ≤ 17592186043904) (w : World) (hx : Lent w b n c f) (hr : Wd w sr n f) :
    Calls Tryd.prog 8 #[.agg #[.int .i64 N, .slice (some ⟨b, 0, none⟩) n c], .agg #[.int .i64 N, .slice sr n cr]] w fun e w' => e = .returned (.bool true) ∧ w.grownBy w' none := by
  obtain ⟨W0, hW0, c0, c1, sz0, g0, B0⟩ := box2 w (.int .i64 N) (.slice (some ⟨b, 0, none⟩) n c) 27
  obtain ⟨W1, hW1, d0, d1, sz1, g1, B1⟩ := box2 W0 (.int .i64 N) (.slice sr n cr) 27
  have gg := gb_trans g0 g1
  have B01 := B0.kept g1 (by simp)
  have x0 := B01.cell0
  have x1 := B01.cell1
  have hx1 := hx.kept gg (by simp)
  have hr1 := hr.kept gg (by simp)
  have hle := hx.le
  obtain ⟨m7, m8⟩ := hx1.marks
  have hw1 : IntKind.i64.wrap ((n : Int) + 2) = (n : Int) + 2 := by rw [IntKind.wrap_i64]; omega
  have hw2 : IntKind.i64.wrap ((n : Int) + 1) = (n : Int) + 1 := by rw [IntKind.wrap_i64]; omega
  have hi1 : (n : Int) + 2 ≤ (c : Int) := by omega
  have hi2 : (n : Int) < (n : Int) + 2 := by omega
  have hi3 : (n : Int) + 1 < (n : Int) + 2 := by omega
  have hi4 : (0 : Int) ≤ (n : Int) + 1 := by omega
  have hi5 : ((n : Int) + 1).toNat = n + 1 := by omega
  have hi6 : ((n : Int) + 2).toNat = n + 2 := by omega
  have hi7 : (0 : Int) ≤ (n : Int) + 2 := by omega
  have hne : (N != N) = false := by simp
  go_enter Tryd.func8, Tryd.ntmps8
  go_wp2
  go_loopw [6] (fun v wr => ∃ i : Nat, i ≤ n ∧ v = .int .i64 (i : Nat) ∧ W1.grownBy wr none) (fun v _ => n - (intOf v).toNat)
  case atStart => exact ⟨0, Nat.zero_le _, rfl, World.grownBy.refl _ _⟩
  case round =>
    obtain ⟨i, hi, rfl, hg⟩ := hrel
    have Bi := B1.kept hg (by simp)
    have y0 := Bi.cell0
    have y1 := Bi.cell1
    by_cases hlt : i < n
    · have hlt' : (i : Int) < (n : Int) := by omega
      have hlt2 : (i : Int) < (n : Int) + 2 := by omega
      obtain ⟨a, rfl⟩ := hr.some (show 0 < n by omega)
      have u0 := (hx1.kept hg (by simp)).wd.at hlt
      rw [add_mid, Nat.zero_add] at u0
      have u1 := (hr1.kept hg (by simp)).at hlt
      have hq : (((f i : Nat) : Int) != ((f i : Nat) : Int)) = false := by simp
      generalize f i = z at u0 u1 hq
      go_wp2
      go_quiet (fail)
      go_wp2
      exact ⟨⟨i + 1, hlt, by go_num, gb_drewN hg nq⟩, by simp [intOf]; omega⟩
    · have hlt' : ¬ (i : Int) < (n : Int) := by omega
      obtain rfl : i = n := by omega
      go_wp2
      go_ret
      exact ⟨rfl, gb_trans gg hg⟩
end Go.Proofs.YtkgipjabkalnaaaDoor.Pd
