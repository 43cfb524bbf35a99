/- A run: what the cutter of package scan answers. -/
import Derived.Test.YtimknahfgpafaaaDoorS5
import Derived.Deep.RegionHeld2
namespace Go.Proofs.YtimknahfgpafaaaDoor
open Go.RowKit
set_option linter.unusedVariables false
set_option linter.unusedSimpArgs false

/-- A box of three cells. -/
def Bq (w : World) (g : Nat) (t : TypeId) (x y z : Value) : Prop := w.heap[g]? = some (.cells #[x, y, z] t (0, 0))
theorem Bq.new (w : World) (t : TypeId) (x y z : Value) : Bq (w.alloc (.cells #[x, y, z] t)) w.heap.size t x y z := heap_alloc_new w _
theorem Bq.lt {w : World} {g : Nat} {t : TypeId} {x y z : Value} (h : Bq w g t x y z) : g < w.heap.size := (Array.getElem?_eq_some_iff.1 h).1
theorem Bq.kept {w w' : World} {g : Nat} {t : TypeId} {x y z : Value} {r : Option Nat} (h : Bq w g t x y z) (hg : w.grownBy w' r) (hne : some g ≠ r) : Bq w' g t x y z := (hg.block g h.lt hne).trans h
theorem Bq.c0 {w : World} {g : Nat} {t : TypeId} {x y z : Value} (h : Bq w g t x y z) : w.cell? ⟨g, 0, none⟩ = some x := by unfold Bq at h; simp [World.cell?, h]
theorem Bq.c1 {w : World} {g : Nat} {t : TypeId} {x y z : Value} (h : Bq w g t x y z) : w.cell? ⟨g, 1, none⟩ = some y := by unfold Bq at h; simp [World.cell?, h]
theorem Bq.c2 {w : World} {g : Nat} {t : TypeId} {x y z : Value} (h : Bq w g t x y z) : w.cell? ⟨g, 2, none⟩ = some z := by unfold Bq at h; simp [World.cell?, h]
theorem Bq.f0 {w : World} {g : Nat} {t : TypeId} {x y z : Value} (h : Bq w g t x y z) : w.frozen? ⟨g, 0, none⟩ = false := by unfold Bq at h; simp [World.frozen?, h]
theorem Bq.f1 {w : World} {g : Nat} {t : TypeId} {x y z : Value} (h : Bq w g t x y z) : w.frozen? ⟨g, 1, none⟩ = false := by unfold Bq at h; simp [World.frozen?, h]
theorem Bq.f2 {w : World} {g : Nat} {t : TypeId} {x y z : Value} (h : Bq w g t x y z) : w.frozen? ⟨g, 2, none⟩ = false := by unfold Bq at h; simp [World.frozen?, h]
theorem Bq.set {w : World} {g : Nat} {t : TypeId} {x y z : Value} (h : Bq w g t x y z) (x' y' z' : Value) : Bq (((w.setCell ⟨g, 0, none⟩ x').setCell ⟨g, 1, none⟩ y').setCell ⟨g, 2, none⟩ z') g t x' y' z' := by
  unfold Bq at h ⊢; simp [World.setCell, Array.getElem?_modify, h]
theorem far3 {w : World} {g b o : Nat} {x y z v : Value} (h : w.cell? ⟨b, o, none⟩ = some v) (hne : b ≠ g) : (((w.setCell ⟨g, 0, none⟩ x).setCell ⟨g, 1, none⟩ y).setCell ⟨g, 2, none⟩ z).cell? ⟨b, o, none⟩ = some v := by
  have e : (((w.setCell ⟨g, 0, none⟩ x).setCell ⟨g, 1, none⟩ y).setCell ⟨g, 2, none⟩ z).heap[b]? = w.heap[b]? := (Below.heap_setCell _ _ _ _ hne).trans ((Below.heap_setCell _ _ _ _ hne).trans (Below.heap_setCell _ _ _ _ hne))
  rw [← h]
  exact World.cell?_of_block (w := w) e
theorem box3 (w : World) (x y z : Value) (t : TypeId) : ∃ W1, w.alloc (.cells #[x, y, z] t) = W1 ∧ Hid (W1.heap.size = w.heap.size + 1) ∧ w.grownBy W1 none ∧ Bq W1 w.heap.size t x y z :=
  ⟨_, rfl, by unfold Hid; simp, World.grownBy_alloc _ _ _, Bq.new _ _ _ _ _⟩
theorem ret_boxq {P : Program} {fn : Func} {R : Ending → World → Prop} {a : Act} {w : World} {p u v : Tmp} {ty : TypeId} (h : fn.results = #[.cell p ty, .tmp u, .tmp v]) {g : Nat} {t : TypeId} {x y z : Value} {fs : Array Field}
    (hu : P.underlying ty = some (.struct fs)) (hi : (P.info? ty).map (·.size) = some 3) (hp : a.tmps.getD p undef = .pointer (some ⟨g, 0, none⟩)) (hg : Bq w g t x y z) (hdf : a.defers = []) (hR : R (.returned (.tuple #[.agg #[x, y, z], a.tmps.getD u undef, a.tmps.getD v undef])) w) :
    bodyPost P fn R .ret a w := by
  refine bodyPost_ret ?_ hdf hR
  have hp' : a.tmps[p]?.getD undef = .pointer (some ⟨g, 0, none⟩) := by simpa using hp
  simp [results, h, hp', asAddr, run_loadVar_row w g t ty #[x, y, z] (0, 0) (.struct fs) hg hu rfl hi]

/-- A run's count, and whether it may be. -/
def cnV (s : ByteArray) (i : Nat) : Nat := if dg s i = i then 1 else numV s i
def cnB (s : ByteArray) (i : Nat) : Bool := decide (dg s i = i) || decide (1 ≤ numV s i ∧ numV s i ≤ 1099511627776)
theorem dg_ge {s : ByteArray} {i : Nat} (hi : i ≤ s.size) : i ≤ dg s i := Sc.ov_ge _ hi
theorem dg_le {s : ByteArray} {i : Nat} (hi : i ≤ s.size) : dg s i ≤ s.size := Sc.ov_le _ hi
theorem countC (b : Nat) (s : ByteArray) (i : Nat) (w : World) (h : Cu w b s i) (hs : s.size ≤ maxLen) (hi : i ≤ s.size) (hc : Hid (cnB s i = true)) (tp : TypeId) (p : Value) (hE : Hid (Er tp p w)) (hG : 4 < w.heap.size) :
    Calls Tryd.prog 65 #[.pointer (some ⟨b, 0, none⟩)] w fun e w' => e = .returned (.tuple #[.int .i64 (cnV s i : Nat), .int .i64 0]) ∧ Cu w' b s (dg s i) ∧ w.grownBy w' (some b) := by
  by_cases h1 : dg s i = i
  · refine (countNone b s i w h hs hi h1).mono ?_
    rintro e w' ⟨rfl, k, rfl⟩
    refine ⟨by unfold cnV; rw [if_pos h1]; rfl, by rw [h1]; exact h.drew, gb_drewN (World.grownBy.refl _ _) _⟩
  · have h2 := hc.out
    unfold cnB at h2
    simp only [h1, decide_false, Bool.false_or, decide_eq_true_eq] at h2
    have h3 := dg_ge hi
    refine (countOk b s i w h hs hi (show i < dg s i by omega) h2.1 h2.2 tp p hE hG).mono ?_
    rintro e w' ⟨rfl, hc, hg⟩
    exact ⟨by unfold cnV; rw [if_neg h1], hc, hg⟩
theorem countNo (b : Nat) (s : ByteArray) (i : Nat) (w : World) (h : Cu w b s i) (hs : s.size ≤ maxLen) (hi : i ≤ s.size) (hc : Hid (cnB s i = false)) (tp : TypeId) (p : Value) (hE : Hid (Er tp p w)) (hG : 4 < w.heap.size) :
    Calls Tryd.prog 65 #[.pointer (some ⟨b, 0, none⟩)] w fun e w' => e = .returned (.tuple #[.int .i64 0, .int .i64 11]) ∧ w.grownBy w' (some b) := by
  have h2 := hc.out
  unfold cnB at h2
  rw [Bool.or_eq_false_iff, decide_eq_false_iff_not, decide_eq_false_iff_not] at h2
  have h3 := dg_ge hi
  exact countBad b s i w h hs hi (show i < dg s i by have := h2.1; omega) h2.2 tp p hE hG

/-- Whether a tag begins at i; whether the text ends within it. -/
def tgB (s : ByteArray) (i : Nat) : Bool := oB (stOf (tagAt s i)) || (tagAt s i).toList == [36]
theorem tl_pos (s : ByteArray) (i : Nat) : 1 ≤ tl s i ∧ tl s i ≤ 2 := by unfold tl; split <;> omega
theorem tagEndC (b : Nat) (s : ByteArray) (i : Nat) (w : World) (h : Cu w b s i) (hs : s.size ≤ maxLen) (hi : i ≤ s.size) (hl : Hid (s.size < i + tl s i)) : Calls Tryd.prog 66 #[.pointer (some ⟨b, 0, none⟩)] w fun e w' => e = .returned (.tuple #[.string ⟨#[]⟩, .int .i64 30]) ∧ ∃ k, w' = w.drewN k := by
  by_cases h1 : i = s.size
  · subst h1; exact tagNone b s w h hs
  · exact tagShort b s i w h hs (by omega) hl
theorem ext_oneRow {t : ByteArray} (h2 : t.size = 2) : (t.toList == [36]) = false := by
  rw [Lib.toList_data, beq_eq_false_iff_ne]
  intro e
  have : t.data.toList.length = t.size := Array.length_toList
  rw [e, h2] at this
  simp at this
theorem tagOkC (b : Nat) (s : ByteArray) (i : Nat) (w : World) (h : Cu w b s i) (hs : s.size ≤ maxLen) (hi : i + tl s i ≤ s.size) (hb : Hid (tgB s i = true)) : Calls Tryd.prog 66 #[.pointer (some ⟨b, 0, none⟩)] w fun e w' => e = .returned (.tuple #[.string (tagAt s i), .int .i64 0]) ∧ Cu w' b s (i + tl s i) ∧ w.grownBy w' (some b) := by
  cases ht : Sc.twoB (Sc.bt s i) with
  | true =>
    have e : tl s i = 2 := by unfold tl; rw [if_pos ht]
    have hb' := hb.out
    unfold tgB tagAt at hb'
    unfold tagAt
    rw [e] at hb' hi ⊢
    rw [ext_oneRow (by rw [Sc.size_ext s hi]; omega), Bool.or_false] at hb'
    exact tagIs2 b s i w h hs hi ht _ rfl hb'
  | false =>
    have e : tl s i = 1 := by unfold tl; rw [if_neg (by rw [ht]; simp)]
    have hb' := hb.out
    unfold tgB tagAt at hb'
    unfold tagAt
    rw [e] at hb' hi ⊢
    cases hx : oB (stOf (s.extract i (i + 1))) with
    | true => exact tagIs1 b s i w h hs hi ht _ rfl hx
    | false =>
      rw [hx, Bool.false_or] at hb'
      exact tagRow1 b s i w h hs hi ht _ rfl hx hb'
theorem tagNoC (b : Nat) (s : ByteArray) (i : Nat) (w : World) (h : Cu w b s i) (hs : s.size ≤ maxLen) (hi : i + tl s i ≤ s.size) (hb : Hid (tgB s i = false)) : Calls Tryd.prog 66 #[.pointer (some ⟨b, 0, none⟩)] w fun e w' => e = .returned (.tuple #[.string ⟨#[]⟩, .int .i64 31]) ∧ ∃ k, w' = w.drewN k := by
  have hb' := hb.out
  unfold tgB tagAt at hb'
  rw [Bool.or_eq_false_iff] at hb'
  cases ht : Sc.twoB (Sc.bt s i) with
  | true =>
    have e : tl s i = 2 := by unfold tl; rw [if_pos ht]
    rw [e] at hb' hi
    exact tagBad2 b s i w h hs hi ht _ rfl hb'.1 hb'.2
  | false =>
    have e : tl s i = 1 := by unfold tl; rw [if_neg (by rw [ht]; simp)]
    rw [e] at hb' hi
    exact tagBad1 b s i w h hs hi ht _ rfl hb'.1 hb'.2

theorem underRun : ∃ fs, Tryd.prog.underlying 48 = some (.struct fs) := ⟨_, Tryd.underlying48⟩
theorem infoRun : (Tryd.prog.info? 48).map (·.size) = some 3 := by kernel_rfl


set_option maxRecDepth 100000 in
set_option maxHeartbeats 1000000 in
theorem runOk (b : Nat) (s : ByteArray) (i : Nat) (w : World) (h : Cu w b s i) (hs : s.size ≤ maxLen) (hi : i ≤ s.size) (hc : Hid (cnB s i = true)) (hj : dg s i + tl s (dg s i) ≤ s.size) (hb : Hid (tgB s (dg s i) = true)) (tp : TypeId) (p : Value) (hE : Hid (Er tp p w)) (hG : 4 < w.heap.size) :
    Calls Tryd.prog 47 #[.pointer (some ⟨b, 0, none⟩)] w fun e w' => e = .returned (.tuple #[.agg #[.int .i64 (cnV s i : Nat), .string (tagAt s (dg s i)), .int .i64 i], .int .i64 0, .int .i64 0]) ∧ Cu w' b s (dg s i + tl s (dg s i)) ∧ w.grownBy w' (some b) := by
  obtain ⟨W1, hW, sz, hg1, hB⟩ := box3 w (.int .i64 0) (.string ⟨#[]⟩) (.int .i64 0) 48
  have h1 := h.kept hg1 (by simp)
  have hE1 : Hid (Er tp p W1) := Er.below hE.out (gb_below hg1) hG
  have hG1 : 4 < W1.heap.size := Nat.lt_of_lt_of_le hG hg1.size
  have hbl := h.lt
  obtain ⟨fs, hfs⟩ := underRun
  have hfs' : Hid (Tryd.prog.underlying 48 = some (.struct fs)) := hfs
  clear hfs
  go_enter Tryd.func47, Tryd.ntmps47
  go_wp2_with (first | (go_at_call 17; refine (atC _ _ _ _ h1).mono ?_; rintro e w' ⟨rfl, rfl⟩) | (go_at_call 65; refine (countC _ _ _ _ h1 hs hi hc tp p hE1 hG1).mono ?_; rintro e w2 ⟨rfl, h2, g2⟩) | (go_at_call 66; refine (tagOkC _ _ _ _ h2 hs hj hb).mono ?_; rintro e w3 ⟨rfl, h3, g3⟩; have hB3 := hB.kept (gb_trans g2 g3) (by simp; omega); have z0 := hB3.c0; have z1 := hB3.c1; have z2 := hB3.c2; have y0 := hB3.f0; have y1 := hB3.f1; have y2 := hB3.f2))
  have G3 := gb_trans (gb_trans (gb_none (World.grownBy.refl w (some b)) hg1) g2) g3
  refine ret_boxq rfl hfs'.out infoRun rfl (hB3.set _ _ _) rfl ⟨rfl, ?_, gb_new (gb_new (gb_new G3 (Nat.le_refl _) _) (Nat.le_refl _) _) (Nat.le_refl _) _⟩
  exact (((h3.kept (gb_own _ _ _ _) (by simp; omega)).kept (gb_own _ _ _ _) (by simp; omega)).kept (gb_own _ _ _ _) (by simp; omega))
set_option maxRecDepth 100000 in
set_option maxHeartbeats 1000000 in
theorem runNoCount (b : Nat) (s : ByteArray) (i : Nat) (w : World) (h : Cu w b s i) (hs : s.size ≤ maxLen) (hi : i ≤ s.size) (hc : Hid (cnB s i = false)) (tp : TypeId) (p : Value) (hE : Hid (Er tp p w)) (hG : 4 < w.heap.size) :
    Calls Tryd.prog 47 #[.pointer (some ⟨b, 0, none⟩)] w fun e w' => e = .returned (.tuple #[.agg #[.int .i64 0, .string ⟨#[]⟩, .int .i64 0], .int .i64 i, .int .i64 11]) ∧ w.grownBy w' (some b) := by
  obtain ⟨W1, hW, sz, hg1, hB⟩ := box3 w (.int .i64 0) (.string ⟨#[]⟩) (.int .i64 0) 48
  have h1 := h.kept hg1 (by simp)
  have hE1 : Hid (Er tp p W1) := Er.below hE.out (gb_below hg1) hG
  have hG1 : 4 < W1.heap.size := Nat.lt_of_lt_of_le hG hg1.size
  have hbl := h.lt
  obtain ⟨fs, hfs⟩ := underRun
  have hfs' : Hid (Tryd.prog.underlying 48 = some (.struct fs)) := hfs
  clear hfs
  go_enter Tryd.func47, Tryd.ntmps47
  go_wp2_with (first | (go_at_call 17; refine (atC _ _ _ _ h1).mono ?_; rintro e w' ⟨rfl, rfl⟩) | (go_at_call 65; refine (countNo _ _ _ _ h1 hs hi hc tp p hE1 hG1).mono ?_; rintro e w2 ⟨rfl, g2⟩; have hB3 := hB.kept g2 (by simp; omega); have z0 := hB3.c0; have z1 := hB3.c1; have z2 := hB3.c2; have y0 := hB3.f0; have y1 := hB3.f1; have y2 := hB3.f2))
  have G3 := gb_trans (gb_none (World.grownBy.refl w (some b)) hg1) g2
  refine ret_boxq rfl hfs'.out infoRun rfl (hB3.set _ _ _) rfl ⟨rfl, gb_new (gb_new (gb_new G3 (Nat.le_refl _) _) (Nat.le_refl _) _) (Nat.le_refl _) _⟩
set_option maxRecDepth 100000 in
set_option maxHeartbeats 1000000 in
theorem runEarly (b : Nat) (s : ByteArray) (i : Nat) (w : World) (h : Cu w b s i) (hs : s.size ≤ maxLen) (hi : i ≤ s.size) (hc : Hid (cnB s i = true)) (hl : Hid (s.size < dg s i + tl s (dg s i))) (tp : TypeId) (p : Value) (hE : Hid (Er tp p w)) (hG : 4 < w.heap.size) :
    Calls Tryd.prog 47 #[.pointer (some ⟨b, 0, none⟩)] w fun e w' => e = .returned (.tuple #[.agg #[.int .i64 0, .string ⟨#[]⟩, .int .i64 0], .int .i64 s.size, .int .i64 30]) ∧ w.grownBy w' (some b) := by
  have hdl := dg_le hi
  obtain ⟨W1, hW, sz, hg1, hB⟩ := box3 w (.int .i64 0) (.string ⟨#[]⟩) (.int .i64 0) 48
  have h1 := h.kept hg1 (by simp)
  have hE1 : Hid (Er tp p W1) := Er.below hE.out (gb_below hg1) hG
  have hG1 : 4 < W1.heap.size := Nat.lt_of_lt_of_le hG hg1.size
  have hbl := h.lt
  obtain ⟨fs, hfs⟩ := underRun
  have hfs' : Hid (Tryd.prog.underlying 48 = some (.struct fs)) := hfs
  clear hfs
  go_enter Tryd.func47, Tryd.ntmps47
  go_wp2_with (first | (go_at_call 17; refine (atC _ _ _ _ h1).mono ?_; rintro e w' ⟨rfl, rfl⟩) | (go_at_call 65; refine (countC _ _ _ _ h1 hs hi hc tp p hE1 hG1).mono ?_; rintro e w2 ⟨rfl, h2, g2⟩) | (go_at_call 66; refine (tagEndC _ _ _ _ h2 hs hdl hl).mono ?_; rintro e w3 ⟨rfl, k3, rfl⟩; have hB3 := (hB.kept g2 (by simp; omega)); have x1 := h2.c1; have z0 := hB3.c0; have z1 := hB3.c1; have z2 := hB3.c2; have y0 := hB3.f0; have y1 := hB3.f1; have y2 := hB3.f2))
  have G3 := gb_trans (gb_none (World.grownBy.refl w (some b)) hg1) g2
  have hne : b ≠ w.heap.size := by omega
  go_region_held2 (fun w' => w'.cell? ⟨b, 1, none⟩ = some (.string s)) (first | go_keep | exact far3 (by assumption) hne) (fail)
  go_wp2
  refine ret_boxq rfl hfs'.out infoRun rfl (Bq.set (show Bq _ w.heap.size _ _ _ _ from hB3) _ _ _) rfl ⟨rfl, gb_new (gb_new (gb_new (gb_drew (gb_drewN G3 _)) (Nat.le_refl _) _) (Nat.le_refl _) _) (Nat.le_refl _) _⟩
set_option maxRecDepth 100000 in
set_option maxHeartbeats 1000000 in
theorem runNoTag (b : Nat) (s : ByteArray) (i : Nat) (w : World) (h : Cu w b s i) (hs : s.size ≤ maxLen) (hi : i ≤ s.size) (hc : Hid (cnB s i = true)) (hj : dg s i + tl s (dg s i) ≤ s.size) (hb : Hid (tgB s (dg s i) = false)) (tp : TypeId) (p : Value) (hE : Hid (Er tp p w)) (hG : 4 < w.heap.size) :
    Calls Tryd.prog 47 #[.pointer (some ⟨b, 0, none⟩)] w fun e w' => e = .returned (.tuple #[.agg #[.int .i64 0, .string ⟨#[]⟩, .int .i64 0], .int .i64 (dg s i : Nat), .int .i64 31]) ∧ w.grownBy w' (some b) := by
  obtain ⟨W1, hW, sz, hg1, hB⟩ := box3 w (.int .i64 0) (.string ⟨#[]⟩) (.int .i64 0) 48
  have h1 := h.kept hg1 (by simp)
  have hE1 : Hid (Er tp p W1) := Er.below hE.out (gb_below hg1) hG
  have hG1 : 4 < W1.heap.size := Nat.lt_of_lt_of_le hG hg1.size
  have hbl := h.lt
  obtain ⟨fs, hfs⟩ := underRun
  have hfs' : Hid (Tryd.prog.underlying 48 = some (.struct fs)) := hfs
  clear hfs
  go_enter Tryd.func47, Tryd.ntmps47
  go_wp2_with (first | (go_at_call 17; refine (atC _ _ _ _ h1).mono ?_; rintro e w' ⟨rfl, rfl⟩) | (go_at_call 65; refine (countC _ _ _ _ h1 hs hi hc tp p hE1 hG1).mono ?_; rintro e w2 ⟨rfl, h2, g2⟩) | (go_at_call 66; refine (tagNoC _ _ _ _ h2 hs hj hb).mono ?_; rintro e w3 ⟨rfl, k3, rfl⟩; have hB3 := (hB.kept g2 (by simp; omega)); have z0 := hB3.c0; have z1 := hB3.c1; have z2 := hB3.c2; have y0 := hB3.f0; have y1 := hB3.f1; have y2 := hB3.f2) | (go_at_call 17; refine (atC _ _ _ _ (Cu.drew h2)).mono ?_; rintro e w' ⟨rfl, rfl⟩))
  have G3 := gb_trans (gb_none (World.grownBy.refl w (some b)) hg1) g2
  refine ret_boxq rfl hfs'.out infoRun rfl (Bq.set (show Bq _ w.heap.size _ _ _ _ from hB3) _ _ _) rfl ⟨rfl, gb_new (gb_new (gb_new (gb_drewN G3 _) (Nat.le_refl _) _) (Nat.le_refl _) _) (Nat.le_refl _) _⟩
end Go.Proofs.YtimknahfgpafaaaDoor
