/- The document's Up, Down, Turned, of every row. -/
import Derived.Test.YtcdefpfnjjahgaaDoorW48
import Derived.Laws.OwnMore
import Derived.Deep.RegionHeld2
namespace Go.Proofs.YtcdefpfnjjahgaaDoor
open Go.RowKit
set_option linter.unusedVariables false
set_option linter.unusedSimpArgs false

theorem bx_drew {w : World} {g : Nat} {t : TypeId} {x y : Value} (h : Bx w g t x y) : Bx w.drew g t x y := h
theorem own_of_row {w : World} {base b t m : Nat} {F : Nat → Value} (h : w.rowIs b t m F) (hb : base ≤ b) (hm : m ≤ maxLen) : w.ownsRow base t 1 (.slice (some ⟨b, 0, none⟩) m m) m ((List.range m).map F) := by
  obtain ⟨cs, h1, h2, h3⟩ := h
  refine ⟨by simp, .inr ⟨b, m, cs, rfl, hb, h1, Nat.le_refl _, hm, by omega, ?_⟩⟩
  apply List.ext_getElem?
  intro j
  rw [List.getElem?_take]
  by_cases hj : j < m
  · rw [if_pos (by omega), Array.getElem?_toList, h3 j hj, List.getElem?_map, List.getElem?_range hj]; rfl
  · rw [if_neg (by omega), List.getElem?_eq_none (by simpa using hj)]
theorem own_slice' {w : World} {base t n : Nat} {v : Value} {xs : List Value} (h : w.ownsRow base t 1 v n xs) (hn : 0 < n) : ∃ g cap, v = .slice (some ⟨g, 0, none⟩) n cap ∧ Hid (n ≤ cap) := by
  rcases h.2 with ⟨_, h0⟩ | ⟨g, cap, cur, e, _, _, hnc, _⟩
  · omega
  · exact ⟨g, cap, e, hnc⟩
theorem row_news {w : World} {b t m : Nat} {F : Nat → Value} (h : w.rowIs b t m F) : ∀ j u, ((List.range m).map F)[j]? = some u → w.cell? ((⟨b, 0, none⟩ : Addr).add j) = some u := fun j u hj => by
  have hjm : j < m := by
    have := (List.getElem?_eq_some_iff.1 hj).1
    simpa using this
  rw [List.getElem?_map, List.getElem?_range hjm] at hj
  cases hj
  rw [add_mid, Nat.zero_add]
  exact h.cell (i := j) hjm
theorem row_one {m : Nat} {q : Nat → Bool} : ∀ u ∈ ((List.range m).map fun k : Nat => Value.bool (q k)), u.oneCell' = true := fun u hu => by
  obtain ⟨k, _, rfl⟩ := List.mem_map.1 hu
  rfl

theorem up_at (m : Nat) (i : Bool) (f : Nat → Nat) : (([.bool i] : List Value) ++ ((List.range m).map fun k : Nat => Value.bool (Pk.bitAt f k)))[m]? = some (.bool (upOut m i (Pk.bitAt f))) := by
  unfold upOut
  by_cases h : m = 0
  · subst h; simp
  · rw [if_neg h, List.getElem?_append_right (by simp; omega)]
    simp only [List.length_singleton]
    rw [List.getElem?_map, List.getElem?_range (by omega)]; rfl
theorem up_bd {w : World} {base m g cap : Nat} {i : Bool} {f : Nat → Nat} (h : w.ownsRow base 4 1 (.slice (some ⟨g, 0, none⟩) (1 + m) cap) (1 + m) (([.bool i] : List Value) ++ ((List.range m).map fun k : Nat => Value.bool (Pk.bitAt f k)))) : Bd w (some ⟨g, 0, none⟩) m (fun q => if q = 0 then i else Pk.bitAt f (q - 1)) := fun k hk => ⟨_, rfl, by
  rw [add_mid, Nat.zero_add, h.cellAt k (by omega)]
  dsimp only
  by_cases h0 : k = 0
  · subst h0; simp
  · rw [if_neg h0, List.getElem?_append_right (by simp; omega)]
    simp only [List.length_singleton]
    rw [List.getElem?_map, List.getElem?_range (by omega)]; rfl⟩
theorem dn_at (m : Nat) (i : Bool) (f : Nat → Nat) : (((List.range m).map fun k : Nat => Value.bool (Pk.bitAt f k)) ++ ([.bool i] : List Value))[0]? = some (.bool (downOut m i (Pk.bitAt f))) := by
  unfold downOut
  by_cases h : m = 0
  · subst h; simp
  · rw [if_neg h, List.getElem?_append_left (by simp; omega), List.getElem?_map, List.getElem?_range (by omega)]; rfl
theorem dn_bd {w : World} {base m g cap : Nat} {i : Bool} {f : Nat → Nat} (h : w.ownsRow base 4 1 (.slice (some ⟨g, 0, none⟩) (m + 1) cap) (m + 1) (((List.range m).map fun k : Nat => Value.bool (Pk.bitAt f k)) ++ ([.bool i] : List Value))) : Bd w (some ⟨g, 1, none⟩) m (fun q => if q = m - 1 then i else Pk.bitAt f (q + 1)) := fun k hk => ⟨_, rfl, by
  rw [add_mid, h.cellAt (1 + k) (by omega)]
  dsimp only
  by_cases h0 : k = m - 1
  · rw [if_pos h0, List.getElem?_append_right (by simp; omega)]
    simp [show 1 + k - m = 0 by omega]
  · rw [if_neg h0, List.getElem?_append_left (by simp; omega), List.getElem?_map, List.getElem?_range (by omega), Nat.add_comm]; rfl⟩
theorem dn_bd' {w : World} {base m g cap : Nat} {i : Bool} {f : Nat → Nat} (h : w.ownsRow base 4 1 (.slice (some ⟨g, 0, none⟩) (m + 1) cap) (m + 1) (((List.range m).map fun k : Nat => Value.bool (Pk.bitAt f k)) ++ ([.bool i] : List Value))) (hc : m + 1 ≤ cap) : Bd w (if cap = 1 then some ⟨g, 0, none⟩ else some ⟨g, 1, none⟩) m (fun q => if q = m - 1 then i else Pk.bitAt f (q + 1)) := by
  by_cases e : cap = 1
  · intro k hk
    omega
  · rw [if_neg e]
    exact dn_bd h
theorem own_ne {w : World} {base g n cap b : Nat} {xs : List Value} {x y : Value} (h : w.ownsRow base 4 1 (.slice (some ⟨g, 0, none⟩) n cap) n xs) (hb : Bx w b 24 x y) : Hid (g ≠ b) := by
  intro e
  rcases h.2 with ⟨h', _⟩ | ⟨g', cap', cur, h', _, hg, _⟩
  · simp at h'
  · simp only [Value.slice.injEq, Option.some.injEq, Addr.mk.injEq, and_true, true_and] at h'
    obtain ⟨rfl, rfl⟩ := h'
    subst e
    rw [show w.heap[g]? = _ from hb] at hg
    simp at hg

set_option maxRecDepth 100000 in
set_option maxHeartbeats 1000000 in
theorem refupU (N : Int) (n cap : Nat) (sp : Option Addr) (f : Nat → Nat) (hf : ∀ k, k < n → f k < 18446744073709551616) (hn : n ≤ 9223372036854775807) (i : Bool) (w : World) (hc : Wd w sp n f) :
    Calls Tryd.prog 20 #[.agg #[.int .i64 N, .slice sp n cap], .bool i] w (MadeB (upAns N n f i) (upO N n f i) w) := by
  obtain ⟨W0, hW0, c0, c1, sz0, g0, B0⟩ := box2 w (.int .i64 N) (.slice sp n cap) 24
  obtain ⟨W1, hW1, d0, d1, sz1, g1, B1⟩ := box2 W0 (.int .i64 0) (.slice none 0 0) 24
  have gg := gb_trans g0 g1
  have B01 := B0.kept g1 (by simp)
  have x0 := B01.cell0
  have x1 := B01.cell1
  obtain ⟨fs, hfs⟩ := underR
  have hv := refValidC N n cap sp f hf hn W1 (hc.kept gg (by simp))
  cases hvb : validB N n f with
  | false =>
    rw [hvb] at hv
    unfold upAns upO
    rw [if_pos hvb, if_pos hvb]
    clear hvb
    go_enter Tryd.func20, Tryd.ntmps20
    go_wp2_with (go_at_call 27; refine hv.mono ?_; rintro e w2 ⟨rfl, g2⟩; have B2 := B1.kept g2 (by simp); have y2 := B2.free0; have y3 := B2.free1; have y0 := B2.cell0; have y1 := B2.cell1)
    refine ret_box3 (g := W0.heap.size) (t := 24) rfl hfs infoR rfl (B2.set _ _) rfl ?_
    exact madeB_bad 20 (gb_new (gb_new (gb_trans gg g2) g0.size _) g0.size _)
  | true =>
    rw [hvb] at hv
    obtain ⟨m, p, rfl, M, hp⟩ := may_of_validB hf hvb
    unfold upAns upO
    rw [if_neg (by rw [hvb]; simp), if_neg (by rw [hvb]; simp), Int.toNat_natCast]
    have hbits := fun w h => refBitsC m n cap sp f hf M.le M.words w h
    obtain ⟨c, hcc⟩ : ∃ c : Nat, Hid (c = (m + 63) / 64) := ⟨_, rfl⟩
    have hml := M.le
    have HM := M
    clear hvb M hp
    have hrow := fun w b cb h => refRowC m cb (some ⟨b, 0, none⟩) (fun q => if q = 0 then i else Pk.bitAt f (q - 1)) hml w h
    rw [← hcc.out] at hrow
    obtain ⟨U, HU⟩ : ∃ U, Hid (upOut m i (Pk.bitAt f) = U) := ⟨_, rfl⟩
    obtain ⟨ib, hib⟩ := info_parts infoBq
    have HB : Hid (Tryd.prog.info? 4 = some ib ∧ ib.zero = some (.bool false) ∧ ib.size = 1 ∧ ib.bytes = 1) := hib
    clear hib
    have hm1 : (m : Int) ≤ (m : Int) + 1 := by omega
    have hm2 : (m : Int) < (m : Int) + 1 := by omega
    go_enter Tryd.func20, Tryd.ntmps20
    go_wp2_with (first
      | (go_at_call 27; refine hv.mono ?_; rintro e w2 ⟨rfl, g2⟩; have B2 := B1.kept g2 (by simp); have B02 := B01.kept g2 (by simp); have x2 := B02.cell0; have x3 := B02.cell1; obtain ⟨W3, hW3⟩ : ∃ W3, w2.alloc (.cells #[.bool i] 4) = W3 := ⟨_, rfl⟩; have g3 : w2.grownBy W3 none := (by rw [← hW3]; exact World.grownBy_alloc _ _ _); have o3 : W3.ownsRow w.heap.size 4 1 (.slice (some ⟨w2.heap.size, 0, none⟩) 1 1) 1 [.bool i] := (by rw [← hW3]; exact World.ownsRow_lit w2 #[.bool i] 1 (gb_trans gg g2).size (by unfold maxLen; omega) rfl); have B03 := B02.kept g3 (by simp); have x4 := B03.cell0; have x5 := B03.cell1)
      | (go_at_call 38; refine (hbits W3 (hc.kept (gb_trans gg (gb_trans g2 g3)) (by simp))).mono ?_; rintro e w4 ⟨b, rfl, hr4, hb4, g4⟩; have o4 := o3.kept g4 (Classical.em _); have G4 := gb_trans gg (gb_trans g2 (gb_trans g3 g4)))
      | (at_builtin; refine wpList_append_own _ rfl _ _ 49 rfl w.heap.size 4 ib (.bool false) 1 1 underBq HB.out.1 HB.out.2.1 HB.out.2.2.1 HB.out.2.2.2 rfl (by decide) _ 1 _ rfl o4 ⟨b, 0, none⟩ m m ((List.range m).map fun k : Nat => Value.bool (Pk.bitAt f k)) rfl (by simp) (row_news hr4) row_one (by unfold maxLen; omega) (by omega) G4.size ?_; intro v5 w5 o5 g5 hnil5; obtain ⟨gq, cq, rfl, hcq⟩ := own_slice' o5 (by omega); have Gx : w2.grownBy w4 none := gb_trans g3 g4; have G5 : w.grownBy w5 none := gb_past G4 g5 (gb_trans gg g2).size; have nB : some W0.heap.size ≠ some w2.heap.size := (fun e => by injection e; have := B2.lt; omega); have nA : some w.heap.size ≠ some w2.heap.size := (fun e => by injection e; have := B02.lt; omega); have B5 := (B2.kept Gx (by simp)).kept g5 nB; have A5 := (B02.kept Gx (by simp)).kept g5 nA; have a50 := A5.cell0; have lcq := hcq.out; have u5 : w5.cell? ⟨gq, m, none⟩ = some (.bool U) := ((o5.cellAt m (by omega)).trans (by rw [← HU.out]; exact up_at m i f)); have hbd : Bd w5 (some ⟨gq, 0, none⟩) m (fun q => if q = 0 then i else Pk.bitAt f (q - 1)) := up_bd o5; have ngq : Hid (gq ≠ W0.heap.size) := own_ne o5 B5; have nw0 : Hid (w.heap.size ≠ W0.heap.size) := Nat.ne_of_lt B0.lt; have hcq1 : (m : Int) ≤ (cq : Int) := (by omega); have hcq2 : ((1 + m : Nat) : Int) = (m : Int) + 1 := (by omega)))
    go_region_held2 (fun w' => w'.cell? ⟨w.heap.size, 0, none⟩ = some (.int .i64 m) ∧ w'.cell? ⟨gq, m, none⟩ = some (.bool U)) (go_keep) (first | (go_at_call 39; refine (hrow w5.drew _ _ (by exact hbd)).mono ?_; rintro e w8 ⟨b8, rfl, hr8, g8, hb8⟩; have e8 := gb_trans (gb_drew (World.grownBy.refl w5 none)) g8; have B8 := B5.kept e8 (by simp); have A8 := A5.kept e8 (by simp); have z2 := B8.free0; have z3 := B8.free1; have z0 := B8.cell0; have z1 := B8.cell1; have u8 := e8.cell u5 (by simp); have a80 := A8.cell0; obtain ⟨V, hV⟩ : ∃ V, (w8.setCell ⟨W0.heap.size, 0, none⟩ (.int .i64 m)).setCell ⟨W0.heap.size, 1, none⟩ (.slice (some ⟨b8, 0, none⟩) c c) = V := ⟨_, rfl⟩; have BV : Bx V W0.heap.size 24 _ _ := hV ▸ B8.set (.int .i64 m) (.slice (some ⟨b8, 0, none⟩) c c); have uV : V.cell? ⟨gq, m, none⟩ = some (.bool U) := hV ▸ far2 u8 ngq.out; have aV : V.cell? ⟨w.heap.size, 0, none⟩ = some (.int .i64 m) := hV ▸ far2 a80 nw0.out))
    clear hrow hbits hv hbd o5 lcq hm1 hm2 u5 u8 a50 a80 aV uV z0 z1 z2 z3
    clear hcq1 hcq2
    go_wp2
    refine ret_box3 (g := W0.heap.size) (t := 24) rfl hfs infoR rfl BV rfl ?_
    have s8 := e8.size
    have s5 := G5.size
    have hne : b8 ≠ W0.heap.size := by have := B5.lt; have : w5.drew.heap.size = w5.heap.size := rfl; omega
    have hr9 : Row V 52 b8 c _ := hV ▸ World.rowIs.setOther (World.rowIs.setOther hr8 (a := ⟨W0.heap.size, 0, none⟩) hne (.int .i64 m)) (a := ⟨W0.heap.size, 1, none⟩) hne (.slice (some ⟨b8, 0, none⟩) c c)
    have hg9 : w.grownBy V none := hV ▸ gb_new (gb_new (gb_trans G5 e8) (a := ⟨W0.heap.size, 0, none⟩) g0.size (.int .i64 m)) (a := ⟨W0.heap.size, 1, none⟩) g0.size (.slice (some ⟨b8, 0, none⟩) c c)
    have hb9 : w.heap.size ≤ b8 := by have : w5.drew.heap.size = w5.heap.size := rfl; omega
    clear hV
    rw [HU.out]
    rw [hcc.out] at hr9 ⊢
    exact madeB_ok hr9 hg9 hb9

set_option maxRecDepth 100000 in
set_option maxHeartbeats 1000000 in
theorem refdnU (N : Int) (n cap : Nat) (sp : Option Addr) (f : Nat → Nat) (hf : ∀ k, k < n → f k < 18446744073709551616) (hn : n ≤ 9223372036854775807) (i : Bool) (w : World) (hc : Wd w sp n f) :
    Calls Tryd.prog 22 #[.agg #[.int .i64 N, .slice sp n cap], .bool i] w (MadeB (dnAns N n f i) (dnO N n f i) w) := by
  obtain ⟨W0, hW0, c0, c1, sz0, g0, B0⟩ := box2 w (.int .i64 N) (.slice sp n cap) 24
  obtain ⟨W1, hW1, d0, d1, sz1, g1, B1⟩ := box2 W0 (.int .i64 0) (.slice none 0 0) 24
  have gg := gb_trans g0 g1
  have B01 := B0.kept g1 (by simp)
  have x0 := B01.cell0
  have x1 := B01.cell1
  obtain ⟨fs, hfs⟩ := underR
  have hv := refValidC N n cap sp f hf hn W1 (hc.kept gg (by simp))
  cases hvb : validB N n f with
  | false =>
    rw [hvb] at hv
    unfold dnAns dnO
    rw [if_pos hvb, if_pos hvb]
    clear hvb
    go_enter Tryd.func22, Tryd.ntmps22
    go_wp2_with (go_at_call 27; refine hv.mono ?_; rintro e w2 ⟨rfl, g2⟩; have B2 := B1.kept g2 (by simp); have y2 := B2.free0; have y3 := B2.free1; have y0 := B2.cell0; have y1 := B2.cell1)
    refine ret_box3 (g := W0.heap.size) (t := 24) rfl hfs infoR rfl (B2.set _ _) rfl ?_
    exact madeB_bad 20 (gb_new (gb_new (gb_trans gg g2) g0.size _) g0.size _)
  | true =>
    rw [hvb] at hv
    obtain ⟨m, p, rfl, M, hp⟩ := may_of_validB hf hvb
    unfold dnAns dnO
    rw [if_neg (by rw [hvb]; simp), if_neg (by rw [hvb]; simp), Int.toNat_natCast]
    have hbits := fun w h => refBitsC m n cap sp f hf M.le M.words w h
    obtain ⟨c, hcc⟩ : ∃ c : Nat, Hid (c = (m + 63) / 64) := ⟨_, rfl⟩
    have hml := M.le
    have HM := M
    clear hvb M hp
    have hrow := fun w sp cb h => refRowC m cb sp (fun q => if q = m - 1 then i else Pk.bitAt f (q + 1)) hml w h
    rw [← hcc.out] at hrow
    obtain ⟨U, HU⟩ : ∃ U, Hid (downOut m i (Pk.bitAt f) = U) := ⟨_, rfl⟩
    obtain ⟨ib, hib⟩ := info_parts infoBq
    have HB : Hid (Tryd.prog.info? 4 = some ib ∧ ib.zero = some (.bool false) ∧ ib.size = 1 ∧ ib.bytes = 1) := hib
    clear hib
    have hm1 : (1 : Int) ≤ (m : Int) + 1 := by omega
    have hm2 : (0 : Int) < (m : Int) + 1 := by omega
    go_enter Tryd.func22, Tryd.ntmps22
    go_wp2_with (first
      | (go_at_call 27; refine hv.mono ?_; rintro e w2 ⟨rfl, g2⟩; have B2 := B1.kept g2 (by simp); have B02 := B01.kept g2 (by simp); have x2 := B02.cell0; have x3 := B02.cell1)
      | (go_at_call 38; refine (hbits w2 (hc.kept (gb_trans gg g2) (by simp))).mono ?_; rintro e w3 ⟨b, rfl, hr3, hb3, g3⟩; have o3 := own_of_row hr3 (Nat.le_trans (gb_trans gg g2).size hb3) (by unfold maxLen; omega); obtain ⟨W4, hW4⟩ : ∃ W4, w3.alloc (.cells #[.bool i] 4) = W4 := ⟨_, rfl⟩; have g4 : w3.grownBy W4 none := (by rw [← hW4]; exact World.grownBy_alloc _ _ _); have o4 := o3.kept g4 (Classical.em _); have n4 : ∀ j u, [Value.bool i][j]? = some u → W4.cell? ((⟨w3.heap.size, 0, none⟩ : Addr).add j) = some u := (by rw [← hW4]; exact World.news_of_block (cs := #[.bool i]) (heap_alloc_new w3 _)); have G4 := gb_trans gg (gb_trans g2 (gb_trans g3 g4)))
      | (at_builtin; refine wpList_append_own _ rfl _ _ 49 rfl w.heap.size 4 ib (.bool false) 1 1 underBq HB.out.1 HB.out.2.1 HB.out.2.2.1 HB.out.2.2.2 rfl (by decide) _ m _ rfl o4 ⟨w3.heap.size, 0, none⟩ 1 1 [.bool i] rfl rfl n4 (by intro u hu; simp at hu; subst hu; rfl) (by unfold maxLen; omega) (by omega) G4.size ?_; intro v5 w5 o5 g5 hnil5; obtain ⟨gq, cq, rfl, hcq⟩ := own_slice' o5 (by omega); have Gx : w2.grownBy W4 none := gb_trans g3 g4; have hb3' : w.heap.size ≤ b := Nat.le_trans (gb_trans gg g2).size hb3; have G5 : w.grownBy w5 none := gb_past G4 g5 hb3'; have nB : some W0.heap.size ≠ some b := (fun e => by injection e; have := B2.lt; omega); have nA : some w.heap.size ≠ some b := (fun e => by injection e; have := B02.lt; omega); have B5 := (B2.kept Gx (by simp)).kept g5 nB; have A5 := (B02.kept Gx (by simp)).kept g5 nA; have a50 := A5.cell0; have lcq := hcq.out; have u5 : w5.cell? ⟨gq, 0, none⟩ = some (.bool U) := ((o5.cellAt 0 (by omega)).trans (by rw [← HU.out]; exact dn_at m i f)); have hbd1 : Hid (Bd w5 (some ⟨gq, 1, none⟩) m (fun q => if q = m - 1 then i else Pk.bitAt f (q + 1))) := dn_bd o5; have ngq : Hid (gq ≠ W0.heap.size) := own_ne o5 B5; have nw0 : Hid (w.heap.size ≠ W0.heap.size) := Nat.ne_of_lt B0.lt; have hcq1 : (m : Int) + 1 ≤ (cq : Int) := (by omega)))
    by_cases hq1 : cq = 1
    · subst hq1
      have hbd : Bd w5 (some ⟨gq, 0, none⟩) m (fun q => if q = m - 1 then i else Pk.bitAt f (q + 1)) := fun k hk => by omega
      have ea : (#[Value.slice (some ⟨gq, 0, none⟩) m 0] : Array Value) = #[.slice (some ⟨gq, 0, none⟩) 0 0] := by rw [show m = 0 by omega]
      have hrow0 := fun w h => ea ▸ hrow w (some ⟨gq, 0, none⟩) 0 h
      clear hbd1 ea hrow
      go_region_held2 (fun w' => w'.cell? ⟨w.heap.size, 0, none⟩ = some (.int .i64 m) ∧ w'.cell? ⟨gq, 0, none⟩ = some (.bool U)) (go_keep) (first | (go_at_call 39; refine (hrow0 w5.drew (by exact hbd)).mono ?_; rintro e w8 ⟨b8, rfl, hr8, g8, hb8⟩; have e8 := gb_trans (gb_drew (World.grownBy.refl w5 none)) g8; have B8 := B5.kept e8 (by simp); have A8 := A5.kept e8 (by simp); have z2 := B8.free0; have z3 := B8.free1; have z0 := B8.cell0; have z1 := B8.cell1; have u8 := e8.cell u5 (by simp); have a80 := A8.cell0; obtain ⟨V, hV⟩ : ∃ V, (w8.setCell ⟨W0.heap.size, 0, none⟩ (.int .i64 m)).setCell ⟨W0.heap.size, 1, none⟩ (.slice (some ⟨b8, 0, none⟩) c c) = V := ⟨_, rfl⟩; have BV : Bx V W0.heap.size 24 _ _ := hV ▸ B8.set (.int .i64 m) (.slice (some ⟨b8, 0, none⟩) c c); have uV : V.cell? ⟨gq, 0, none⟩ = some (.bool U) := hV ▸ far2 u8 ngq.out; have aV : V.cell? ⟨w.heap.size, 0, none⟩ = some (.int .i64 m) := hV ▸ far2 a80 nw0.out))
      clear hrow0 hbits hv hbd o5 lcq hm1 hm2 u5 u8 a50 a80 aV uV z0 z1 z2 z3
      clear hcq1
      go_wp2
      refine ret_box3 (g := W0.heap.size) (t := 24) rfl hfs infoR rfl BV rfl ?_
      have s8 := e8.size
      have s5 := G5.size
      have hne : b8 ≠ W0.heap.size := by have := B5.lt; have : w5.drew.heap.size = w5.heap.size := rfl; omega
      have hr9 : Row V 52 b8 c _ := hV ▸ World.rowIs.setOther (World.rowIs.setOther hr8 (a := ⟨W0.heap.size, 0, none⟩) hne (.int .i64 m)) (a := ⟨W0.heap.size, 1, none⟩) hne (.slice (some ⟨b8, 0, none⟩) c c)
      have hg9 : w.grownBy V none := hV ▸ gb_new (gb_new (gb_trans G5 e8) (a := ⟨W0.heap.size, 0, none⟩) g0.size (.int .i64 m)) (a := ⟨W0.heap.size, 1, none⟩) g0.size (.slice (some ⟨b8, 0, none⟩) c c)
      have hb9 : w.heap.size ≤ b8 := by have : w5.drew.heap.size = w5.heap.size := rfl; omega
      clear hV
      rw [HU.out]
      rw [hcc.out] at hr9 ⊢
      exact madeB_ok hr9 hg9 hb9
    · have hbd := hbd1.out
      clear hbd1
      go_region_held2 (fun w' => w'.cell? ⟨w.heap.size, 0, none⟩ = some (.int .i64 m) ∧ w'.cell? ⟨gq, 0, none⟩ = some (.bool U)) (go_keep) (first | (go_at_call 39; refine (hrow w5.drew _ _ (by exact hbd)).mono ?_; rintro e w8 ⟨b8, rfl, hr8, g8, hb8⟩; have e8 := gb_trans (gb_drew (World.grownBy.refl w5 none)) g8; have B8 := B5.kept e8 (by simp); have A8 := A5.kept e8 (by simp); have z2 := B8.free0; have z3 := B8.free1; have z0 := B8.cell0; have z1 := B8.cell1; have u8 := e8.cell u5 (by simp); have a80 := A8.cell0; obtain ⟨V, hV⟩ : ∃ V, (w8.setCell ⟨W0.heap.size, 0, none⟩ (.int .i64 m)).setCell ⟨W0.heap.size, 1, none⟩ (.slice (some ⟨b8, 0, none⟩) c c) = V := ⟨_, rfl⟩; have BV : Bx V W0.heap.size 24 _ _ := hV ▸ B8.set (.int .i64 m) (.slice (some ⟨b8, 0, none⟩) c c); have uV : V.cell? ⟨gq, 0, none⟩ = some (.bool U) := hV ▸ far2 u8 ngq.out; have aV : V.cell? ⟨w.heap.size, 0, none⟩ = some (.int .i64 m) := hV ▸ far2 a80 nw0.out))
      clear hrow hbits hv hbd o5 lcq hm1 hm2 u5 u8 a50 a80 aV uV z0 z1 z2 z3
      clear hcq1
      go_wp2
      refine ret_box3 (g := W0.heap.size) (t := 24) rfl hfs infoR rfl BV rfl ?_
      have s8 := e8.size
      have s5 := G5.size
      have hne : b8 ≠ W0.heap.size := by have := B5.lt; have : w5.drew.heap.size = w5.heap.size := rfl; omega
      have hr9 : Row V 52 b8 c _ := hV ▸ World.rowIs.setOther (World.rowIs.setOther hr8 (a := ⟨W0.heap.size, 0, none⟩) hne (.int .i64 m)) (a := ⟨W0.heap.size, 1, none⟩) hne (.slice (some ⟨b8, 0, none⟩) c c)
      have hg9 : w.grownBy V none := hV ▸ gb_new (gb_new (gb_trans G5 e8) (a := ⟨W0.heap.size, 0, none⟩) g0.size (.int .i64 m)) (a := ⟨W0.heap.size, 1, none⟩) g0.size (.slice (some ⟨b8, 0, none⟩) c c)
      have hb9 : w.heap.size ≤ b8 := by have : w5.drew.heap.size = w5.heap.size := rfl; omega
      clear hV
      rw [HU.out]
      rw [hcc.out] at hr9 ⊢
      exact madeB_ok hr9 hg9 hb9

set_option maxRecDepth 100000 in
set_option maxHeartbeats 1000000 in
theorem reftuU (N : Int) (n cap : Nat) (sp : Option Addr) (f : Nat → Nat) (hf : ∀ k, k < n → f k < 18446744073709551616) (hn : n ≤ 9223372036854775807) (w : World) (hc : Wd w sp n f) :
    Calls Tryd.prog 24 #[.agg #[.int .i64 N, .slice sp n cap]] w (Made (tuAns N n f) w) := by
  obtain ⟨W0, hW0, c0, c1, sz0, g0, B0⟩ := box2 w (.int .i64 N) (.slice sp n cap) 24
  obtain ⟨W1, hW1, d0, d1, sz1, g1, B1⟩ := box2 W0 (.int .i64 0) (.slice none 0 0) 24
  have gg := gb_trans g0 g1
  have B01 := B0.kept g1 (by simp)
  have x0 := B01.cell0
  have x1 := B01.cell1
  obtain ⟨fs, hfs⟩ := underR
  have hv := refValidC N n cap sp f hf hn W1 (hc.kept gg (by simp))
  cases hvb : validB N n f with
  | false =>
    rw [hvb] at hv
    unfold tuAns
    rw [if_pos hvb]
    clear hvb
    go_enter Tryd.func24, Tryd.ntmps24
    go_wp2_with (go_at_call 27; refine hv.mono ?_; rintro e w2 ⟨rfl, g2⟩; have B2 := B1.kept g2 (by simp); have y2 := B2.free0; have y3 := B2.free1; have y0 := B2.cell0; have y1 := B2.cell1)
    refine ret_box2 (g := W0.heap.size) (t := 24) rfl hfs infoR rfl (B2.set _ _) rfl ?_
    exact made_bad 20 (gb_new (gb_new (gb_trans gg g2) g0.size _) g0.size _)
  | true =>
    rw [hvb] at hv
    obtain ⟨m, p, rfl, M, hp⟩ := may_of_validB hf hvb
    unfold tuAns
    rw [if_neg (by rw [hvb]; simp), Int.toNat_natCast]
    have hbits := fun w h => refBitsC m n cap sp f hf M.le M.words w h
    obtain ⟨c, hcc⟩ : ∃ c : Nat, Hid (c = (m + 63) / 64) := ⟨_, rfl⟩
    have hml := M.le
    have HM := M
    clear hvb M hp
    have hrow := fun w b h => refRowC m m (some ⟨b, 0, none⟩) (fun q => Pk.bitAt f (m - 1 - q)) hml w h
    rw [← hcc.out] at hrow
    obtain ⟨mc, hmk, hmc⟩ := madeB m (by omega)
    go_enter Tryd.func24, Tryd.ntmps24
    go_wp2_with (first
      | (go_at_call 27; refine hv.mono ?_; rintro e w2 ⟨rfl, g2⟩; have B2 := B1.kept g2 (by simp); have B02 := B01.kept g2 (by simp); have x2 := B02.cell0; have x3 := B02.cell1)
      | (go_at_call 38; refine (hbits w2 (hc.kept (gb_trans gg g2) (by simp))).mono ?_; rintro e w3 ⟨b, rfl, hr3, hb3, g3⟩; obtain ⟨W4, hW4⟩ : ∃ W4, w3.alloc (.cells mc 4) = W4 := ⟨_, rfl⟩; have g4 : w3.grownBy W4 none := (by rw [← hW4]; exact World.grownBy_alloc _ _ _); have hr4 : W4.rowIs w3.heap.size 4 m (fun _ => .bool false) := (by rw [← hW4]; exact hmc w3); have hl4 := rowIs_kept hr3 g4 (by simp)))
    have B4 := (B2.kept g3 (by simp)).kept g4 (by simp)
    have G4 := gb_trans gg (gb_trans g2 (gb_trans g3 g4))
    have G3 := gb_trans gg (gb_trans g2 g3)
    have lb := hr3.lt
    have lB := (B2.kept g3 (by simp)).lt
    have l4 := hr4.lt
    have s3 := G3.size
    go_loopw [6] (fun v wr => ∃ k : Nat, k ≤ m ∧ v = .int .i64 k ∧ (∃ F, wr.rowIs w3.heap.size 4 m F ∧ Hid (∀ j, j < k → F j = .bool (Pk.bitAt f (m - 1 - j)))) ∧ W4.grownBy wr (some w3.heap.size)) (fun v _ => m - (intOf v).toNat)
    case atStart => exact ⟨0, Nat.zero_le _, rfl, ⟨_, hr4, fun j hj => absurd hj (Nat.not_lt_zero _)⟩, World.grownBy.refl _ _⟩
    case round =>
      obtain ⟨k, hk, rfl, ⟨F, hR, HF⟩, hgk⟩ := hrel
      by_cases hlt : k < m
      · have hlt' : (k : Int) < (m : Int) := by omega
        have hlk := rowIs_kept hl4 hgk (fun e => by have := Option.some.inj e; omega)
        have v0 := hlk.cell (i := m - 1 - k) (by omega)
        have u0 := hR.cell (i := k) hlt
        have u1 := hR.frozen k
        have hs1 : IntKind.i64.wrap ((m : Int) - 1) = (m : Int) - 1 := by rw [IntKind.wrap_i64]; omega
        have hs2 : IntKind.i64.wrap ((m : Int) - 1 - (k : Int)) = ((m - 1 - k : Nat) : Int) := by rw [IntKind.wrap_i64]; omega
        have hs3 : ((m - 1 - k : Nat) : Int) < (m : Int) := by omega
        go_wp2
        refine ⟨⟨k + 1, by omega, by go_num, ⟨_, World.rowIs.set hR k _, fun j hj => ?_⟩, gb_set hgk _ _⟩, ?_⟩
        · by_cases e : j = k
          · rw [if_pos e, e]
          · rw [if_neg e]; exact HF.out j (by omega)
        · simp [intOf]; omega
      · have hlt' : ¬ (k : Int) < (m : Int) := by omega
        have Bk := B4.kept hgk (fun e => by have := Option.some.inj e; omega)
        have hbd : Bd wr (some ⟨w3.heap.size, 0, none⟩) m (fun q => Pk.bitAt f (m - 1 - q)) := full_bd hR (fun j hj => HF.out j (by omega)) (Nat.le_refl _)
        go_wp2_with (go_at_call 39; refine (hrow _ w3.heap.size hbd).mono ?_; rintro e w8 ⟨b8, rfl, hr8, g8, hb8⟩; have B8 := Bk.kept g8 (by simp); have z2 := B8.free0; have z3 := B8.free1; have z0 := B8.cell0; have z1 := B8.cell1)
        refine ret_box2 (g := W0.heap.size) (t := 24) rfl hfs infoR rfl (B8.set _ _) rfl ?_
        have sk := hgk.size
        have hne : b8 ≠ W0.heap.size := by omega
        have G := gb_past G4 hgk s3
        have hr9 := World.rowIs.setOther (World.rowIs.setOther hr8 (a := ⟨W0.heap.size, 0, none⟩) hne (.int .i64 m)) (a := ⟨W0.heap.size, 1, none⟩) hne (.slice (some ⟨b8, 0, none⟩) c c)
        have hg9 := gb_new (gb_new (gb_trans G g8) (a := ⟨W0.heap.size, 0, none⟩) g0.size (.int .i64 m)) (a := ⟨W0.heap.size, 1, none⟩) g0.size (.slice (some ⟨b8, 0, none⟩) c c)
        have s4 := G4.size
        rw [hcc.out] at hr9 hg9 ⊢
        exact made_ok hr9 hg9 (by omega)
end Go.Proofs.YtcdefpfnjjahgaaDoor
