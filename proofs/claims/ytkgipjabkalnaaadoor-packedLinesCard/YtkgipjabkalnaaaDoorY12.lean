/- The document's Line: the row. -/
import Derived.Test.YtkgipjabkalnaaaDoorY11
import Derived.Test.YtkgipjabkalnaaaDoorH14
import Derived.Test.YtkgipjabkalnaaaDoorW40
import Derived.Test.YtkgipjabkalnaaaDoorW23
import Derived.RangeFuncBox
import Derived.Deep.AppendLies
namespace Go.Proofs.YtkgipjabkalnaaaDoor.Pd
open Go.RowKit
set_option linter.unusedVariables false
set_option linter.unusedSimpArgs false
set_option maxRecDepth 100000

/-- The row that an offset looks at. -/
def sel (a h b : Nat → Bool) (y : Int) : Nat → Bool := if y = -1 then a else if y = 0 then h else b
/-- How many of the first k neighbours live. -/
def dc (ho : Nat) (a h b : Nat → Bool) (i : Nat) : Nat → Nat
  | 0 => 0
  | k + 1 => dc ho a h b i k + if sel a h b (py ho k) ((i : Int) + 1 + px ho k).toNat then 1 else 0
theorem dc_le (ho : Nat) (a h b : Nat → Bool) (i : Nat) : ∀ k, dc ho a h b i k ≤ k
  | 0 => Nat.le_refl _
  | k + 1 => by have := dc_le ho a h b i k; rw [dc]; split <;> omega
theorem e_m (i : Nat) : ((i : Int) + 1 + -1).toNat = i := by omega
theorem e_0 (i : Nat) : ((i : Int) + 1 + 0).toNat = i + 1 := by omega
theorem e_p (i : Nat) : ((i : Int) + 1 + 1).toNat = i + 2 := by omega
theorem dc_1 (a h b : Nat → Bool) (m i : Nat) (hi : i < m) : dc 1 a h b i 8 = Wo.cn (nb 1 a h b m) 8 i := by
  simp only [dc, Wo.cn, nb, sel, fr, px, py, tbl, List.getD_cons_zero, List.getD_cons_succ, e_m, e_0, e_p, decide_eq_true hi, Bool.and_true]
  simp
  omega
theorem dc_2 (a h b : Nat → Bool) (m i : Nat) (hi : i < m) : dc 2 a h b i 4 = Wo.cn (nb 2 a h b m) 4 i := by
  simp only [dc, Wo.cn, nb, sel, fr, px, py, tbl, List.getD_cons_zero, List.getD_cons_succ, e_m, e_0, e_p, decide_eq_true hi, Bool.and_true]
  simp
  omega
theorem dc_3 (a h b : Nat → Bool) (m i : Nat) (hi : i < m) : dc 3 a h b i 6 = Wo.cn (nb 3 a h b m) 6 i := by
  simp only [dc, Wo.cn, nb, sel, fr, px, py, tbl, List.getD_cons_zero, List.getD_cons_succ, e_m, e_0, e_p, decide_eq_true hi, Bool.and_true]
  simp
  omega
theorem dc_is (ho : Nat) (h1 : 1 ≤ ho) (h3 : ho ≤ 3) (a h b : Nat → Bool) (m i : Nat) (hi : i < m) : dc ho a h b i (sn ho) = Wo.cn (nb ho a h b m) (nn ho) i := by
  rcases (show ho = 1 ∨ ho = 2 ∨ ho = 3 by omega) with rfl | rfl | rfl
  · exact dc_1 a h b m i hi
  · exact dc_2 a h b m i hi
  · exact dc_3 a h b m i hi
theorem pxy_bd (h k : Nat) (h1 : 1 ≤ h) (h3 : h ≤ 3) (hk : k < sn h) : (-1 ≤ px h k ∧ px h k ≤ 1) ∧ (py h k = -1 ∨ py h k = 0 ∨ py h k = 1) := by
  have : ∀ h : Fin 4, ∀ k : Fin 8, k.val < sn h.val → (-1 ≤ px h.val k.val ∧ px h.val k.val ≤ 1) ∧ (py h.val k.val = -1 ∨ py h.val k.val = 0 ∨ py h.val k.val = 1) := by decide
  exact this ⟨h, by omega⟩ ⟨k, by have := sn_le h h1 h3; omega⟩ hk

theorem mo_sn (h : Nat) (h1 : 1 ≤ h) (h3 : h ≤ 3) : Lf.mo h = sn h := by
  rcases (show h = 1 ∨ h = 2 ∨ h = 3 by omega) with rfl | rfl | rfl <;> rfl
theorem nv_is (ho bo st t D : Nat) (hc : Lf.ck ho bo st = 0) (ht : t ≤ 1) (hD : D ≤ Lf.mo ho) : Lf.nxV ho bo st t (D : Int) = if (if t = 1 then st else bo).testBit D then 1 else 0 := by
  have hE : Lf.nxE ho bo st t (D : Int) = 0 := by
    unfold Lf.nxE
    rw [if_neg (by simp [hc]), if_neg (by omega), if_neg (by omega)]
  unfold Lf.nxV
  rw [if_pos hE, Int.toNat_natCast]
theorem gb_row {a b c : World} {v : Option Nat} (h : a.grownBy b none) (k : b.grownBy c v) (hv : ∀ i, v = some i → a.heap.size ≤ i) : a.grownBy c none :=
  ⟨k.os.trans h.os, k.tape.trans h.tape, k.output.trans h.output, Nat.le_trans h.size k.size, fun i hi _ => (k.block i (Nat.lt_of_lt_of_le hi h.size) (fun e => by have := hv i e.symm; omega)).trans (h.block i hi (by simp))⟩
theorem own_rowIs {w : World} {base t n g cap : Nat} {xs : List Value} (h : w.ownsRow base t 1 (.slice (some ⟨g, 0, none⟩) n cap) n xs) : ∃ F : Nat → Value, w.rowIs g t cap F ∧ (∀ j u, xs[j]? = some u → F j = u) ∧ n ≤ cap := by
  rcases h.2 with ⟨e, _⟩ | ⟨g', cap', cur, e, _, hg, hnc, _, hsz, htk⟩
  · cases e
  · injection e with e1 e2 e3
    injection e1 with e1
    injection e1 with e1
    subst e1 e3
    refine ⟨fun j => cur.getD j undef, ⟨cur, hg, by omega, fun i hi => by dsimp only; rw [Array.getD_eq_getD_getElem?, Array.getElem?_eq_getElem (by omega)]; rfl⟩, fun j u hj => ?_, hnc⟩
    rw [← htk, List.getElem?_take] at hj
    split at hj
    · rw [Array.getElem?_toList] at hj
      dsimp only
      rw [Array.getD_eq_getD_getElem?, hj]; rfl
    · cases hj
theorem infoBO : (Tryd.prog.info? 4).map (fun i => (i.zero, i.size, i.bytes)) = some (some (.bool false), 1, 1) := by kernel_rfl
theorem underBS : Tryd.prog.underlying 41 = some (.slice 4) := by kernel_rfl
theorem rget (m n c : Nat) (sp : Option Addr) (p : Nat → Bool) (M : MayBe m n p) (z : Int) (h0 : 0 ≤ z) (h1 : z < m) (w : World) (h : Wd w sp n (Pk.pack p)) : Calls Tryd.prog 12 #[.agg #[.int .i64 (m : Nat), .slice sp n c], .int .i64 z] w fun e w' => e = .returned (.bool (p z.toNat)) ∧ w.grownBy w' none := by
  have hg := Wo.refGetU (m : Int) n c sp (Pk.pack p) (fun k _ => Pk.pack_lt _ _) (by have := Wo.MayBe.len M; omega) z w h
  rw [Wo.getV_may z (Wo.validB_may M) M (fun k _ => rfl)] at hg
  have e : Wo.getB m p z = p z.toNat := by unfold Wo.getB; rw [decide_eq_true h0, decide_eq_true h1]; rfl
  rw [e] at hg
  exact hg

set_option maxHeartbeats 4000000 in
theorem rlineY (ho bo st m n : Nat) (h1 : 1 ≤ ho) (ho3 : ho ≤ 3) (hb : bo < 65536) (hs : st < 65536) (pa ph pb : Nat → Bool) (Ma : MayBe m n pa) (Mh : MayBe m n ph) (Mb : MayBe m n pb) (h3 : 3 ≤ m) (ca ch cb : Nat) (sa sh sb : Option Addr) (w : World) (wa : Wd w sa n (Pk.pack pa)) (wh : Wd w sh n (Pk.pack ph)) (wb : Wd w sb n (Pk.pack pb)) (hc : Lf.ck ho bo st = 0) :
    Calls Tryd.prog 4 #[.agg #[.int .u8 (ho : Nat), .int .u16 (bo : Nat), .int .u16 (st : Nat)], .agg #[.int .i64 ((m : Nat) : Int), .slice sa n ca], .agg #[.int .i64 ((m : Nat) : Int), .slice sh n ch], .agg #[.int .i64 ((m : Nat) : Int), .slice sb n cb]] w fun e w' => ∃ z, e = .returned (.tuple #[.agg #[.int .i64 ((m - 2 : Nat) : Int), .slice (some ⟨z, 0, none⟩) ((m - 2 + 63) / 64) ((m - 2 + 63) / 64)], .int .i64 0]) ∧ Row w' 33 z ((m - 2 + 63) / 64) (ln ho bo st pa ph pb (m - 2)) ∧ w.grownBy w' none ∧ w.heap.size ≤ z := by
  obtain ⟨m2, hm2⟩ : ∃ m2, m - 2 = m2 := ⟨_, rfl⟩
  obtain ⟨k2, hk2⟩ : ∃ k2, (m2 + 63) / 64 = k2 := ⟨_, rfl⟩
  rw [hm2, hk2]
  have HM2 : Hid (m - 2 = m2) := hm2
  have HK2 : Hid ((m2 + 63) / 64 = k2) := hk2
  clear hm2 hk2
  have hn : n ≤ 9223372036854775807 := by have := Wo.MayBe.len Ma; omega
  have va := Wo.validB_may Ma
  have vh := Wo.validB_may Mh
  have vb := Wo.validB_may Mb
  have N3a : ¬ ((m : Nat) : Int) < 3 := by omega
  have nee : (((m : Nat) : Int) != ((m : Nat) : Int)) = false := by simp
  have hh : ho < 256 := by omega
  have hof := fun w => refOffYes ho h1 ho3 w
  have hml := Ma.le
  obtain ⟨W1, hW1, sz1, g1, B1⟩ := boxn w #[.int .u8 (ho : Nat), .int .u16 (bo : Nat), .int .u16 (st : Nat)] 24
  obtain ⟨W2, hW2, a0, a1, sz2, g2, B2⟩ := box2 W1 (.int .i64 ((m : Nat) : Int)) (.slice sa n ca) 27
  obtain ⟨W3, hW3, hx0, hx1, sz3, g3, B3⟩ := box2 W2 (.int .i64 ((m : Nat) : Int)) (.slice sh n ch) 27
  obtain ⟨W4, hW4, b0, b1, sz4, g4, B4⟩ := box2 W3 (.int .i64 ((m : Nat) : Int)) (.slice sb n cb) 27
  obtain ⟨W5, hW5, r0, r1, sz5, g5, B5⟩ := box2 W4 (.int .i64 0) (.slice none 0 0) 27
  have G5 : w.grownBy W5 none := gb_trans g1 (gb_trans g2 (gb_trans g3 (gb_trans g4 g5)))
  have P1 := B1.kept (gb_trans g2 (gb_trans g3 (gb_trans g4 g5))) (by simp)
  have P2 := B2.kept (gb_trans g3 (gb_trans g4 g5)) (by simp)
  have P3 := B3.kept (gb_trans g4 g5) (by simp)
  have P4 := B4.kept g5 (by simp)
  have l0 := P1.cell 0 (v := .int .u8 (ho : Nat)) rfl
  have l1 := P1.cell 1 (v := .int .u16 (bo : Nat)) rfl
  have l2 := P1.cell 2 (v := .int .u16 (st : Nat)) rfl
  have hck := fun w => checkD ho bo st hh hb hs w
  rw [hc] at hck
  go_enter Tryd.func4, Tryd.ntmps4
  go_wp2_with (go_at_call 9; refine (hck W5).mono ?_; rintro e V ⟨rfl, gV⟩; have Q2 := P2.kept gV (by simp); have Q3 := P3.kept gV (by simp); have Q4 := P4.kept gV (by simp); have x0 := Q2.cell0; have x1 := Q2.cell1; have x2 := Q3.cell0; have x3 := Q3.cell1; have x4 := Q4.cell0; have x5 := Q4.cell1; obtain ⟨WR, hWR, szR, gR, BW0⟩ := boxn V #[.int .i64 ((m : Nat) : Int), .slice sa n ca, .int .i64 ((m : Nat) : Int), .slice sh n ch, .int .i64 ((m : Nat) : Int), .slice sb n cb] 27; have r0_0 := BW0.cell 0 (v := .int .i64 ((m : Nat) : Int)) rfl; have r0_1 := BW0.cell 1 (v := .slice sa n ca) rfl; have r0_2 := BW0.cell 2 (v := .int .i64 ((m : Nat) : Int)) rfl; have r0_3 := BW0.cell 3 (v := .slice sh n ch) rfl; have r0_4 := BW0.cell 4 (v := .int .i64 ((m : Nat) : Int)) rfl; have r0_5 := BW0.cell 5 (v := .slice sb n cb) rfl)
  have GG0 : W5.grownBy WR none := gb_trans gV gR
  refine wp_loop_rounds 4 ?_
  have hval0 := Wo.refValidC ((m : Nat) : Int) n ca sa (Pk.pack pa) (fun k _ => Pk.pack_lt _ _) hn WR (wa.kept (gb_trans G5 GG0) (by simp))
  rw [va] at hval0
  rw [rounds_succ]
  go_wp2_with (go_at_call 10; refine hval0.mono ?_; rintro e V0 ⟨rfl, gV0⟩; have BW1 := BW0.kept gV0 (by simp); have r1_0 := BW1.cell 0 (v := .int .i64 ((m : Nat) : Int)) rfl; have r1_1 := BW1.cell 1 (v := .slice sa n ca) rfl; have r1_2 := BW1.cell 2 (v := .int .i64 ((m : Nat) : Int)) rfl; have r1_3 := BW1.cell 3 (v := .slice sh n ch) rfl; have r1_4 := BW1.cell 4 (v := .int .i64 ((m : Nat) : Int)) rfl; have r1_5 := BW1.cell 5 (v := .slice sb n cb) rfl; have R20 := P2.kept (gb_trans GG0 gV0) (by simp); have R30 := P3.kept (gb_trans GG0 gV0) (by simp); have R40 := P4.kept (gb_trans GG0 gV0) (by simp); have R50 := B5.kept (gb_trans GG0 gV0) (by simp); have y00 := R20.cell0; have y10 := R20.cell1; have y20 := R30.cell0; have y30 := R30.cell1; have y40 := R40.cell0; have y50 := R40.cell1; have t00 := R50.cell0; have t10 := R50.cell1; have tf00 := R50.free0; have tf10 := R50.free1)
  have GG1 : W5.grownBy V0 none := gb_trans GG0 gV0
  have hval1 := Wo.refValidC ((m : Nat) : Int) n ch sh (Pk.pack ph) (fun k _ => Pk.pack_lt _ _) hn V0 (wh.kept (gb_trans G5 GG1) (by simp))
  rw [vh] at hval1
  rw [rounds_succ]
  go_wp2_with (go_at_call 10; refine hval1.mono ?_; rintro e V1 ⟨rfl, gV1⟩; have BW2 := BW1.kept gV1 (by simp); have r2_0 := BW2.cell 0 (v := .int .i64 ((m : Nat) : Int)) rfl; have r2_1 := BW2.cell 1 (v := .slice sa n ca) rfl; have r2_2 := BW2.cell 2 (v := .int .i64 ((m : Nat) : Int)) rfl; have r2_3 := BW2.cell 3 (v := .slice sh n ch) rfl; have r2_4 := BW2.cell 4 (v := .int .i64 ((m : Nat) : Int)) rfl; have r2_5 := BW2.cell 5 (v := .slice sb n cb) rfl; have R21 := P2.kept (gb_trans GG1 gV1) (by simp); have R31 := P3.kept (gb_trans GG1 gV1) (by simp); have R41 := P4.kept (gb_trans GG1 gV1) (by simp); have R51 := B5.kept (gb_trans GG1 gV1) (by simp); have y01 := R21.cell0; have y11 := R21.cell1; have y21 := R31.cell0; have y31 := R31.cell1; have y41 := R41.cell0; have y51 := R41.cell1; have t01 := R51.cell0; have t11 := R51.cell1; have tf01 := R51.free0; have tf11 := R51.free1)
  have GG2 : W5.grownBy V1 none := gb_trans GG1 gV1
  have hval2 := Wo.refValidC ((m : Nat) : Int) n cb sb (Pk.pack pb) (fun k _ => Pk.pack_lt _ _) hn V1 (wb.kept (gb_trans G5 GG2) (by simp))
  rw [vb] at hval2
  rw [rounds_succ]
  go_wp2_with (go_at_call 10; refine hval2.mono ?_; rintro e V2 ⟨rfl, gV2⟩; have BW3 := BW2.kept gV2 (by simp); have r3_0 := BW3.cell 0 (v := .int .i64 ((m : Nat) : Int)) rfl; have r3_1 := BW3.cell 1 (v := .slice sa n ca) rfl; have r3_2 := BW3.cell 2 (v := .int .i64 ((m : Nat) : Int)) rfl; have r3_3 := BW3.cell 3 (v := .slice sh n ch) rfl; have r3_4 := BW3.cell 4 (v := .int .i64 ((m : Nat) : Int)) rfl; have r3_5 := BW3.cell 5 (v := .slice sb n cb) rfl; have R22 := P2.kept (gb_trans GG2 gV2) (by simp); have R32 := P3.kept (gb_trans GG2 gV2) (by simp); have R42 := P4.kept (gb_trans GG2 gV2) (by simp); have R52 := B5.kept (gb_trans GG2 gV2) (by simp); have y02 := R22.cell0; have y12 := R22.cell1; have y22 := R32.cell0; have y32 := R32.cell1; have y42 := R42.cell0; have y52 := R42.cell1; have t02 := R52.cell0; have t12 := R52.cell1; have tf02 := R52.free0; have tf12 := R52.free1)
  have GG3 : W5.grownBy V2 none := gb_trans GG2 gV2
  have PX1 := P1.kept GG3 (by simp)
  have px0 := PX1.cell 0 (v := .int .u8 (ho : Nat)) rfl
  rw [rounds_succ]
  go_wp2_with (go_at_call 11; refine (hof V2).mono ?_; rintro e U ⟨g, rfl, hP, lg, lgU, gU⟩)
  have zU := gU.size
  have GU : w.grownBy U none := gb_trans G5 (gb_trans GG3 gU)
  have BWU := BW3.kept gU (by simp)
  have BhU := P3.kept (gb_trans GG3 gU) (by simp)
  have BlU := PX1.kept gU (by simp)
  have BrU := B5.kept (gb_trans GG3 gU) (by simp)
  have rga := fun z h0 h9 w h => rget m n ca sa pa Ma z h0 h9 w h
  have rgh := fun z h0 h9 w h => rget m n ch sh ph Mh z h0 h9 w h
  have rgb := fun z h0 h9 w h => rget m n cb sb pb Mb z h0 h9 w h
  have hsn := sn_le ho h1 ho3
  have hmm : m = m2 + 2 := by have := HM2.out; omega
  have hbd := fun k hk => pxy_bd ho k h1 ho3 hk
  have hdi := fun i hi => dc_is ho h1 ho3 pa ph pb m2 i hi
  have hli := fun i hi => ln_is ho bo st pa ph pb m2 i hi
  have hnx := fun t l w => nextD ho bo st hh hb hs t l w
  obtain ⟨ib, hib⟩ := info_parts infoBO
  have HB : Hid (Tryd.prog.info? 4 = some ib ∧ ib.zero = some (.bool false) ∧ ib.size = 1 ∧ ib.bytes = 1) := hib
  have HMM : Hid (m = m2 + 2) := hmm
  have hm2 : m2 ≤ 65538 := by omega
  clear hib hck hval0 hval1 hval2 hof P1 P2 P4 B1 B2 B3 B4 Q2 Q3 Q4 R20 R21 R22 R30 R31 R32 R40 R41 R42 R50 R51 R52 BW0 BW1 BW2 BW3 PX1 va vh vb hmm
  go_loopw [14, 15] (fun vl x wr => ∃ i : Nat, i ≤ m2 ∧ x = .int .i64 (i : Nat) ∧ wr.ownsRow U.heap.size 4 1 vl i ((List.range i).map fun t => Value.bool (ln ho bo st pa ph pb m2 t)) ∧ U.grownBy wr none) (fun _ x _ => m2 - (intOf x).toNat)
  case atStart => exact ⟨0, Nat.zero_le _, rfl, World.ownsRow_nil _ _ _ _, World.grownBy.refl _ _⟩
  case round =>
    obtain ⟨i, hi, rfl, hown, gi⟩ := hrel
    have Bhi := BhU.kept gi (by simp)
    have hc0 := Bhi.cell0
    have hc1 := Bhi.cell1
    have zi := gi.size
    have em : ((m : Nat) : Int) - 2 = (m2 : Int) := by have := HMM.out; omega
    by_cases hlt : i < m2
    · have hlt' : (i : Int) < (m2 : Int) := by omega
      rename World => WI
      rename Value => VL
      go_wp2
      go_loopw [16, 17] (fun y x wr => ∃ k : Nat, k ≤ sn ho ∧ x = .int .i64 (k : Nat) ∧ y = .int .i64 (dc ho pa ph pb i k : Nat) ∧ WI.grownBy wr none) (fun _ x _ => sn ho - (intOf x).toNat)
      case atStart => exact ⟨0, Nat.zero_le _, rfl, rfl, World.grownBy.refl _ _⟩
      case round =>
        obtain ⟨k, hk, rfl, rfl, gk⟩ := hrel
        have gik := gb_trans gi gk
        have hdl := dc_le ho pa ph pb i k
        by_cases hkl : k < sn ho
        · have hkl' : (k : Int) < (sn ho : Int) := by omega
          obtain ⟨⟨x1b, x2b⟩, hy⟩ := hbd k hkl
          obtain ⟨cx, cy⟩ := hP.kept (r := none) gik (by simp) k hkl
          have BWk := BWU.kept gik (by simp)
          have wc0 := BWk.cell 0 (v := .int .i64 ((m : Nat) : Int)) rfl
          have wc1 := BWk.cell 1 (v := .slice sa n ca) rfl
          have wc2 := BWk.cell 2 (v := .int .i64 ((m : Nat) : Int)) rfl
          have wc3 := BWk.cell 3 (v := .slice sh n ch) rfl
          have wc4 := BWk.cell 4 (v := .int .i64 ((m : Nat) : Int)) rfl
          have wc5 := BWk.cell 5 (v := .slice sb n cb) rfl
          have hdn : Hid (dc ho pa ph pb i (k + 1) = dc ho pa ph pb i k + if sel pa ph pb (py ho k) ((i : Int) + 1 + px ho k).toNat then 1 else 0) := rfl
          obtain ⟨D, hD⟩ : ∃ D, dc ho pa ph pb i k = D := ⟨_, rfl⟩
          rw [hD] at hdn hdl ⊢
          clear hD
          obtain ⟨X, hX⟩ : ∃ X, px ho k = X := ⟨_, rfl⟩
          obtain ⟨Y, hY⟩ : ∃ Y, py ho k = Y := ⟨_, rfl⟩
          rw [hX] at cx hdn x1b x2b
          rw [hY] at cy hdn hy
          clear hX hY
          have hz0 : 0 ≤ (i : Int) + 1 + X := by omega
          have hz1 : (i : Int) + 1 + X < (m : Int) := by have := HMM.out; omega
          have wak := wa.kept (gb_trans GU gik) (by simp)
          have whk := wh.kept (gb_trans GU gik) (by simp)
          have wbk := wb.kept (gb_trans GU gik) (by simp)
          have ww0 : IntKind.i64.wrap 0 = 0 := by decide
          have ww1 : IntKind.i64.wrap 1 = 1 := by decide
          have ww2 : IntKind.i64.wrap 2 = 2 := by decide
          have ww3 : IntKind.i64.wrap ((-1 : Int) + 1) = 0 := by decide
          have ww4 : IntKind.i64.wrap ((0 : Int) + 1) = 1 := by decide
          have ww5 : IntKind.i64.wrap ((1 : Int) + 1) = 2 := by decide
          have ww6 : IntKind.i64.wrap ((i : Int) + 1) = (i : Int) + 1 := by rw [IntKind.wrap_i64]; omega
          have ww7 : IntKind.i64.wrap ((i : Int) + 1 + X) = (i : Int) + 1 + X := by rw [IntKind.wrap_i64]; omega
          rcases hy with rfl | rfl | rfl
          · have hget := rga ((i : Int) + 1 + X) hz0 hz1 wr.drew wak
            have hse : sel pa ph pb (-1) = pa := by simp [sel]
            rw [hse] at hdn
            obtain ⟨B, hB⟩ : ∃ B, pa ((i : Int) + 1 + X).toNat = B := ⟨_, rfl⟩
            rw [hB] at hget hdn
            clear hB hse
            cases B with
            | true =>
              go_wp2
              go_region_held2 (fun w' => w'.cell? ⟨g, k * 2, none⟩ = some (.int .i64 X) ∧ w'.cell? ⟨g, k * 2 + 1, none⟩ = some (.int .i64 (-1)) ∧ w'.cell? ⟨V.heap.size, 0, none⟩ = some (.int .i64 ((m : Nat) : Int)) ∧ w'.cell? ⟨V.heap.size, 1, none⟩ = some (.slice sa n ca) ∧ w'.cell? ⟨V.heap.size, 2, none⟩ = some (.int .i64 ((m : Nat) : Int)) ∧ w'.cell? ⟨V.heap.size, 3, none⟩ = some (.slice sh n ch) ∧ w'.cell? ⟨V.heap.size, 4, none⟩ = some (.int .i64 ((m : Nat) : Int)) ∧ w'.cell? ⟨V.heap.size, 5, none⟩ = some (.slice sb n cb)) (go_keep) (first | (go_at_call 12; refine hget.mono ?_; rintro e X1 ⟨rfl, gX⟩; have BWx := BWk.kept (gb_trans (gb_drew (World.grownBy.refl _ _)) gX) (by simp); have z0 := BWx.cell 0 (v := .int .i64 ((m : Nat) : Int)) rfl; have z1 := BWx.cell 1 (v := .slice sa n ca) rfl; have z2 := BWx.cell 2 (v := .int .i64 ((m : Nat) : Int)) rfl; have z3 := BWx.cell 3 (v := .slice sh n ch) rfl; have z4 := BWx.cell 4 (v := .int .i64 ((m : Nat) : Int)) rfl; have z5 := BWx.cell 5 (v := .slice sb n cb) rfl; have cxx := gX.cell (a := ⟨g, k * 2, none⟩) cx (by simp); have cyx := gX.cell (a := ⟨g, k * 2 + 1, none⟩) cy (by simp)))
              all_goals go_wp2
              all_goals exact ⟨⟨k + 1, by omega, by go_num, by rw [hdn.out]; simp, gb_trans gk (gb_trans (gb_drew (World.grownBy.refl _ _)) gX)⟩, by simp [intOf]; omega⟩
            | false =>
              go_wp2
              go_region_held2 (fun w' => w'.cell? ⟨g, k * 2, none⟩ = some (.int .i64 X) ∧ w'.cell? ⟨g, k * 2 + 1, none⟩ = some (.int .i64 (-1)) ∧ w'.cell? ⟨V.heap.size, 0, none⟩ = some (.int .i64 ((m : Nat) : Int)) ∧ w'.cell? ⟨V.heap.size, 1, none⟩ = some (.slice sa n ca) ∧ w'.cell? ⟨V.heap.size, 2, none⟩ = some (.int .i64 ((m : Nat) : Int)) ∧ w'.cell? ⟨V.heap.size, 3, none⟩ = some (.slice sh n ch) ∧ w'.cell? ⟨V.heap.size, 4, none⟩ = some (.int .i64 ((m : Nat) : Int)) ∧ w'.cell? ⟨V.heap.size, 5, none⟩ = some (.slice sb n cb)) (go_keep) (first | (go_at_call 12; refine hget.mono ?_; rintro e X1 ⟨rfl, gX⟩; have BWx := BWk.kept (gb_trans (gb_drew (World.grownBy.refl _ _)) gX) (by simp); have z0 := BWx.cell 0 (v := .int .i64 ((m : Nat) : Int)) rfl; have z1 := BWx.cell 1 (v := .slice sa n ca) rfl; have z2 := BWx.cell 2 (v := .int .i64 ((m : Nat) : Int)) rfl; have z3 := BWx.cell 3 (v := .slice sh n ch) rfl; have z4 := BWx.cell 4 (v := .int .i64 ((m : Nat) : Int)) rfl; have z5 := BWx.cell 5 (v := .slice sb n cb) rfl; have cxx := gX.cell (a := ⟨g, k * 2, none⟩) cx (by simp); have cyx := gX.cell (a := ⟨g, k * 2 + 1, none⟩) cy (by simp)))
              all_goals go_wp2
              all_goals exact ⟨⟨k + 1, by omega, by go_num, by rw [hdn.out]; simp, gb_trans gk (gb_trans (gb_drew (World.grownBy.refl _ _)) gX)⟩, by simp [intOf]; omega⟩
          · have hget := rgh ((i : Int) + 1 + X) hz0 hz1 wr.drew whk
            have hse : sel pa ph pb (0) = ph := by simp [sel]
            rw [hse] at hdn
            obtain ⟨B, hB⟩ : ∃ B, ph ((i : Int) + 1 + X).toNat = B := ⟨_, rfl⟩
            rw [hB] at hget hdn
            clear hB hse
            cases B with
            | true =>
              go_wp2
              go_region_held2 (fun w' => w'.cell? ⟨g, k * 2, none⟩ = some (.int .i64 X) ∧ w'.cell? ⟨g, k * 2 + 1, none⟩ = some (.int .i64 (0)) ∧ w'.cell? ⟨V.heap.size, 0, none⟩ = some (.int .i64 ((m : Nat) : Int)) ∧ w'.cell? ⟨V.heap.size, 1, none⟩ = some (.slice sa n ca) ∧ w'.cell? ⟨V.heap.size, 2, none⟩ = some (.int .i64 ((m : Nat) : Int)) ∧ w'.cell? ⟨V.heap.size, 3, none⟩ = some (.slice sh n ch) ∧ w'.cell? ⟨V.heap.size, 4, none⟩ = some (.int .i64 ((m : Nat) : Int)) ∧ w'.cell? ⟨V.heap.size, 5, none⟩ = some (.slice sb n cb)) (go_keep) (first | (go_at_call 12; refine hget.mono ?_; rintro e X1 ⟨rfl, gX⟩; have BWx := BWk.kept (gb_trans (gb_drew (World.grownBy.refl _ _)) gX) (by simp); have z0 := BWx.cell 0 (v := .int .i64 ((m : Nat) : Int)) rfl; have z1 := BWx.cell 1 (v := .slice sa n ca) rfl; have z2 := BWx.cell 2 (v := .int .i64 ((m : Nat) : Int)) rfl; have z3 := BWx.cell 3 (v := .slice sh n ch) rfl; have z4 := BWx.cell 4 (v := .int .i64 ((m : Nat) : Int)) rfl; have z5 := BWx.cell 5 (v := .slice sb n cb) rfl; have cxx := gX.cell (a := ⟨g, k * 2, none⟩) cx (by simp); have cyx := gX.cell (a := ⟨g, k * 2 + 1, none⟩) cy (by simp)))
              all_goals go_wp2
              all_goals exact ⟨⟨k + 1, by omega, by go_num, by rw [hdn.out]; simp, gb_trans gk (gb_trans (gb_drew (World.grownBy.refl _ _)) gX)⟩, by simp [intOf]; omega⟩
            | false =>
              go_wp2
              go_region_held2 (fun w' => w'.cell? ⟨g, k * 2, none⟩ = some (.int .i64 X) ∧ w'.cell? ⟨g, k * 2 + 1, none⟩ = some (.int .i64 (0)) ∧ w'.cell? ⟨V.heap.size, 0, none⟩ = some (.int .i64 ((m : Nat) : Int)) ∧ w'.cell? ⟨V.heap.size, 1, none⟩ = some (.slice sa n ca) ∧ w'.cell? ⟨V.heap.size, 2, none⟩ = some (.int .i64 ((m : Nat) : Int)) ∧ w'.cell? ⟨V.heap.size, 3, none⟩ = some (.slice sh n ch) ∧ w'.cell? ⟨V.heap.size, 4, none⟩ = some (.int .i64 ((m : Nat) : Int)) ∧ w'.cell? ⟨V.heap.size, 5, none⟩ = some (.slice sb n cb)) (go_keep) (first | (go_at_call 12; refine hget.mono ?_; rintro e X1 ⟨rfl, gX⟩; have BWx := BWk.kept (gb_trans (gb_drew (World.grownBy.refl _ _)) gX) (by simp); have z0 := BWx.cell 0 (v := .int .i64 ((m : Nat) : Int)) rfl; have z1 := BWx.cell 1 (v := .slice sa n ca) rfl; have z2 := BWx.cell 2 (v := .int .i64 ((m : Nat) : Int)) rfl; have z3 := BWx.cell 3 (v := .slice sh n ch) rfl; have z4 := BWx.cell 4 (v := .int .i64 ((m : Nat) : Int)) rfl; have z5 := BWx.cell 5 (v := .slice sb n cb) rfl; have cxx := gX.cell (a := ⟨g, k * 2, none⟩) cx (by simp); have cyx := gX.cell (a := ⟨g, k * 2 + 1, none⟩) cy (by simp)))
              all_goals go_wp2
              all_goals exact ⟨⟨k + 1, by omega, by go_num, by rw [hdn.out]; simp, gb_trans gk (gb_trans (gb_drew (World.grownBy.refl _ _)) gX)⟩, by simp [intOf]; omega⟩
          · have hget := rgb ((i : Int) + 1 + X) hz0 hz1 wr.drew wbk
            have hse : sel pa ph pb (1) = pb := by simp [sel]
            rw [hse] at hdn
            obtain ⟨B, hB⟩ : ∃ B, pb ((i : Int) + 1 + X).toNat = B := ⟨_, rfl⟩
            rw [hB] at hget hdn
            clear hB hse
            cases B with
            | true =>
              go_wp2
              go_region_held2 (fun w' => w'.cell? ⟨g, k * 2, none⟩ = some (.int .i64 X) ∧ w'.cell? ⟨g, k * 2 + 1, none⟩ = some (.int .i64 (1)) ∧ w'.cell? ⟨V.heap.size, 0, none⟩ = some (.int .i64 ((m : Nat) : Int)) ∧ w'.cell? ⟨V.heap.size, 1, none⟩ = some (.slice sa n ca) ∧ w'.cell? ⟨V.heap.size, 2, none⟩ = some (.int .i64 ((m : Nat) : Int)) ∧ w'.cell? ⟨V.heap.size, 3, none⟩ = some (.slice sh n ch) ∧ w'.cell? ⟨V.heap.size, 4, none⟩ = some (.int .i64 ((m : Nat) : Int)) ∧ w'.cell? ⟨V.heap.size, 5, none⟩ = some (.slice sb n cb)) (go_keep) (first | (go_at_call 12; refine hget.mono ?_; rintro e X1 ⟨rfl, gX⟩; have BWx := BWk.kept (gb_trans (gb_drew (World.grownBy.refl _ _)) gX) (by simp); have z0 := BWx.cell 0 (v := .int .i64 ((m : Nat) : Int)) rfl; have z1 := BWx.cell 1 (v := .slice sa n ca) rfl; have z2 := BWx.cell 2 (v := .int .i64 ((m : Nat) : Int)) rfl; have z3 := BWx.cell 3 (v := .slice sh n ch) rfl; have z4 := BWx.cell 4 (v := .int .i64 ((m : Nat) : Int)) rfl; have z5 := BWx.cell 5 (v := .slice sb n cb) rfl; have cxx := gX.cell (a := ⟨g, k * 2, none⟩) cx (by simp); have cyx := gX.cell (a := ⟨g, k * 2 + 1, none⟩) cy (by simp)))
              all_goals go_wp2
              all_goals exact ⟨⟨k + 1, by omega, by go_num, by rw [hdn.out]; simp, gb_trans gk (gb_trans (gb_drew (World.grownBy.refl _ _)) gX)⟩, by simp [intOf]; omega⟩
            | false =>
              go_wp2
              go_region_held2 (fun w' => w'.cell? ⟨g, k * 2, none⟩ = some (.int .i64 X) ∧ w'.cell? ⟨g, k * 2 + 1, none⟩ = some (.int .i64 (1)) ∧ w'.cell? ⟨V.heap.size, 0, none⟩ = some (.int .i64 ((m : Nat) : Int)) ∧ w'.cell? ⟨V.heap.size, 1, none⟩ = some (.slice sa n ca) ∧ w'.cell? ⟨V.heap.size, 2, none⟩ = some (.int .i64 ((m : Nat) : Int)) ∧ w'.cell? ⟨V.heap.size, 3, none⟩ = some (.slice sh n ch) ∧ w'.cell? ⟨V.heap.size, 4, none⟩ = some (.int .i64 ((m : Nat) : Int)) ∧ w'.cell? ⟨V.heap.size, 5, none⟩ = some (.slice sb n cb)) (go_keep) (first | (go_at_call 12; refine hget.mono ?_; rintro e X1 ⟨rfl, gX⟩; have BWx := BWk.kept (gb_trans (gb_drew (World.grownBy.refl _ _)) gX) (by simp); have z0 := BWx.cell 0 (v := .int .i64 ((m : Nat) : Int)) rfl; have z1 := BWx.cell 1 (v := .slice sa n ca) rfl; have z2 := BWx.cell 2 (v := .int .i64 ((m : Nat) : Int)) rfl; have z3 := BWx.cell 3 (v := .slice sh n ch) rfl; have z4 := BWx.cell 4 (v := .int .i64 ((m : Nat) : Int)) rfl; have z5 := BWx.cell 5 (v := .slice sb n cb) rfl; have cxx := gX.cell (a := ⟨g, k * 2, none⟩) cx (by simp); have cyx := gX.cell (a := ⟨g, k * 2 + 1, none⟩) cy (by simp)))
              all_goals go_wp2
              all_goals exact ⟨⟨k + 1, by omega, by go_num, by rw [hdn.out]; simp, gb_trans gk (gb_trans (gb_drew (World.grownBy.refl _ _)) gX)⟩, by simp [intOf]; omega⟩
        · have hkl' : ¬ (k : Int) < (sn ho : Int) := by omega
          obtain rfl : k = sn ho := by omega
          have hD := hdi i hlt
          have hL := hli i hlt
          rw [← hD] at hL
          clear hD
          have hmo : Lf.mo ho = sn ho := mo_sn ho h1 ho3
          obtain ⟨D, hDD⟩ : ∃ D, dc ho pa ph pb i (sn ho) = D := ⟨_, rfl⟩
          rw [hDD] at hdl hL ⊢
          clear hDD
          obtain ⟨R, hR⟩ : ∃ R, ln ho bo st pa ph pb m2 i = R := ⟨_, rfl⟩
          have HR : Hid (ln ho bo st pa ph pb m2 i = R) := hR
          rw [hR] at hL
          clear hR
          have Bhk := Bhi.kept gk (by simp)
          have hk0 := Bhk.cell0
          have hk1 := Bhk.cell1
          have hget := rgh ((i : Int) + 1) (by omega) (by have := HMM.out; omega) wr (wh.kept (gb_trans GU gik) (by simp))
          have e1 : ((i : Int) + 1).toNat = i + 1 := by omega
          rw [e1] at hget
          have ww6 : IntKind.i64.wrap ((i : Int) + 1) = (i : Int) + 1 := by rw [IntKind.wrap_i64]; omega
          obtain ⟨B, hB⟩ : ∃ B, ph (i + 1) = B := ⟨_, rfl⟩
          rw [hB] at hget hL
          clear hB
          have Blk := BlU.kept gik (by simp)
          have HL : Hid _ := hL
          clear hL
          have hownk := hown.kept gk (Classical.em _)
          cases B with
          | true =>
            have hnv : Lf.nxV ho bo st 1 ((D : Nat) : Int) = if R then 1 else 0 := by
              have := HL.out
              rw [nv_is ho bo st 1 D hc (by decide) (by omega)]
              simp at this ⊢
              rw [← this]
            have hnn := fun w => hnx 1 ((D : Nat) : Int) w
            rw [hnv] at hnn
            clear hnv
            generalize Lf.nxE ho bo st 1 ((D : Nat) : Int) = NE at hnn
            cases R with
            | true =>
              have hnm : ∀ w, Calls Tryd.prog 13 #[.agg #[.int .u8 (ho : Nat), .int .u16 (bo : Nat), .int .u16 (st : Nat)], .int .u8 1, .int .i64 (D : Nat)] w fun e w' => e = .returned (.tuple #[.int .u8 1, .int .i64 (NE : Nat)]) ∧ w.grownBy w' none := hnn
              clear hnn
              go_wp2_with (first | (go_at_call 12; refine hget.mono ?_; rintro e X1 ⟨rfl, gX⟩; have Blx := Blk.kept gX (by simp); have lx0 := Blx.cell 0 (v := .int .u8 (ho : Nat)) rfl; have lx1 := Blx.cell 1 (v := .int .u16 (bo : Nat)) rfl; have lx2 := Blx.cell 2 (v := .int .u16 (st : Nat)) rfl) | (go_at_call 13; refine (hnm X1).mono ?_; rintro e X2 ⟨rfl, gX2⟩; obtain ⟨W8, hW8⟩ : ∃ W8, X2.alloc (.cells #[.bool true] 4) = W8 := ⟨_, rfl⟩; have g8 : X2.grownBy W8 none := (by rw [← hW8]; exact World.grownBy_alloc _ _ _); have hN8 : ∀ j u, [Value.bool true][j]? = some u → W8.cell? ((⟨X2.heap.size, 0, none⟩ : Addr).add j) = some u := (by rw [← hW8]; exact World.news_of_block (cs := #[Value.bool true]) (heap_alloc_new X2 _)); have ho8 := hownk.kept (gb_trans gX (gb_trans gX2 g8)) (Classical.em _); have z8 := (gb_trans gX (gb_trans gX2 g8)).size; have zk8 := gk.size) | (at_builtin; refine wpList_append_own _ rfl _ _ 41 rfl U.heap.size 4 ib (.bool false) 1 1 underBS HB.out.1 HB.out.2.1 HB.out.2.2.1 HB.out.2.2.2 rfl (by decide) _ _ _ rfl ho8 ⟨X2.heap.size, 0, none⟩ 1 1 [.bool true] rfl rfl hN8 (by intro u hu; simp at hu; subst hu; rfl) (by unfold maxLen; omega) (by omega) (by omega) ?_; intro v5 w5 hown5 hgrow5 hnil5))
              refine ⟨⟨i + 1, hlt, by go_num, ?_, gb_row (gb_trans gik (gb_trans gX (gb_trans gX2 g8))) hgrow5 (fun i e => (hown.lt i e).1)⟩, by simp [intOf]; omega⟩
              rw [List.range_succ, List.map_append]
              rw [show ([i].map fun t => Value.bool (ln ho bo st pa ph pb m2 t)) = [Value.bool true] by simp [HR.out]]
              exact hown5
            | false =>
              have hnm : ∀ w, Calls Tryd.prog 13 #[.agg #[.int .u8 (ho : Nat), .int .u16 (bo : Nat), .int .u16 (st : Nat)], .int .u8 1, .int .i64 (D : Nat)] w fun e w' => e = .returned (.tuple #[.int .u8 0, .int .i64 (NE : Nat)]) ∧ w.grownBy w' none := hnn
              clear hnn
              go_wp2_with (first | (go_at_call 12; refine hget.mono ?_; rintro e X1 ⟨rfl, gX⟩; have Blx := Blk.kept gX (by simp); have lx0 := Blx.cell 0 (v := .int .u8 (ho : Nat)) rfl; have lx1 := Blx.cell 1 (v := .int .u16 (bo : Nat)) rfl; have lx2 := Blx.cell 2 (v := .int .u16 (st : Nat)) rfl) | (go_at_call 13; refine (hnm X1).mono ?_; rintro e X2 ⟨rfl, gX2⟩; obtain ⟨W8, hW8⟩ : ∃ W8, X2.alloc (.cells #[.bool false] 4) = W8 := ⟨_, rfl⟩; have g8 : X2.grownBy W8 none := (by rw [← hW8]; exact World.grownBy_alloc _ _ _); have hN8 : ∀ j u, [Value.bool false][j]? = some u → W8.cell? ((⟨X2.heap.size, 0, none⟩ : Addr).add j) = some u := (by rw [← hW8]; exact World.news_of_block (cs := #[Value.bool false]) (heap_alloc_new X2 _)); have ho8 := hownk.kept (gb_trans gX (gb_trans gX2 g8)) (Classical.em _); have z8 := (gb_trans gX (gb_trans gX2 g8)).size; have zk8 := gk.size) | (at_builtin; refine wpList_append_own _ rfl _ _ 41 rfl U.heap.size 4 ib (.bool false) 1 1 underBS HB.out.1 HB.out.2.1 HB.out.2.2.1 HB.out.2.2.2 rfl (by decide) _ _ _ rfl ho8 ⟨X2.heap.size, 0, none⟩ 1 1 [.bool false] rfl rfl hN8 (by intro u hu; simp at hu; subst hu; rfl) (by unfold maxLen; omega) (by omega) (by omega) ?_; intro v5 w5 hown5 hgrow5 hnil5))
              refine ⟨⟨i + 1, hlt, by go_num, ?_, gb_row (gb_trans gik (gb_trans gX (gb_trans gX2 g8))) hgrow5 (fun i e => (hown.lt i e).1)⟩, by simp [intOf]; omega⟩
              rw [List.range_succ, List.map_append]
              rw [show ([i].map fun t => Value.bool (ln ho bo st pa ph pb m2 t)) = [Value.bool false] by simp [HR.out]]
              exact hown5
          | false =>
            have hnv : Lf.nxV ho bo st 0 ((D : Nat) : Int) = if R then 1 else 0 := by
              have := HL.out
              rw [nv_is ho bo st 0 D hc (by decide) (by omega)]
              simp at this ⊢
              rw [← this]
            have hnn := fun w => hnx 0 ((D : Nat) : Int) w
            rw [hnv] at hnn
            clear hnv
            generalize Lf.nxE ho bo st 0 ((D : Nat) : Int) = NE at hnn
            cases R with
            | true =>
              have hnm : ∀ w, Calls Tryd.prog 13 #[.agg #[.int .u8 (ho : Nat), .int .u16 (bo : Nat), .int .u16 (st : Nat)], .int .u8 0, .int .i64 (D : Nat)] w fun e w' => e = .returned (.tuple #[.int .u8 1, .int .i64 (NE : Nat)]) ∧ w.grownBy w' none := hnn
              clear hnn
              go_wp2_with (first | (go_at_call 12; refine hget.mono ?_; rintro e X1 ⟨rfl, gX⟩; have Blx := Blk.kept gX (by simp); have lx0 := Blx.cell 0 (v := .int .u8 (ho : Nat)) rfl; have lx1 := Blx.cell 1 (v := .int .u16 (bo : Nat)) rfl; have lx2 := Blx.cell 2 (v := .int .u16 (st : Nat)) rfl) | (go_at_call 13; refine (hnm X1).mono ?_; rintro e X2 ⟨rfl, gX2⟩; obtain ⟨W8, hW8⟩ : ∃ W8, X2.alloc (.cells #[.bool true] 4) = W8 := ⟨_, rfl⟩; have g8 : X2.grownBy W8 none := (by rw [← hW8]; exact World.grownBy_alloc _ _ _); have hN8 : ∀ j u, [Value.bool true][j]? = some u → W8.cell? ((⟨X2.heap.size, 0, none⟩ : Addr).add j) = some u := (by rw [← hW8]; exact World.news_of_block (cs := #[Value.bool true]) (heap_alloc_new X2 _)); have ho8 := hownk.kept (gb_trans gX (gb_trans gX2 g8)) (Classical.em _); have z8 := (gb_trans gX (gb_trans gX2 g8)).size; have zk8 := gk.size) | (at_builtin; refine wpList_append_own _ rfl _ _ 41 rfl U.heap.size 4 ib (.bool false) 1 1 underBS HB.out.1 HB.out.2.1 HB.out.2.2.1 HB.out.2.2.2 rfl (by decide) _ _ _ rfl ho8 ⟨X2.heap.size, 0, none⟩ 1 1 [.bool true] rfl rfl hN8 (by intro u hu; simp at hu; subst hu; rfl) (by unfold maxLen; omega) (by omega) (by omega) ?_; intro v5 w5 hown5 hgrow5 hnil5))
              refine ⟨⟨i + 1, hlt, by go_num, ?_, gb_row (gb_trans gik (gb_trans gX (gb_trans gX2 g8))) hgrow5 (fun i e => (hown.lt i e).1)⟩, by simp [intOf]; omega⟩
              rw [List.range_succ, List.map_append]
              rw [show ([i].map fun t => Value.bool (ln ho bo st pa ph pb m2 t)) = [Value.bool true] by simp [HR.out]]
              exact hown5
            | false =>
              have hnm : ∀ w, Calls Tryd.prog 13 #[.agg #[.int .u8 (ho : Nat), .int .u16 (bo : Nat), .int .u16 (st : Nat)], .int .u8 0, .int .i64 (D : Nat)] w fun e w' => e = .returned (.tuple #[.int .u8 0, .int .i64 (NE : Nat)]) ∧ w.grownBy w' none := hnn
              clear hnn
              go_wp2_with (first | (go_at_call 12; refine hget.mono ?_; rintro e X1 ⟨rfl, gX⟩; have Blx := Blk.kept gX (by simp); have lx0 := Blx.cell 0 (v := .int .u8 (ho : Nat)) rfl; have lx1 := Blx.cell 1 (v := .int .u16 (bo : Nat)) rfl; have lx2 := Blx.cell 2 (v := .int .u16 (st : Nat)) rfl) | (go_at_call 13; refine (hnm X1).mono ?_; rintro e X2 ⟨rfl, gX2⟩; obtain ⟨W8, hW8⟩ : ∃ W8, X2.alloc (.cells #[.bool false] 4) = W8 := ⟨_, rfl⟩; have g8 : X2.grownBy W8 none := (by rw [← hW8]; exact World.grownBy_alloc _ _ _); have hN8 : ∀ j u, [Value.bool false][j]? = some u → W8.cell? ((⟨X2.heap.size, 0, none⟩ : Addr).add j) = some u := (by rw [← hW8]; exact World.news_of_block (cs := #[Value.bool false]) (heap_alloc_new X2 _)); have ho8 := hownk.kept (gb_trans gX (gb_trans gX2 g8)) (Classical.em _); have z8 := (gb_trans gX (gb_trans gX2 g8)).size; have zk8 := gk.size) | (at_builtin; refine wpList_append_own _ rfl _ _ 41 rfl U.heap.size 4 ib (.bool false) 1 1 underBS HB.out.1 HB.out.2.1 HB.out.2.2.1 HB.out.2.2.2 rfl (by decide) _ _ _ rfl ho8 ⟨X2.heap.size, 0, none⟩ 1 1 [.bool false] rfl rfl hN8 (by intro u hu; simp at hu; subst hu; rfl) (by unfold maxLen; omega) (by omega) (by omega) ?_; intro v5 w5 hown5 hgrow5 hnil5))
              refine ⟨⟨i + 1, hlt, by go_num, ?_, gb_row (gb_trans gik (gb_trans gX (gb_trans gX2 g8))) hgrow5 (fun i e => (hown.lt i e).1)⟩, by simp [intOf]; omega⟩
              rw [List.range_succ, List.map_append]
              rw [show ([i].map fun t => Value.bool (ln ho bo st pa ph pb m2 t)) = [Value.bool false] by simp [HR.out]]
              exact hown5
    · obtain rfl : i = m2 := by omega
      have m1 : 0 < i := by have := HMM.out; omega
      obtain ⟨i1, rfl⟩ : ∃ i1, i = i1 + 1 := ⟨i - 1, by omega⟩
      obtain ⟨b, c, rfl⟩ := ownsRow_succ hown
      obtain ⟨F, hF, hat, hle⟩ := own_rowIs hown
      have hBd : Bd wr (some ⟨b, 0, none⟩) (i1 + 1) (ln ho bo st pa ph pb (i1 + 1)) := fun k hk => ⟨_, rfl, by
        rw [add_mid, Nat.zero_add, hF.cell (by omega), hat k (.bool (ln ho bo st pa ph pb (i1 + 1) k)) (by rw [List.getElem?_map, List.getElem?_range hk]; rfl)]⟩
      have hrow := Wo.refRowC (i1 + 1) c (some ⟨b, 0, none⟩) _ hm2 wr hBd
      rw [HK2.out] at hrow
      have Bri := BrU.kept gi (by simp)
      have hkn : ¬ ((i1 + 1 : Nat) : Int) < ((i1 + 1 : Nat) : Int) := by omega
      go_wp2_with (go_at_call 14; refine hrow.mono ?_; rintro e X ⟨z, rfl, rz, gX, lz⟩; have BrX := Bri.kept gX (by simp); have rr0 := BrX.cell0; have rr1 := BrX.cell1; have rf0 := BrX.free0; have rf1 := BrX.free1)
      obtain ⟨fs, hfs⟩ := Wo.underR
      refine ret_box2 (g := W4.heap.size) (t := 27) rfl hfs Wo.infoR rfl (BrX.set _ _) rfl ?_
      have gF : w.grownBy X none := gb_trans (gb_trans GU gi) gX
      have lW : w.heap.size ≤ W4.heap.size := by have := sz1.out; have := sz2.out; have := sz3.out; have := sz4.out; omega
      have lU : W4.heap.size < U.heap.size := BrU.lt
      have n9 : z ≠ W4.heap.size := by omega
      refine ⟨z, rfl, World.rowIs.setOther (World.rowIs.setOther (rz.congr (fun t ht => ?_)) n9 _) n9 _, gb_new (gb_new gF lW _) lW _, by have := GU.size; omega⟩
      by_cases h9 : t < i1 + 1
      · rw [decide_eq_true h9, Bool.true_and]
      · rw [decide_eq_false h9, Bool.false_and, ln_off _ _ _ _ _ _ _ _ h9]
end Go.Proofs.YtkgipjabkalnaaaDoor.Pd
