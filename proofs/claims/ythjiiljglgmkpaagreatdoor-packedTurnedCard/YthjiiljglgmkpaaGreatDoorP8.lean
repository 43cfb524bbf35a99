/- PackedTurned: the walk. -/
import Derived.Test.YthjiiljglgmkpaaGreatDoorPb
import Derived.Test.YthjiiljglgmkpaaGreatDoorL9
import Derived.Test.YthjiiljglgmkpaaGreatDoorW13
import Derived.Test.YthjiiljglgmkpaaGreatDoorW40
namespace Go.Proofs.YthjiiljglgmkpaaGreatDoor.Pd
open Go.RowKit
set_option linter.unusedVariables false
set_option linter.unusedSimpArgs false
set_option maxRecDepth 100000

theorem cn_neg {P Q : Nat → Nat → Bool} {t : Nat} : ∀ k, (∀ j, j < k → Q j t = !P j t) → Wo.cn Q k t + Wo.cn P k t = k
  | 0, _ => rfl
  | k + 1, h => by
    have ih := cn_neg k (fun j hj => h j (by omega))
    rw [Wo.cn, Wo.cn, h k (by omega)]
    cases P k t <;> simp <;> omega
theorem fr_neg (p : Nat → Bool) (m c t : Nat) (hc : c ≤ 2) (ht : t < m) : fr (Wo.notQ (m + 2) p) m c t = !fr p m c t := by
  unfold fr Wo.notQ
  rw [decide_eq_true ht, decide_eq_true (show t + c < m + 2 by omega), Bool.true_and, Bool.and_true, Bool.and_true]
theorem nb_neg (ho : Nat) (a h b : Nat → Bool) (m t : Nat) (ht : t < m) (j : Nat) : nb ho (Wo.notQ (m + 2) a) (Wo.notQ (m + 2) h) (Wo.notQ (m + 2) b) m j t = !nb ho a h b m j t := by
  unfold nb
  simp only [fr_neg _ _ _ _ (show 0 ≤ 2 by decide) ht, fr_neg _ _ _ _ (show 1 ≤ 2 by decide) ht, fr_neg _ _ _ _ (show 2 ≤ 2 by decide) ht]
  by_cases h1 : ho = 1
  · simp only [if_pos h1]
    repeat' split
    all_goals rfl
  · simp only [if_neg h1]
    by_cases h2 : ho = 2
    · simp only [if_pos h2]
      repeat' split
      all_goals rfl
    · simp only [if_neg h2]
      repeat' split
      all_goals rfl
theorem nn_mo {ho : Nat} (h : 1 ≤ ho ∧ ho ≤ 3) : nn ho = Lf.mo ho := by
  rcases (show ho = 1 ∨ ho = 2 ∨ ho = 3 by omega) with rfl | rfl | rfl <;> rfl
/-- The turned rule of turned rows is the turned row. -/
theorem turn_ln {ho : Nat} (bo st : Nat) (hh : 1 ≤ ho ∧ ho ≤ 3) (pa ph pb : Nat → Bool) (m : Nat) :
    Wo.notQ m (ln ho (Lf.ex st (Lf.mo ho)) (Lf.ex bo (Lf.mo ho)) (Wo.notQ (m + 2) pa) (Wo.notQ (m + 2) ph) (Wo.notQ (m + 2) pb) m) = ln ho bo st pa ph pb m := by
  funext t
  by_cases ht : t < m
  · have hc := cn_neg (P := nb ho pa ph pb m) (Q := nb ho (Wo.notQ (m + 2) pa) (Wo.notQ (m + 2) ph) (Wo.notQ (m + 2) pb) m) (t := t) (nn ho) (fun j _ => nb_neg ho pa ph pb m t ht j)
    have hml := Lf.mo_le ho
    rw [nn_mo hh] at hc
    have hn : Wo.notQ (m + 2) ph (t + 1) = !ph (t + 1) := by
      unfold Wo.notQ
      rw [decide_eq_true (show t + 1 < m + 2 by omega), Bool.true_and]
    unfold Wo.notQ at *
    rw [decide_eq_true ht, Bool.true_and, ln_is _ _ _ _ _ _ _ _ ht, ln_is _ _ _ _ _ _ _ _ ht, nn_mo hh, hn, Lf.ex_bit _ hml, Lf.ex_bit _ hml]
    rw [decide_eq_true (show Wo.cn (nb ho (fun j => decide (j < m + 2) && !pa j) (fun j => decide (j < m + 2) && !ph j) (fun j => decide (j < m + 2) && !pb j) m) (Lf.mo ho) t ≤ Lf.mo ho by omega)]
    rw [show Lf.mo ho - Wo.cn (nb ho (fun j => decide (j < m + 2) && !pa j) (fun j => decide (j < m + 2) && !ph j) (fun j => decide (j < m + 2) && !pb j) m) (Lf.mo ho) t = Wo.cn (nb ho pa ph pb m) (Lf.mo ho) t by omega]
    cases ph (t + 1) <;> simp
  · simp only [Wo.notQ, decide_eq_false ht, Bool.false_and]
    exact (ln_off ho bo st pa ph pb m t ht).symm
theorem ex_up (c : Nat) {m : Nat} (hm : m ≤ 8) : Lf.ex c m < 2 ^ (m + 1) := by
  apply Nat.lt_pow_two_of_testBit
  intro j hj
  rw [Lf.ex_bit c hm]
  have : ¬ j ≤ m := by omega
  simp [this]
theorem ck_turned {ho : Nat} (bo st : Nat) (hh : 1 ≤ ho ∧ ho ≤ 3) : Lf.ck ho (Lf.ex st (Lf.mo ho)) (Lf.ex bo (Lf.mo ho)) = 0 := by
  unfold Lf.ck
  rw [if_pos hh, if_pos ⟨ex_up st (Lf.mo_le ho), ex_up bo (Lf.mo_le ho)⟩]
theorem lineYA (ho bo st m n : Nat) (hh : 1 ≤ ho ∧ ho ≤ 3) (hb : bo < 65536) (hs : st < 65536) (pa ph pb : Nat → Bool) (Ma : MayBe m n pa) (Mh : MayBe m n ph) (Mb : MayBe m n pb) (h3 : 3 ≤ m) (ca ch cb : Nat) (sa sh sb : Option Addr) (w : World) (hv : Hid (Hv w)) (wa : Wd w sa n (Pk.pack pa)) (wh : Wd w sh n (Pk.pack ph)) (wb : Wd w sb n (Pk.pack pb)) (hc : Lf.ck ho bo st = 0) :
    Calls Tryz.prog 9 #[.agg #[.int .u8 (ho : Nat), .int .u16 (bo : Nat), .int .u16 (st : Nat)], .agg #[.int .i64 ((m : Nat) : Int), .slice sa n ca], .agg #[.int .i64 ((m : Nat) : Int), .slice sh n ch], .agg #[.int .i64 ((m : Nat) : Int), .slice sb n cb]] w fun e w' => ∃ z, e = .returned (.tuple #[.agg #[.int .i64 ((m - 2 : Nat) : Int), .slice (some ⟨z, 0, none⟩) ((m - 2 + 63) / 64) ((m - 2 + 63) / 64)], .int .i64 0]) ∧ Row w' 37 z ((m - 2 + 63) / 64) (ln ho bo st pa ph pb (m - 2)) ∧ w.grownBy w' none ∧ w.heap.size ≤ z := by
  rcases (show ho = 1 ∨ ho = 2 ∨ ho = 3 by omega) with rfl | rfl | rfl
  · exact lineY1 bo st m n hb hs pa ph pb Ma Mh Mb h3 ca ch cb sa sh sb w hv wa wh wb hc
  · exact lineY2 bo st m n hb hs pa ph pb Ma Mh Mb h3 ca ch cb sa sh sb w hv wa wh wb hc
  · exact lineY3 bo st m n hb hs pa ph pb Ma Mh Mb h3 ca ch cb sa sh sb w hv wa wh wb hc
theorem not_may {m n : Nat} {p : Nat → Bool} (M : MayBe m n p) : MayBe m n (Wo.notQ m p) := ⟨M.le, M.words, fun i hi => by unfold Wo.notQ; rw [decide_eq_false (by omega)]; rfl⟩
theorem ln_may (ho bo st m : Nat) (hm : m ≤ 65538) (pa ph pb : Nat → Bool) : MayBe m ((m + 63) / 64) (ln ho bo st pa ph pb m) := ⟨hm, rfl, fun i hi => ln_off _ _ _ _ _ _ _ _ (by omega)⟩
set_option maxHeartbeats 4000000 in
/-- Where Line refuses. -/
theorem turnedN (ho bo st : Nat) (hh : ho < 256) (hb : bo < 65536) (hs : st < 65536) (Na : Int) (na ca : Nat) (sa : Option Addr) (fa : Nat → Nat) (hfa : ∀ k, k < na → fa k < 18446744073709551616) (hna : na ≤ 9223372036854775807) (Nh : Int) (nh ch : Nat) (sh : Option Addr) (fh : Nat → Nat) (hfh : ∀ k, k < nh → fh k < 18446744073709551616) (hnh : nh ≤ 9223372036854775807) (Nb : Int) (nb cb : Nat) (sb : Option Addr) (fb : Nat → Nat) (hfb : ∀ k, k < nb → fb k < 18446744073709551616) (hnb : nb ≤ 9223372036854775807) (w : World) (hv : Hid (Hv w)) (hT : Wo.Tab64 w) (wa : Wd w sa na fa) (wh : Wd w sh nh fh) (wb : Wd w sb nb fb) (hE : ¬ aE ho bo st Na Nh Nb na nh nb fa fh fb = 0) :
    Calls Tryz.prog 7 #[.agg #[.int .u8 (ho : Nat), .int .u16 (bo : Nat), .int .u16 (st : Nat)], .agg #[.int .i64 Na, .slice sa na ca], .agg #[.int .i64 Nh, .slice sh nh ch], .agg #[.int .i64 Nb, .slice sb nb cb]] w fun e w' => e = .returned (.bool true) ∧ Below w.heap.size w w' := by
  obtain ⟨W1, hW1, sz1, g1, B1⟩ := boxn w #[.int .u8 (ho : Nat), .int .u16 (bo : Nat), .int .u16 (st : Nat)] 28
  obtain ⟨W2, hW2, a0, a1, sz2, g2, B2⟩ := box2 W1 (.int .i64 Na) (.slice sa na ca) 33
  obtain ⟨W3, hW3, h0, h1, sz3, g3, B3⟩ := box2 W2 (.int .i64 Nh) (.slice sh nh ch) 33
  obtain ⟨W4, hW4, b0, b1, sz4, g4, B4⟩ := box2 W3 (.int .i64 Nb) (.slice sb nb cb) 33
  have G4 : w.grownBy W4 none := gb_trans g1 (gb_trans g2 (gb_trans g3 g4))
  have P1 := B1.kept (gb_trans g2 (gb_trans g3 g4)) (by simp)
  have P2 := B2.kept (gb_trans g3 g4) (by simp)
  have P3 := B3.kept g4 (by simp)
  have tlt : 1 < w.heap.size := cell_lt (hT 0 (by decide))
  have kA := aliveC W4 (hvK hv G4) (hT.below (gb_below G4) tlt)
  have kL := fun V (gV : W4.grownBy V none) => lineN ho bo st hh hb hs Na na ca sa fa hfa hna Nh nh ch sh fh hfh hnh Nb nb cb sb fb hfb hnb V (hvK hv (gb_trans G4 gV)) (wa.kept (gb_trans G4 gV) (by simp)) (wh.kept (gb_trans G4 gV) (by simp)) (wb.kept (gb_trans G4 gV) (by simp)) hE
  change ¬ lE _ _ _ _ _ _ _ = 0 at hE
  generalize lE (Lf.ck ho bo st) (Wo.validB Na na fa) (Wo.validB Nh nh fh) (Wo.validB Nb nb fb) Na Nh Nb = E at kL hE
  have hE1 : ((E : Nat) : Int) ≠ 0 := by omega
  have hE2 : (((E : Nat) : Int) != 0) = true := by simpa using hE1
  clear wa wh wb hT
  go_enter Tryz.func7, Tryz.ntmps7
  go_wp2_with (first | (go_at_call 11; refine kA.mono ?_; rintro e V5 ⟨rfl, g5⟩; clear kA; have L5 := P1.kept g5 (by simp); have A5 := P2.kept g5 (by simp); have H5 := P3.kept g5 (by simp); have D5 := B4.kept g5 (by simp); have l0 := L5.cell 0 (v := .int .u8 (ho : Nat)) rfl; have l1 := L5.cell 1 (v := .int .u16 (bo : Nat)) rfl; have l2 := L5.cell 2 (v := .int .u16 (st : Nat)) rfl; have x0 := A5.cell0; have x1 := A5.cell1; have y0 := H5.cell0; have y1 := H5.cell1; have z0 := D5.cell0; have z1 := D5.cell1; have kL5 := kL V5 g5) | (go_at_call 9; refine kL5.mono ?_; rintro e V6 ⟨rfl, g6⟩; clear kL5; obtain ⟨W7, hW7, k0, k1, sz7, g7, B7⟩ := box2 V6 (.int .i64 0) (.slice none 0 0) 33; have n0 := Bo.same B7 0 (v := .int .i64 0) rfl; have n1 := Bo.same B7 1 (v := .slice none 0 0) rfl; have f70 := B7.free0; have f71 := B7.free1))
  go_ret
  exact ⟨rfl, gb_below (gb_trans G4 (gb_trans g5 (gb_trans g6 g7)))⟩
set_option maxHeartbeats 8000000 in
/-- Where Line answers. -/
theorem turnedY (ho bo st : Nat) (hh : 1 ≤ ho ∧ ho ≤ 3) (hb : bo < 65536) (hs : st < 65536) (hc : Lf.ck ho bo st = 0) (m mm n ca ch cb : Nat) (hmm : mm = m + 2) (sa sh sb : Option Addr) (pa ph pb : Nat → Bool) (Ma : MayBe mm n pa) (Mh : MayBe mm n ph) (Mb : MayBe mm n pb) (h1m : 1 ≤ m) (w : World) (hv : Hid (Hv w)) (hT : Wo.Tab64 w) (wa : Wd w sa n (Pk.pack pa)) (wh : Wd w sh n (Pk.pack ph)) (wb : Wd w sb n (Pk.pack pb)) :
    Calls Tryz.prog 7 #[.agg #[.int .u8 (ho : Nat), .int .u16 (bo : Nat), .int .u16 (st : Nat)], .agg #[.int .i64 (mm : Nat), .slice sa n ca], .agg #[.int .i64 (mm : Nat), .slice sh n ch], .agg #[.int .i64 (mm : Nat), .slice sb n cb]] w fun e w' => e = .returned (.bool true) ∧ Below w.heap.size w w' := by
  obtain ⟨W1, hW1, sz1, g1, B1⟩ := boxn w #[.int .u8 (ho : Nat), .int .u16 (bo : Nat), .int .u16 (st : Nat)] 28
  obtain ⟨W2, hW2, a0, a1, sz2, g2, B2⟩ := box2 W1 (.int .i64 (mm : Nat)) (.slice sa n ca) 33
  obtain ⟨W3, hW3, h0, h1, sz3, g3, B3⟩ := box2 W2 (.int .i64 (mm : Nat)) (.slice sh n ch) 33
  obtain ⟨W4, hW4, b0, b1, sz4, g4, B4⟩ := box2 W3 (.int .i64 (mm : Nat)) (.slice sb n cb) 33
  have G4 : w.grownBy W4 none := gb_trans g1 (gb_trans g2 (gb_trans g3 g4))
  have P1 := B1.kept (gb_trans g2 (gb_trans g3 g4)) (by simp)
  have P2 := B2.kept (gb_trans g3 g4) (by simp)
  have P3 := B3.kept g4 (by simp)
  have tlt : 1 < w.heap.size := cell_lt (hT 0 (by decide))
  have kA := aliveC W4 (hvK hv G4) (hT.below (gb_below G4) tlt)
  have hml := Lf.mo_le ho
  have hm2 : mm ≤ 65538 := Ma.le
  have kL1 := fun V (gV : W4.grownBy V none) => lineYA ho bo st mm n hh hb hs pa ph pb Ma Mh Mb (by omega) ca ch cb sa sh sb V (hvK hv (gb_trans G4 gV)) (wa.kept (gb_trans G4 gV) (by simp)) (wh.kept (gb_trans G4 gV) (by simp)) (wb.kept (gb_trans G4 gV) (by simp)) hc
  have kT := fun V (gV : W4.grownBy V none) => turnedFine ho bo st (by omega) hb hs V (hvK hv (gb_trans G4 gV)) hc
  have kNa := fun V (gV : W4.grownBy V none) => Wo.notC mm n ca sa pa Ma V (wa.kept (gb_trans G4 gV) (by simp))
  have kNh := fun V (gV : W4.grownBy V none) => Wo.notC mm n ch sh ph Mh V (wh.kept (gb_trans G4 gV) (by simp))
  have kNb := fun V (gV : W4.grownBy V none) => Wo.notC mm n cb sb pb Mb V (wb.kept (gb_trans G4 gV) (by simp))
  have kL2 := fun za zh zb V (gV : W4.grownBy V none) (ra : Row V 37 za n (Wo.notQ mm pa)) (rh : Row V 37 zh n (Wo.notQ mm ph)) (rb : Row V 37 zb n (Wo.notQ mm pb)) => lineYA ho (Lf.ex st (Lf.mo ho)) (Lf.ex bo (Lf.mo ho)) mm n hh (Lf.ex_lt st hml) (Lf.ex_lt bo hml) _ _ _ (not_may Ma) (not_may Mh) (not_may Mb) (by omega) n n n (some ⟨za, 0, none⟩) (some ⟨zh, 0, none⟩) (some ⟨zb, 0, none⟩) V (hvK hv (gb_trans G4 gV)) (Row.wd ra) (Row.wd rh) (Row.wd rb) (ck_turned bo st hh)
  have hq : Wo.notQ m (ln ho (Lf.ex st (Lf.mo ho)) (Lf.ex bo (Lf.mo ho)) (Wo.notQ mm pa) (Wo.notQ mm ph) (Wo.notQ mm pb) m) = ln ho bo st pa ph pb m := by rw [hmm]; exact turn_ln bo st hh pa ph pb m
  have Mq := ln_may ho bo st m (by omega) pa ph pb
  have kNs := fun zs V (rs : Row V 37 zs ((m + 63) / 64) (ln ho (Lf.ex st (Lf.mo ho)) (Lf.ex bo (Lf.mo ho)) (Wo.notQ mm pa) (Wo.notQ mm ph) (Wo.notQ mm pb) m)) => Wo.notC m ((m + 63) / 64) ((m + 63) / 64) (some ⟨zs, 0, none⟩) _ (ln_may _ _ _ m (by omega) _ _ _) V (Row.wd rs)
  rw [hq] at kNs
  rw [show mm - 2 = m by omega] at kL1 kL2
  have hkk : (m + 63) / 64 ≤ 1025 := by omega
  generalize ln ho (Lf.ex st (Lf.mo ho)) (Lf.ex bo (Lf.mo ho)) (Wo.notQ mm pa) (Wo.notQ mm ph) (Wo.notQ mm pb) m = qs at kL2 kNs
  generalize Lf.ex st (Lf.mo ho) = B' at kT kL2
  generalize Lf.ex bo (Lf.mo ho) = S' at kT kL2
  generalize Wo.notQ mm pa = na at kNa kL2
  generalize Wo.notQ mm ph = nh at kNh kL2
  generalize Wo.notQ mm pb = nb' at kNb kL2
  generalize ln ho bo st pa ph pb m = q at kL1 kNs Mq
  have hVa : Wo.validB (m : Int) ((m + 63) / 64) (Pk.pack q) = true := Wo.validB_may Mq
  have HMq : Hid (MayBe m ((m + 63) / 64) q) := Mq
  have Hkk : Hid (∃ kk, kk = (m + 63) / 64) := ⟨_, rfl⟩
  have kG := fun z V i (r : Row V 37 z ((m + 63) / 64) q) => Wo.getU (m : Int) ((m + 63) / 64) ((m + 63) / 64) (some ⟨z, 0, none⟩) (Pk.pack q) (fun k _ => Pk.pack_lt q k) (by omega) i V (Row.wd r)
  have kV := fun z V (r : Row V 37 z ((m + 63) / 64) q) => Wo.validC (m : Int) ((m + 63) / 64) ((m + 63) / 64) (some ⟨z, 0, none⟩) (Pk.pack q) (fun k _ => Pk.pack_lt q k) (by omega) V (Row.wd r)
  rw [hVa] at kV
  generalize (m + 63) / 64 = kk at kL1 kL2 kNs kG kV hkk
  clear hq Mq HMq Hkk hVa wa wh wb hT hml Ma Mh Mb hb hs hc hv
  have hms : IntKind.i64.wrap ((mm : Int) - 2) = (m : Int) := by rw [IntKind.wrap_i64]; omega
  have hms2 : (mm : Int) - 2 = (m : Int) := by omega
  have hmb : (mm : Int) ≤ 65538 := by omega
  have hmb3 : (3 : Int) ≤ (mm : Int) := by omega
  clear hmm
  go_enter Tryz.func7, Tryz.ntmps7
  go_wp2_with (first | (go_at_call 11; refine kA.mono ?_; rintro e V5 ⟨rfl, g5⟩; clear kA; have L5 := P1.kept g5 (by simp); have A5 := P2.kept g5 (by simp); have H5 := P3.kept g5 (by simp); have D5 := B4.kept g5 (by simp); have l0 := L5.cell 0 (v := .int .u8 (ho : Nat)) rfl; have l1 := L5.cell 1 (v := .int .u16 (bo : Nat)) rfl; have l2 := L5.cell 2 (v := .int .u16 (st : Nat)) rfl; have x0 := A5.cell0; have x1 := A5.cell1; have y0 := H5.cell0; have y1 := H5.cell1; have z0 := D5.cell0; have z1 := D5.cell1; have kL5 := kL1 V5 g5; clear kL1) | (go_at_call 9; (fail_if_success (guard_hyp g6)); refine kL5.mono ?_; rintro e V6 ⟨z, rfl, rz, g6, lz⟩; clear kL5; obtain ⟨W7, hW7, k0, k1, sz7, g7, B7⟩ := box2 V6 (.int .i64 (m : Nat)) (.slice (some ⟨z, 0, none⟩) kk kk) 33; have G7 := gb_trans g5 (gb_trans g6 g7); have rz7 := rz.kept g7 (by simp); have L7 := P1.kept G7 (by simp); have l70 := L7.cell 0 (v := .int .u8 (ho : Nat)) rfl; have l71 := L7.cell 1 (v := .int .u16 (bo : Nat)) rfl; have l72 := L7.cell 2 (v := .int .u16 (st : Nat)) rfl; have kT7 := kT W7 G7; clear kT) | (go_at_call 21; refine kT7.mono ?_; rintro e V8 ⟨rfl, g8⟩; clear kT7; obtain ⟨W9, hW9, sz9, g9, B9⟩ := boxn V8 #[.int .u8 (ho : Nat), .int .u16 (B' : Nat), .int .u16 (S' : Nat)] 28; have G9 := gb_trans G7 (gb_trans g8 g9); have A9 := P2.kept G9 (by simp); have x90 := A9.cell0; have x91 := A9.cell1; have kN9 := kNa W9 G9; clear kNa) | (go_at_call 22; (fail_if_success (guard_hyp g10)); refine kN9.mono ?_; rintro e V10 ⟨za, rfl, ra, g10, la⟩; clear kN9; obtain ⟨W11, hW11, i110, i111, sz11, g11, B11⟩ := box2 V10 (.int .i64 (mm : Nat)) (.slice (some ⟨za, 0, none⟩) n n) 33; have G11 := gb_trans G9 (gb_trans g10 g11); have ra11 := ra.kept g11 (by simp); have H11 := P3.kept G11 (by simp); have y110 := H11.cell0; have y111 := H11.cell1; have kN11 := kNh W11 G11; clear kNh) | (go_at_call 22; (fail_if_success (guard_hyp g12)); refine kN11.mono ?_; rintro e V12 ⟨zh, rfl, rh, g12, lh⟩; clear kN11; obtain ⟨W13, hW13, i130, i131, sz13, g13, B13⟩ := box2 V12 (.int .i64 (mm : Nat)) (.slice (some ⟨zh, 0, none⟩) n n) 33; have G13 := gb_trans G11 (gb_trans g12 g13); have rh13 := rh.kept g13 (by simp); have D13 := B4.kept G13 (by simp); have z130 := D13.cell0; have z131 := D13.cell1; have kN13 := kNb W13 G13; clear kNb) | (go_at_call 22; (fail_if_success (guard_hyp g14)); refine kN13.mono ?_; rintro e V14 ⟨zb, rfl, rb, g14, lb⟩; clear kN13; obtain ⟨W15, hW15, i150, i151, sz15, g15, B15⟩ := box2 V14 (.int .i64 (mm : Nat)) (.slice (some ⟨zb, 0, none⟩) n n) 33; have G15 := gb_trans G13 (gb_trans g14 g15); have g1315 := gb_trans g14 g15; have g1115 := gb_trans (gb_trans g12 g13) g1315; have R9 := B9.kept (gb_trans (gb_trans g10 g11) g1115) (by simp); have t90 := R9.cell 0 (v := .int .u8 (ho : Nat)) rfl; have t91 := R9.cell 1 (v := .int .u16 (B' : Nat)) rfl; have t92 := R9.cell 2 (v := .int .u16 (S' : Nat)) rfl; have R11 := B11.kept g1115 (by simp); have t110 := R11.cell0; have t111 := R11.cell1; have R13 := B13.kept g1315 (by simp); have t130 := R13.cell0; have t131 := R13.cell1; have kL15 := kL2 za zh zb W15 G15 (ra11.kept g1115 (by simp)) (rh13.kept g1315 (by simp)) (rb.kept g15 (by simp)); clear kL2) | (go_at_call 9; guard_hyp g6; refine kL15.mono ?_; rintro e V16 ⟨zs, rfl, rs, g16, ls⟩; clear kL15; obtain ⟨W17, hW17, i170, i171, sz17, g17, B17⟩ := box2 V16 (.int .i64 (m : Nat)) (.slice (some ⟨zs, 0, none⟩) kk kk) 33; have G17 := gb_trans G15 (gb_trans g16 g17); have kN17 := kNs zs W17 (rs.kept g17 (by simp)); clear kNs) | (go_at_call 22; guard_hyp g14; refine kN17.mono ?_; rintro e V18 ⟨zk, rfl, rk, g18, lk⟩; clear kN17; obtain ⟨W19, hW19, i190, i191, sz19, g19, B19⟩ := box2 V18 (.int .i64 (m : Nat)) (.slice (some ⟨zk, 0, none⟩) kk kk) 33; have G19 := gb_trans G17 (gb_trans g18 g19); have g719 := gb_trans (gb_trans g8 g9) (gb_trans (gb_trans g10 g11) (gb_trans g1115 (gb_trans (gb_trans g16 g17) (gb_trans g18 g19)))); have R7 := B7.kept g719 (by simp); have t70 := R7.cell0; have t71 := R7.cell1; have R3 := P3.kept G19 (by simp); have t30 := R3.cell0; have t31 := R3.cell1; have rz19 := rz7.kept g719 (by simp); have rk19 := rk.kept g19 (by simp)) | go_in)
  have HZ : Hid (Row W19 37 z kk q) := rz19
  have HK : Hid (Row W19 37 zk kk q) := rk19
  have GG := gb_trans G4 G19
  have sG := GG.size
  clear rz19 rk19 rz rz7 rk ra rh rb rs ra11 rh13 P1 P2 P3 B4 B9 B11 B13 B15 B17 L5 A5 H5 D5 L7 A9 H11 D13 R9 R11 R13 R3
  go_loopw [24] (fun x wr => ∃ i : Nat, i ≤ m ∧ x = .int .i64 (i : Nat) ∧ W19.grownBy wr none) (fun x _ => m - (intOf x).toNat)
  case atStart => exact ⟨0, Nat.zero_le _, rfl, World.grownBy.refl _ _⟩
  case round =>
    obtain ⟨i, hi, rfl, gi⟩ := hrel
    have R7i := R7.kept gi (by simp)
    have R19i := B19.kept gi (by simp)
    have r70 := R7i.cell0; have r71 := R7i.cell1
    have r190 := R19i.cell0; have r191 := R19i.cell1
    by_cases hlt : i < m
    · have hlt' : (i : Int) < (m : Int) := by omega
      have gd : wr.grownBy wr.drew none := gb_drew (World.grownBy.refl _ none)
      have R7d := R7i.kept gd (by simp)
      have R19d := R19i.kept gd (by simp)
      have u70 := R7d.cell0; have u71 := R7d.cell1
      have u190 := R19d.cell0; have u191 := R19d.cell1
      have kG1 := kG zk wr.drew i ((HK.out.kept gi (by simp)).kept gd (by simp))
      have kGr := fun V (g : wr.drew.grownBy V none) => kG z V i (((HZ.out.kept gi (by simp)).kept gd (by simp)).kept g (by simp))
      generalize Wo.getV (m : Int) kk (Pk.pack q) (i : Int) = bb at kG1 kGr
      clear kG kV
      go_wp2
      go_region_held2 (fun w' => w'.cell? ⟨V18.heap.size, 0, none⟩ = some (.int .i64 (m : Nat)) ∧ w'.cell? ⟨V18.heap.size, 1, none⟩ = some (.slice (some ⟨zk, 0, none⟩) kk kk) ∧ w'.cell? ⟨V6.heap.size, 0, none⟩ = some (.int .i64 (m : Nat)) ∧ w'.cell? ⟨V6.heap.size, 1, none⟩ = some (.slice (some ⟨z, 0, none⟩) kk kk)) (go_keep) (first | (go_at_call 23; (fail_if_success (guard_hyp gg1)); refine kG1.mono ?_; rintro e X1 ⟨rfl, gg1⟩; clear kG1; have R7x := R7d.kept gg1 (by simp); have R19x := R19d.kept gg1 (by simp); have v70 := R7x.cell0; have v71 := R7x.cell1; have v190 := R19x.cell0; have v191 := R19x.cell1; have kG2 := kGr X1 gg1; clear kGr) | (go_at_call 23; guard_hyp gg1; refine kG2.mono ?_; rintro e X2 ⟨rfl, gg2⟩; clear kG2; have R7y := R7x.kept gg2 (by simp); have R19y := R19x.kept gg2 (by simp); have w70 := R7y.cell0; have w71 := R7y.cell1; have w190 := R19y.cell0; have w191 := R19y.cell1))
      have gX : W19.grownBy X2 none := gb_trans gi (gb_trans gd (gb_trans gg1 gg2))
      go_wp2
      go_roundw
      case rel => exact ⟨i + 1, by omega, by go_num, gX⟩
      case measure => simp [intOf]; omega
    · obtain rfl : i = m := by omega
      have hlt' : ¬ (i : Int) < (i : Int) := by omega
      have kVi := kV z wr (HZ.out.kept gi (by simp))
      clear kV kG
      go_wp2_with (first | (go_at_call 24; refine kVi.mono ?_; rintro e X1 ⟨rfl, gg1⟩; clear kVi))
      go_ret
      exact ⟨rfl, gb_below (gb_trans GG (gb_trans gi gg1))⟩
theorem turned_top (xa xb xc : Int) (Na : Int) (na ca : Nat) (sa : Option Addr) (fa : Nat → Nat) (Nh : Int) (nh ch : Nat) (sh : Option Addr) (fh : Nat → Nat) (Nb : Int) (nb cb : Nat) (sb : Option Addr) (fb : Nat → Nat) (W : World) (ya : 0 ≤ xa ∧ xa ≤ 255) (yb : 0 ≤ xb ∧ xb ≤ 65535) (yc : 0 ≤ xc ∧ xc ≤ 65535) (za : na ≤ 17592186043904) (ba : ∀ k, fa k < 18446744073709551616) (oa : sa = none → na = 0 ∧ ca = 0) (ea : Wd W sa na fa) (zh : nh ≤ 17592186043904) (bh : ∀ k, fh k < 18446744073709551616) (oh : sh = none → nh = 0 ∧ ch = 0) (eh : Wd W sh nh fh) (zb : nb ≤ 17592186043904) (bb : ∀ k, fb k < 18446744073709551616) (ob : sb = none → nb = 0 ∧ cb = 0) (eb : Wd W sb nb fb) (hv : Hv W) (hT : Wo.Tab64 W) :
    Calls Tryz.prog 7 #[.agg #[.int .u8 xa, .int .u16 xb, .int .u16 xc], .agg #[.int .i64 Na, .slice sa na ca], .agg #[.int .i64 Nh, .slice sh nh ch], .agg #[.int .i64 Nb, .slice sb nb cb]] W fun e w' => e = .returned (.bool true) ∧ Below W.heap.size W w' := by
  obtain ⟨ho, rfl⟩ : ∃ ho : Nat, xa = ho := ⟨xa.toNat, by omega⟩
  obtain ⟨bo, rfl⟩ : ∃ bo : Nat, xb = bo := ⟨xb.toNat, by omega⟩
  obtain ⟨st, rfl⟩ : ∃ st : Nat, xc = st := ⟨xc.toNat, by omega⟩
  by_cases hE : aE ho bo st Na Nh Nb na nh nb fa fh fb = 0
  · obtain ⟨hc, va, vh, vb, n3, e1, e2⟩ := aE_ok hE
    obtain ⟨ma, pa, rfl, Ma, hpa⟩ := Wo.may_of_validB (fun k _ => ba k) va
    obtain ⟨m, ph, rfl, Mh, hph⟩ := Wo.may_of_validB (fun k _ => bh k) vh
    obtain ⟨mb, pb, rfl, Mb, hpb⟩ := Wo.may_of_validB (fun k _ => bb k) vb
    obtain rfl : ma = m := by omega
    obtain rfl : mb = ma := by omega
    obtain rfl : na = nh := by rw [Ma.words, Mh.words]
    obtain rfl : nb = na := by rw [Mb.words, Mh.words]
    obtain ⟨m2, rfl⟩ : ∃ m2, mb = m2 + 2 := ⟨mb - 2, by omega⟩
    exact turnedY ho bo st (ck_ho hc) (by omega) (by omega) hc m2 (m2 + 2) nb ca ch cb rfl sa sh sb pa ph pb Ma Mh Mb (by omega) W hv hT (ea.congr hpa) (eh.congr hph) (eb.congr hpb)
  · exact turnedN ho bo st (by omega) (by omega) (by omega) Na na ca sa fa (fun k _ => ba k) (by omega) Nh nh ch sh fh (fun k _ => bh k) (by omega) Nb nb cb sb fb (fun k _ => bb k) (by omega) W hv hT ea eh eb hE
end Go.Proofs.YthjiiljglgmkpaaGreatDoor.Pd
