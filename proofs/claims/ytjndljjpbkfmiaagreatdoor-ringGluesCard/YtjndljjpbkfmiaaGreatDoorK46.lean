/- RingGlues: the walk. -/
import Derived.Test.YtjndljjpbkfmiaaGreatDoorK45
import Derived.Test.YtjndljjpbkfmiaaGreatDoorKr
namespace Go.Proofs.YtjndljjpbkfmiaaGreatDoor
open Go.RowKit
set_option linter.unusedVariables false
set_option linter.unusedSimpArgs false
set_option maxRecDepth 100000

theorem fi_sub' (n : Nat) (u : Int) (h1 : -1 ≤ u) (h2 : u ≤ 65536) (hn : n ≤ 65536) : u - (n : Int) / 2 = u + To.fi n := by unfold To.fi; omega
theorem fi_add' (n : Nat) (u : Nat) : (u : Int) + To.fi n + (n : Int) / 2 = (u : Int) := by unfold To.fi; omega
set_option maxHeartbeats 4000000 in
theorem glues_walk (a0 a1 a2 a3 a4 st : Int) (pk : Bool) (sp : Option Addr) (n c : Nat) (f : Nat → Nat) (hn : n ≤ 140737488351232) (h256 : ∀ i, f i < 256) (w : World) (hb : By w sp n f) (hT : Tab w) (hv : Hid (Hv w)) :
    Calls Tryz.prog 6 #[.agg #[.int .i64 a0, .int .i64 a1, .int .i64 a2, .int .i64 a3, .int .i64 a4], .int .i64 st, .bool pk, .slice sp n c] w fun e w' => e = .returned (.bool true) ∧ Below w.heap.size w w' := by
  obtain ⟨W1, hW1, sz1, g1, B1⟩ := boxn w #[.int .i64 a0, .int .i64 a1, .int .i64 a2, .int .i64 a3, .int .i64 a4] 55
  have b1_0 := B1.cell 0 (v := .int .i64 a0) rfl
  have b1_1 := B1.cell 1 (v := .int .i64 a1) rfl
  have b1_2 := B1.cell 2 (v := .int .i64 a2) rfl
  have b1_3 := B1.cell 3 (v := .int .i64 a3) rfl
  have b1_4 := B1.cell 4 (v := .int .i64 a4) rfl
  have hT1 := hT.kept g1
  have hb1 := hb.kept g1 (by simp)
  obtain ⟨S, hSe⟩ : ∃ S, fiS st pk = S := ⟨_, rfl⟩
  have hSb := fiS_bd st pk
  rw [hSe] at hSb
  obtain ⟨gK, hgK⟩ : ∃ gK, kpG n f S = gK := ⟨_, rfl⟩
  have HGB : Hid (∀ i, gK i < 256) := fun i => by rw [← hgK]; exact Nat.lt_of_lt_of_le (kpG_lt (by omega) i) hSb.2
  go_enter Tryz.func6, Tryz.ntmps6
  go_wp2_with (first | (go_at_call 7; refine (aliveC W1 hT1).mono ?_; rintro e V1 ⟨rfl, g2⟩; have B2 := B1.kept g2 (by simp); have hb2 := hb1.kept g2 (by simp); have b2_0 := B2.cell 0 (v := .int .i64 a0) rfl; have b2_1 := B2.cell 1 (v := .int .i64 a1) rfl; have b2_2 := B2.cell 2 (v := .int .i64 a2) rfl; have b2_3 := B2.cell 3 (v := .int .i64 a3) rfl; have b2_4 := B2.cell 4 (v := .int .i64 a4) rfl) | (go_at_call 26; refine (topoC a0 a1 a2 a3 a4 _).mono ?_; rintro e V2 ⟨k, t, z, C, R, rfl, G, hC9, hR9, g3⟩; obtain ⟨W3, hW3, sz3, g4, B3⟩ := boxn V2 #[.int .u8 k, .int .i64 (C : Nat), .int .i64 (R : Nat), .int .u8 t, .int .i64 z] 23; have hb3 := hb2.kept (gb_trans g3 g4) (by simp); have c0 := G.c0; have r0 := G.r0; have t3_0 := B3.cell 0 (v := .int .u8 k) rfl; have t3_1 := B3.cell 1 (v := .int .i64 (C : Nat)) rfl; have t3_2 := B3.cell 2 (v := .int .i64 (R : Nat)) rfl; have t3_3 := B3.cell 3 (v := .int .u8 t) rfl; have t3_4 := B3.cell 4 (v := .int .i64 z) rfl; have hf1 := filledC k t z st S C R pk hSe ⟨c0, hC9⟩ ⟨r0, hR9⟩ sp n c f hn h256 W3 hb3; rw [hgK] at hf1) | (go_at_call 27; refine hf1.mono ?_; rintro e V3 ⟨b, M, L, rfl, F, hM, hL, g5⟩; have B4 := B3.kept g5 (by simp); have t4_0 := B4.cell 0 (v := .int .u8 k) rfl; have t4_1 := B4.cell 1 (v := .int .i64 (C : Nat)) rfl; have t4_2 := B4.cell 2 (v := .int .i64 (R : Nat)) rfl; have t4_3 := B4.cell 3 (v := .int .u8 t) rfl; have t4_4 := B4.cell 4 (v := .int .i64 z) rfl; have hB1 := bytesY G (F.fdm gK V3.heap.size (F.lts _ _ hM)) V3 (Nat.le_refl _) hM; obtain ⟨m, hm⟩ : ∃ m, (C + 2) * (R + 2) = m := ⟨_, rfl⟩; have HM : Hid ((C + 2) * (R + 2) = m) := hm; rw [hm] at hB1; clear hm) | (go_at_call 11; refine hB1.mono ?_; rintro e V5 ⟨d, rfl, r1, l1, g7⟩; obtain ⟨W5, hW5, sz5, g8, BA5⟩ := boxn V5 #[.int .i64 (C : Nat), .int .i64 (R : Nat), .slice (some ⟨d, 0, none⟩) m m] 33; have g78 := gb_trans g7 g8; have B6 := B4.kept g78 (by simp); have t6_0 := B6.cell 0 (v := .int .u8 k) rfl; have t6_1 := B6.cell 1 (v := .int .i64 (C : Nat)) rfl; have t6_2 := B6.cell 2 (v := .int .i64 (R : Nat)) rfl; have t6_3 := B6.cell 3 (v := .int .u8 t) rfl; have t6_4 := B6.cell 4 (v := .int .i64 z) rfl; have a5_0 := BA5.cell 0 (v := .int .i64 (C : Nat)) rfl; have a5_1 := BA5.cell 1 (v := .int .i64 (R : Nat)) rfl; have a5_2 := BA5.cell 2 (v := .slice (some ⟨d, 0, none⟩) m m) rfl; have r1x := rowIs_kept r1 g8 (by simp); have hM6 := F.grown hM g78; have hck := checkF C R (some ⟨d, 0, none⟩) m m W5; have hfm : fmE C R m = 0 := (by unfold fmE; rw [if_pos]; refine ⟨⟨by omega, by omega⟩, ⟨by omega, by omega⟩, ?_, ?_⟩; (rw [← Int.natCast_mul]; have := Nat.mul_le_mul hC9 hR9; omega); (rw [← HM.out, Int.natCast_mul]; rfl)); rw [hfm] at hck; clear hfm) | (go_at_call 23; refine hck.mono ?_; rintro e V6 ⟨rfl, g9⟩; have B7 := B6.kept g9 (by simp); have t7_0 := B7.cell 0 (v := .int .u8 k) rfl; have t7_1 := B7.cell 1 (v := .int .i64 (C : Nat)) rfl; have t7_2 := B7.cell 2 (v := .int .i64 (R : Nat)) rfl; have t7_3 := B7.cell 3 (v := .int .u8 t) rfl; have t7_4 := B7.cell 4 (v := .int .i64 z) rfl; have BA7 := BA5.kept g9 (by simp); have a7_0 := BA7.cell 0 (v := .int .i64 (C : Nat)) rfl; have a7_1 := BA7.cell 1 (v := .int .i64 (R : Nat)) rfl; have a7_2 := BA7.cell 2 (v := .slice (some ⟨d, 0, none⟩) m m) rfl; have r17 := rowIs_kept r1x g9 (by simp); have hM7 := F.grown hM6 g9))
  have gV := gb_trans (gb_trans g1 g2) (gb_trans (gb_trans g3 g4) (gb_trans g5 (gb_trans g78 g9)))
  have hT7 := hT.kept gV
  have hv7 : Hid (Hv V6) := hvK hv gV
  go_loopw [15] (fun i wr => ∃ (Y : Nat) (v : Int), Hid (v = (Y : Int) - 1) ∧ Y ≤ R + 2 ∧ i = .int .i64 v ∧ V6.grownBy wr none) (fun i _ => (R + 2 : Int).toNat - (intOf i + 1).toNat)
  case atStart => exact ⟨0, -1, (by unfold Hid; omega), Nat.zero_le _, rfl, World.grownBy.refl _ _⟩
  case round =>
    obtain ⟨Y, v, HV, hY, rfl, gy⟩ := hrel
    have hv := HV.out
    have By_ := B7.kept gy (by simp)
    have y_0 := By_.cell 0 (v := .int .u8 k) rfl
    have y_1 := By_.cell 1 (v := .int .i64 (C : Nat)) rfl
    have y_2 := By_.cell 2 (v := .int .i64 (R : Nat)) rfl
    have y_3 := By_.cell 3 (v := .int .u8 t) rfl
    have y_4 := By_.cell 4 (v := .int .i64 z) rfl
    by_cases hlt : Y < R + 2
    · have hv1 : v ≤ (R : Int) := by omega
      have hv0 : -1 ≤ v := by omega
      clear hv
      go_wp2
      go_loopw [16] (fun i wr2 => ∃ (X : Nat) (u : Int), Hid (u = (X : Int) - 1) ∧ X ≤ C + 2 ∧ i = .int .i64 u ∧ V6.grownBy wr2 none) (fun i _ => (C + 2 : Int).toNat - (intOf i + 1).toNat)
      case atStart => exact ⟨0, -1, (by unfold Hid; omega), Nat.zero_le _, rfl, gy⟩
      case round =>
        obtain ⟨X, u, HU, hX, rfl, gx⟩ := hrel
        have hu := HU.out
        have Bx_ := B7.kept gx (by simp)
        have x_0 := Bx_.cell 0 (v := .int .u8 k) rfl
        have x_1 := Bx_.cell 1 (v := .int .i64 (C : Nat)) rfl
        have x_2 := Bx_.cell 2 (v := .int .i64 (R : Nat)) rfl
        have x_3 := Bx_.cell 3 (v := .int .u8 t) rfl
        have x_4 := Bx_.cell 4 (v := .int .i64 z) rfl
        by_cases hxl : X < C + 2
        · have hu1 : u ≤ (C : Int) := by omega
          have hu0 : -1 ≤ u := by omega
          clear hu
          have hb := fc_bd G (u := u) (v := v) ⟨hu0, hu1⟩ ⟨hv0, hv1⟩
          have hr := fun w => Fd.ringC k C R t z (u + To.fi C) (v + To.fi R) G.t0 w
          have hB : Fd.riB k C R t z (u + To.fi C) (v + To.fi R) = fcB k t z C R u v := rfl
          rw [hB, hb.2.2.2.2] at hr
          have BAx := BA7.kept gx (by simp)
          have ax_0 := BAx.cell 0 (v := .int .i64 (C : Nat)) rfl
          have ax_1 := BAx.cell 1 (v := .int .i64 (R : Nat)) rfl
          have ax_2 := BAx.cell 2 (v := .slice (some ⟨d, 0, none⟩) m m) rfl
          have hq := fr_ix k t z gK (C := C) (R := R) ⟨hu0, hu1⟩ hv0
          unfold plS at hq
          have hlt2 := ix_lt (C := C) (R := R) ⟨hu0, hu1⟩ ⟨hv0, hv1⟩
          have hii := ix_int (C := C) hu0 hv0
          have hmm := ix_mul (C := C) (v := v) (by omega) (by omega) (by omega)
          rw [HM.out] at hlt2
          obtain ⟨ix, hix⟩ : ∃ ix, ixN C u v = ix := ⟨_, rfl⟩
          rw [hix] at hq hlt2 hii
          clear hix
          obtain ⟨a2, e2⟩ : ∃ q, v + 1 = q := ⟨_, rfl⟩
          obtain ⟨mm, e3⟩ : ∃ q, (C : Int) + 2 = q := ⟨_, rfl⟩
          rw [e2, e3] at hii hmm
          obtain ⟨P, e4⟩ : ∃ q, a2 * mm = q := ⟨_, rfl⟩
          rw [e4] at hii hmm
          obtain ⟨P1, e5⟩ : ∃ q, P + u = q := ⟨_, rfl⟩
          have e7 : P1 + 1 = (ix : Int) := by omega
          have w2 : IntKind.i64.wrap a2 = a2 := by rw [IntKind.wrap_i64]; omega
          have w3 : IntKind.i64.wrap mm = mm := by rw [IntKind.wrap_i64]; omega
          have w4 : IntKind.i64.wrap P = P := by rw [IntKind.wrap_i64]; omega
          have w5 : IntKind.i64.wrap P1 = P1 := by rw [IntKind.wrap_i64]; omega
          have w7 : IntKind.i64.wrap (ix : Int) = (ix : Int) := by rw [IntKind.wrap_i64]; omega
          have hixm : (ix : Int) < (m : Int) := by omega
          clear hii hmm
          have hcx := (rowIs_kept r17 gx (by simp)).cell hlt2
          have hu2 := fi_sub' C u hu0 (by omega) (by omega)
          have hv2 := fi_sub' R v hv0 (by omega) (by omega)
          rw [← hu2, ← hv2] at hr
          cases h : fcB k t z C R u v
          · rw [hu2, hv2, Fd.riV_no (hB.trans h), h, ← hu2, ← hv2] at hr
            rw [h] at hq
            simp only [Bool.false_eq_true, if_false, reduceIte] at hq
            rw [hq] at hcx
            have hr2 := hr wr
            go_wp2_with (go_at_call 28; refine hr2.mono ?_; rintro e X1 ⟨rfl, gx1⟩; obtain ⟨W8, hW8, sz8, g88, B8⟩ := boxn X1 #[.int .i64 0, .int .i64 0] 60; have s8_0 := Bo.same B8 0 (v := .int .i64 0) rfl; have s8_1 := Bo.same B8 1 (v := .int .i64 0) rfl; have f8_0 := B8.frozen 0; have f8_1 := B8.frozen 1; have c8_0 := B8.cell 0 (v := .int .i64 0) rfl; have c8_1 := B8.cell 1 (v := .int .i64 0) rfl; have gx2 := gb_trans gx1 g88; have BAz := BAx.kept gx2 (by simp); have az_0 := BAz.cell 0 (v := .int .i64 (C : Nat)) rfl; have az_1 := BAz.cell 1 (v := .int .i64 (R : Nat)) rfl; have az_2 := BAz.cell 2 (v := .slice (some ⟨d, 0, none⟩) m m) rfl; have Bz := Bx_.kept gx2 (by simp); have z_0 := Bz.cell 0 (v := .int .u8 k) rfl; have z_1 := Bz.cell 1 (v := .int .i64 (C : Nat)) rfl; have z_2 := Bz.cell 2 (v := .int .i64 (R : Nat)) rfl; have z_3 := Bz.cell 3 (v := .int .u8 t) rfl; have z_4 := Bz.cell 4 (v := .int .i64 z) rfl; have hcz := (rowIs_kept r17 (gb_trans gx gx2) (by simp)).cell hlt2; rw [hq] at hcz)
            go_roundw
            case rel => exact ⟨X + 1, u + 1, (by unfold Hid; have := HU.out; omega), hxl, rfl, gb_trans gx gx2⟩
            case measure => simp [intOf]; have := HU.out; omega
          · rw [hu2, hv2, Fd.riV_yes (hB.trans h), h, hb.2.2.1, hb.2.2.2.1, ← hu2, ← hv2] at hr
            rw [h] at hq
            simp only [if_true, reduceIte] at hq
            have hx := hb.1
            have hy := hb.2.1
            clear hb
            obtain ⟨x', hx'⟩ : ∃ q, fcX k t z C R u v = q := ⟨_, rfl⟩
            obtain ⟨y', hy'⟩ : ∃ q, fcY k t z C R u v = q := ⟨_, rfl⟩
            rw [hx', hy'] at hr hq
            rw [hx'] at hx
            rw [hy'] at hy
            clear hx' hy'
            obtain ⟨px, hpx⟩ : ∃ q, (x' : Int) + To.fi C = q := ⟨_, rfl⟩
            obtain ⟨py, hpy⟩ : ∃ q, (y' : Int) + To.fi R = q := ⟨_, rfl⟩
            have ea := fi_add' C x'
            have eb := fi_add' R y'
            rw [hpx] at ea hr
            rw [hpy] at eb hr
            clear hpx hpy
            have pb1 : -9 ≤ px ∧ px ≤ 9 := by omega
            have pb2 : -9 ≤ py ∧ py ≤ 9 := by omega
            have hgt := F.get gK x' y' hx hy
            rw [← hq] at hgt
            obtain ⟨s, hs⟩ : ∃ q, frV k t z C R gK ix = q := ⟨_, rfl⟩
            rw [hs] at hcx hgt
            have HS : Hid (frV k t z C R gK ix = s) := hs
            clear hs hq
            have hr2 := hr wr
            go_wp2_with (first | (go_at_call 28; refine hr2.mono ?_; rintro e X1 ⟨rfl, gx1⟩; obtain ⟨W8, hW8, sz8, g88, B8⟩ := boxn X1 #[.int .i64 px, .int .i64 py] 60; have c8_0 := B8.cell 0 (v := .int .i64 px) rfl; have c8_1 := B8.cell 1 (v := .int .i64 py) rfl; have gx2 := gb_trans gx1 g88; have Bz := Bx_.kept gx2 (by simp); have z_0 := Bz.cell 0 (v := .int .u8 k) rfl; have z_1 := Bz.cell 1 (v := .int .i64 (C : Nat)) rfl; have z_2 := Bz.cell 2 (v := .int .i64 (R : Nat)) rfl; have z_3 := Bz.cell 3 (v := .int .u8 t) rfl; have z_4 := Bz.cell 4 (v := .int .i64 z) rfl; have hg8 := hgt W8 (F.grown hM7 (gb_trans gx gx2))) | (go_at_call 29; refine hg8.mono ?_; rintro e X2 ⟨rfl, gx3⟩; have gx4 := gb_trans gx2 gx3; have BAz := BAx.kept gx4 (by simp); have az_0 := BAz.cell 0 (v := .int .i64 (C : Nat)) rfl; have az_1 := BAz.cell 1 (v := .int .i64 (R : Nat)) rfl; have az_2 := BAz.cell 2 (v := .slice (some ⟨d, 0, none⟩) m m) rfl; have Bz2 := Bx_.kept gx4 (by simp); have z2_0 := Bz2.cell 0 (v := .int .u8 k) rfl; have z2_1 := Bz2.cell 1 (v := .int .i64 (C : Nat)) rfl; have z2_2 := Bz2.cell 2 (v := .int .i64 (R : Nat)) rfl; have z2_3 := Bz2.cell 3 (v := .int .u8 t) rfl; have z2_4 := Bz2.cell 4 (v := .int .i64 z) rfl; have hcz := (rowIs_kept r17 (gb_trans gx gx4) (by simp)).cell hlt2; rw [HS.out] at hcz))
            go_roundw
            case rel => exact ⟨X + 1, u + 1, (by unfold Hid; have := HU.out; omega), hxl, rfl, gb_trans gx gx4⟩
            case measure => simp [intOf]; have := HU.out; omega
        · have hXm : X = C + 2 := by omega
          have hu2 : ¬ u ≤ (C : Int) := by omega
          clear hu
          go_wp2
          go_roundw
          case rel => exact ⟨Y + 1, v + 1, (by unfold Hid; have := HV.out; omega), hlt, rfl, gx⟩
          case measure => simp [intOf]; have := HV.out; omega
    · have hYR : Y = R + 2 := by omega
      have hv2 : ¬ v ≤ (R : Int) := by omega
      clear hv
      go_wp2
      go_loopw [23] (fun i wr => ∃ (q : Nat), 1 ≤ q ∧ q ≤ 4 ∧ i = .int .u8 (q : Nat) ∧ V6.grownBy wr none) (fun i _ => 4 - (intOf i).toNat)
      case atStart => exact ⟨1, Nat.le_refl _, by omega, rfl, gy⟩
      case round =>
        obtain ⟨q, hq1, hq4, rfl, gq⟩ := hrel
        have BAq := BA7.kept gq (by simp)
        have aq_0 := BAq.cell 0 (v := .int .i64 (C : Nat)) rfl
        have aq_1 := BAq.cell 1 (v := .int .i64 (R : Nat)) rfl
        have aq_2 := BAq.cell 2 (v := .slice (some ⟨d, 0, none⟩) m m) rfl
        by_cases hql : q < 4
        · have hbs := besideC ⟨c0, hC9⟩ ⟨r0, hR9⟩ d m HM.out (frV k t z C R gK) q hq1 (by omega) wr (rowIs_kept r17 gq (by simp)) (hT7.kept gq) (hvK hv7 gq)
          go_wp2_with (go_at_call 30; refine hbs.mono ?_; rintro e X1 ⟨rfl, gx1⟩)
          go_roundw
          case rel => exact ⟨q + 1, by omega, by omega, by go_num, gb_trans gq gx1⟩
          case measure => simp [intOf]; omega
        · have hq4' : q = 4 := by omega
          subst q
          go_wp2
          go_ret
          exact ⟨rfl, gb_below (gb_trans gV gq)⟩
end Go.Proofs.YtjndljjpbkfmiaaGreatDoor
