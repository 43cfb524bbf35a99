/- Line: the row one generation later. -/
import Derived.Test.YthjiiljglgmkpaaGreatDoorYc
namespace Go.Proofs.YthjiiljglgmkpaaGreatDoor.Pd
open Go.RowKit
set_option linter.unusedVariables false
set_option linter.unusedSimpArgs false
set_option maxRecDepth 100000

set_option maxHeartbeats 4000000 in
theorem lineY1 (bo st m n : Nat) (hb : bo < 65536) (hs : st < 65536) (pa ph pb : Nat → Bool) (Ma : MayBe m n pa) (Mh : MayBe m n ph) (Mb : MayBe m n pb) (h3 : 3 ≤ m) (ca ch cb : Nat) (sa sh sb : Option Addr) (w : World) (hv : Hid (Hv w)) (wa : Wd w sa n (Pk.pack pa)) (wh : Wd w sh n (Pk.pack ph)) (wb : Wd w sb n (Pk.pack pb)) (hc : Lf.ck 1 bo st = 0) :
    Calls Tryz.prog 9 #[.agg #[.int .u8 1, .int .u16 (bo : Nat), .int .u16 (st : Nat)], .agg #[.int .i64 ((m : Nat) : Int), .slice sa n ca], .agg #[.int .i64 ((m : Nat) : Int), .slice sh n ch], .agg #[.int .i64 ((m : Nat) : Int), .slice sb n cb]] w fun e w' => ∃ z, e = .returned (.tuple #[.agg #[.int .i64 ((m - 2 : Nat) : Int), .slice (some ⟨z, 0, none⟩) ((m - 2 + 63) / 64) ((m - 2 + 63) / 64)], .int .i64 0]) ∧ Row w' 37 z ((m - 2 + 63) / 64) (ln 1 bo st pa ph pb (m - 2)) ∧ w.grownBy w' none ∧ w.heap.size ≤ z := by
  obtain ⟨m2, hm2⟩ : ∃ m2, m - 2 = m2 := ⟨_, rfl⟩
  obtain ⟨k2, hk2⟩ : ∃ k2, (m2 + 63) / 64 = k2 := ⟨_, rfl⟩
  rw [hm2, hk2]
  have HM2 : Hid (m - 2 = m2) := hm2
  have HK2 : Hid ((m2 + 63) / 64 = k2) := hk2
  clear hm2 hk2
  have hn : n ≤ 9223372036854775807 := by have := Wo.MayBe.len Ma; omega
  have va := Wo.validB_may Ma
  have vh := Wo.validB_may Mh
  have vb := Wo.validB_may Mb
  have N3a : ¬ ((m : Nat) : Int) < 3 := by omega
  have nee : (((m : Nat) : Int) != ((m : Nat) : Int)) = false := by simp
  have hh : 1 < 256 := by decide
  obtain ⟨W1, hW1, sz1, g1, B1⟩ := boxn w #[.int .u8 1, .int .u16 (bo : Nat), .int .u16 (st : Nat)] 28
  obtain ⟨W2, hW2, a0, a1, sz2, g2, B2⟩ := box2 W1 (.int .i64 ((m : Nat) : Int)) (.slice sa n ca) 33
  obtain ⟨W3, hW3, h0, h1, sz3, g3, B3⟩ := box2 W2 (.int .i64 ((m : Nat) : Int)) (.slice sh n ch) 33
  obtain ⟨W4, hW4, b0, b1, sz4, g4, B4⟩ := box2 W3 (.int .i64 ((m : Nat) : Int)) (.slice sb n cb) 33
  obtain ⟨W5, hW5, r0, r1, sz5, g5, B5⟩ := box2 W4 (.int .i64 0) (.slice none 0 0) 33
  have G5 : w.grownBy W5 none := gb_trans g1 (gb_trans g2 (gb_trans g3 (gb_trans g4 g5)))
  have P1 := B1.kept (gb_trans g2 (gb_trans g3 (gb_trans g4 g5))) (by simp)
  have P2 := B2.kept (gb_trans g3 (gb_trans g4 g5)) (by simp)
  have P3 := B3.kept (gb_trans g4 g5) (by simp)
  have P4 := B4.kept g5 (by simp)
  have l0 := P1.cell 0 (v := .int .u8 1) rfl
  have l1 := P1.cell 1 (v := .int .u16 (bo : Nat)) rfl
  have l2 := P1.cell 2 (v := .int .u16 (st : Nat)) rfl
  have hck := fun w hv => lifeCk 1 bo st hh hb hs w hv
  rw [hc] at hck
  have hv5 := hvK hv G5
  have k0 := jx0
  have k1 := jx1
  have kx2 := jx2
  go_enter Tryz.func9, Tryz.ntmps9
  go_wp2_with (go_at_call 30; refine (hck W5 hv5).mono ?_; rintro e V ⟨rfl, gV⟩; have Q2 := P2.kept gV (by simp); have Q3 := P3.kept gV (by simp); have Q4 := P4.kept gV (by simp); have x0 := Q2.cell0; have x1 := Q2.cell1; have x2 := Q3.cell0; have x3 := Q3.cell1; have x4 := Q4.cell0; have x5 := Q4.cell1)
  have GG0 : W5.grownBy V none := gV
  refine wp_loop_rounds 4 ?_
  obtain ⟨U0, hU0, i00, i10, szU0, gU0, BU0⟩ := box2 V (.int .i64 ((m : Nat) : Int)) (.slice sa n ca) 33
  have hval0 := Wo.validC ((m : Nat) : Int) n ca sa (Pk.pack pa) (fun k _ => Pk.pack_lt _ _) hn U0 (wa.kept (gb_trans (gb_trans G5 GG0) gU0) (by simp))
  rw [va] at hval0
  rw [rounds_succ]
  go_wp2_with (go_at_call 24; refine hval0.mono ?_; rintro e V0 ⟨rfl, gV0⟩; have BV0 := BU0.kept gV0 (by simp); have j00 := BV0.cell0; have j10 := BV0.cell1; have R20 := P2.kept (gb_trans GG0 (gb_trans gU0 gV0)) (by simp); have R30 := P3.kept (gb_trans GG0 (gb_trans gU0 gV0)) (by simp); have R40 := P4.kept (gb_trans GG0 (gb_trans gU0 gV0)) (by simp); have R50 := B5.kept (gb_trans GG0 (gb_trans gU0 gV0)) (by simp); have y00 := R20.cell0; have y10 := R20.cell1; have y20 := R30.cell0; have y30 := R30.cell1; have y40 := R40.cell0; have y50 := R40.cell1; have t00 := R50.cell0; have t10 := R50.cell1; have tf00 := R50.free0; have tf10 := R50.free1)
  have GG1 : W5.grownBy V0 none := gb_trans GG0 (gb_trans gU0 gV0)
  obtain ⟨U1, hU1, i01, i11, szU1, gU1, BU1⟩ := box2 V0 (.int .i64 ((m : Nat) : Int)) (.slice sh n ch) 33
  have hval1 := Wo.validC ((m : Nat) : Int) n ch sh (Pk.pack ph) (fun k _ => Pk.pack_lt _ _) hn U1 (wh.kept (gb_trans (gb_trans G5 GG1) gU1) (by simp))
  rw [vh] at hval1
  rw [rounds_succ]
  go_wp2_with (go_at_call 24; refine hval1.mono ?_; rintro e V1 ⟨rfl, gV1⟩; have BV1 := BU1.kept gV1 (by simp); have j01 := BV1.cell0; have j11 := BV1.cell1; have R21 := P2.kept (gb_trans GG1 (gb_trans gU1 gV1)) (by simp); have R31 := P3.kept (gb_trans GG1 (gb_trans gU1 gV1)) (by simp); have R41 := P4.kept (gb_trans GG1 (gb_trans gU1 gV1)) (by simp); have R51 := B5.kept (gb_trans GG1 (gb_trans gU1 gV1)) (by simp); have y01 := R21.cell0; have y11 := R21.cell1; have y21 := R31.cell0; have y31 := R31.cell1; have y41 := R41.cell0; have y51 := R41.cell1; have t01 := R51.cell0; have t11 := R51.cell1; have tf01 := R51.free0; have tf11 := R51.free1)
  have GG2 : W5.grownBy V1 none := gb_trans GG1 (gb_trans gU1 gV1)
  obtain ⟨U2, hU2, i02, i12, szU2, gU2, BU2⟩ := box2 V1 (.int .i64 ((m : Nat) : Int)) (.slice sb n cb) 33
  have hval2 := Wo.validC ((m : Nat) : Int) n cb sb (Pk.pack pb) (fun k _ => Pk.pack_lt _ _) hn U2 (wb.kept (gb_trans (gb_trans G5 GG2) gU2) (by simp))
  rw [vb] at hval2
  rw [rounds_succ]
  go_wp2_with (go_at_call 24; refine hval2.mono ?_; rintro e V2 ⟨rfl, gV2⟩; have BV2 := BU2.kept gV2 (by simp); have j02 := BV2.cell0; have j12 := BV2.cell1; have R22 := P2.kept (gb_trans GG2 (gb_trans gU2 gV2)) (by simp); have R32 := P3.kept (gb_trans GG2 (gb_trans gU2 gV2)) (by simp); have R42 := P4.kept (gb_trans GG2 (gb_trans gU2 gV2)) (by simp); have R52 := B5.kept (gb_trans GG2 (gb_trans gU2 gV2)) (by simp); have y02 := R22.cell0; have y12 := R22.cell1; have y22 := R32.cell0; have y32 := R32.cell1; have y42 := R42.cell0; have y52 := R42.cell1; have t02 := R52.cell0; have t12 := R52.cell1; have tf02 := R52.free0; have tf12 := R52.free1)
  have GG3 : W5.grownBy V2 none := gb_trans GG2 (gb_trans gU2 gV2)
  rw [rounds_succ]
  go_wp2
  have E1 : Bo V2.drew w.heap.size 28 #[.int .u8 1, .int .u16 (bo : Nat), .int .u16 (st : Nat)] := P1.kept (gb_drew GG3) (by simp)
  have E2 : Bx V2.drew W1.heap.size 33 (.int .i64 (m : Nat)) (.slice sa n ca) := P2.kept (gb_drew GG3) (by simp)
  have E3 : Bx V2.drew W2.heap.size 33 (.int .i64 (m : Nat)) (.slice sh n ch) := P3.kept (gb_drew GG3) (by simp)
  have E4 : Bx V2.drew W3.heap.size 33 (.int .i64 (m : Nat)) (.slice sb n cb) := P4.kept (gb_drew GG3) (by simp)
  have E5 : Bx V2.drew W4.heap.size 33 (.int .i64 0) (.slice none 0 0) := B5.kept (gb_drew GG3) (by simp)
  have GD : w.grownBy V2.drew none := gb_trans G5 (gb_drew GG3)
  have PX1 := P1.kept GG3 (by simp)
  have px0 := PX1.cell 0 (v := .int .u8 1) rfl
  have px1 := PX1.cell 1 (v := .int .u16 (bo : Nat)) rfl
  have px2 := PX1.cell 2 (v := .int .u16 (st : Nat)) rfl
  have lka := fun w h => lookAtC m n ca sa pa Ma h3 w h
  have lkh := fun w h => lookAtC m n ch sh ph Mh h3 w h
  have lkb := fun w h => lookAtC m n cb sb pb Mb h3 w h
  have l1 : w.heap.size < W1.heap.size := by have := sz1.out; omega
  have l2 : W1.heap.size < W2.heap.size := by have := sz2.out; omega
  have l3 : W2.heap.size < W3.heap.size := by have := sz3.out; omega
  have l4 : W3.heap.size < W4.heap.size := by have := sz4.out; omega
  have n1 : W4.heap.size ≠ w.heap.size := by omega
  have n2 : W4.heap.size ≠ W1.heap.size := by omega
  have n3 : W4.heap.size ≠ W2.heap.size := by omega
  have n4 : W4.heap.size ≠ W3.heap.size := by omega
  have l5 : W4.heap.size < V2.drew.heap.size := E5.lt
  have hml := Ma.le
  have h2l : m2 ≤ 65538 := by have := HM2.out; omega
  have hnx := fun a0 a1 a2 h0 h1 h2 b0 b1 b2 w p0 p1 p2 p3 p4 p5 p6 p7 p8 => next1 bo st m2 k2 hb hs h2l HK2.out.symm pa ph pb a0 a1 a2 h0 h1 h2 b0 b1 b2 w p0 p1 p2 p3 p4 p5 p6 p7 p8
  rw [HM2.out, HK2.out] at lka lkh lkb
  have wad := wa.kept GD (by simp)
  have whd := wh.kept GD (by simp)
  have wbd := wb.kept GD (by simp)
  clear P1 P2 P3 P4 B1 B2 B3 B4 Q2 Q3 Q4 R20 R21 R30 R31 R40 R41 R50 R51 R52 hck hval0 hval1 hval2
  go_region_held2 (fun w' => w'.cell? ⟨w.heap.size, 0, none⟩ = some (.int .u8 1) ∧ w'.cell? ⟨w.heap.size, 1, none⟩ = some (.int .u16 (bo : Nat)) ∧ w'.cell? ⟨w.heap.size, 2, none⟩ = some (.int .u16 (st : Nat)) ∧ w'.cell? ⟨W1.heap.size, 0, none⟩ = some (.int .i64 (m : Nat)) ∧ w'.cell? ⟨W1.heap.size, 1, none⟩ = some (.slice sa n ca) ∧ w'.cell? ⟨W2.heap.size, 0, none⟩ = some (.int .i64 (m : Nat)) ∧ w'.cell? ⟨W2.heap.size, 1, none⟩ = some (.slice sh n ch) ∧ w'.cell? ⟨W3.heap.size, 0, none⟩ = some (.int .i64 (m : Nat)) ∧ w'.cell? ⟨W3.heap.size, 1, none⟩ = some (.slice sb n cb)) (go_keep) (first | (go_at_call 32; (fail_if_success (guard_hyp gX1)); refine (lka V2.drew wad).mono ?_; rintro e X1 ⟨a0, a1, a2, rfl, ar0, ar1, ar2, gX1, al0, al1, al2⟩; have Ea1 := E1.kept gX1 (by simp); have Ea1c0 := Ea1.cell 0 (v := .int .u8 1) rfl; have Ea1c1 := Ea1.cell 1 (v := .int .u16 (bo : Nat)) rfl; have Ea1c2 := Ea1.cell 2 (v := .int .u16 (st : Nat)) rfl; have Ea2 := E2.kept gX1 (by simp); have Ea2c0 := Ea2.cell0; have Ea2c1 := Ea2.cell1; have Ea3 := E3.kept gX1 (by simp); have Ea3c0 := Ea3.cell0; have Ea3c1 := Ea3.cell1; have Ea4 := E4.kept gX1 (by simp); have Ea4c0 := Ea4.cell0; have Ea4c1 := Ea4.cell1) | (go_at_call 32; guard_hyp gX1; (fail_if_success (guard_hyp gX2)); refine (lkh X1 (whd.kept gX1 (by simp))).mono ?_; rintro e X2 ⟨h0, h1, h2, rfl, hr0, hr1, hr2, gX2, hl0, hl1, hl2⟩; have Eh1 := Ea1.kept gX2 (by simp); have Eh1c0 := Eh1.cell 0 (v := .int .u8 1) rfl; have Eh1c1 := Eh1.cell 1 (v := .int .u16 (bo : Nat)) rfl; have Eh1c2 := Eh1.cell 2 (v := .int .u16 (st : Nat)) rfl; have Eh2 := Ea2.kept gX2 (by simp); have Eh2c0 := Eh2.cell0; have Eh2c1 := Eh2.cell1; have Eh3 := Ea3.kept gX2 (by simp); have Eh3c0 := Eh3.cell0; have Eh3c1 := Eh3.cell1; have Eh4 := Ea4.kept gX2 (by simp); have Eh4c0 := Eh4.cell0; have Eh4c1 := Eh4.cell1) | (go_at_call 32; guard_hyp gX2; refine (lkb X2 ((wbd.kept gX1 (by simp)).kept gX2 (by simp))).mono ?_; rintro e X3 ⟨b0, b1, b2, rfl, br0, br1, br2, gX3, bl0, bl1, bl2⟩; have Eb1 := Eh1.kept gX3 (by simp); have Eb1c0 := Eb1.cell 0 (v := .int .u8 1) rfl; have Eb1c1 := Eb1.cell 1 (v := .int .u16 (bo : Nat)) rfl; have Eb1c2 := Eb1.cell 2 (v := .int .u16 (st : Nat)) rfl; have Eb2 := Eh2.kept gX3 (by simp); have Eb2c0 := Eb2.cell0; have Eb2c1 := Eb2.cell1; have Eb3 := Eh3.kept gX3 (by simp); have Eb3c0 := Eb3.cell0; have Eb3c1 := Eb3.cell1; have Eb4 := Eh4.kept gX3 (by simp); have Eb4c0 := Eb4.cell0; have Eb4c1 := Eb4.cell1) | (go_at_call 31; refine (hnx a0 a1 a2 h0 h1 h2 b0 b1 b2 X3 ((ar0.kept gX2 (by simp)).kept gX3 (by simp)) ((ar1.kept gX2 (by simp)).kept gX3 (by simp)) ((ar2.kept gX2 (by simp)).kept gX3 (by simp)) (hr0.kept gX3 (by simp)) (hr1.kept gX3 (by simp)) (hr2.kept gX3 (by simp)) br0 br1 br2).mono ?_; rintro e X4 ⟨z, rfl, rz, gX4, lz⟩; have Ez1 := Eb1.kept gX4 (by simp); have Ez1c0 := Ez1.cell 0 (v := .int .u8 1) rfl; have Ez1c1 := Ez1.cell 1 (v := .int .u16 (bo : Nat)) rfl; have Ez1c2 := Ez1.cell 2 (v := .int .u16 (st : Nat)) rfl; have Ez2 := Eb2.kept gX4 (by simp); have Ez2c0 := Ez2.cell0; have Ez2c1 := Ez2.cell1; have Ez3 := Eb3.kept gX4 (by simp); have Ez3c0 := Ez3.cell0; have Ez3c1 := Ez3.cell1; have Ez4 := Eb4.kept gX4 (by simp); have Ez4c0 := Ez4.cell0; have Ez4c1 := Ez4.cell1; have gXX := gb_trans gX1 (gb_trans gX2 (gb_trans gX3 gX4)); have D5X := E5.kept gXX (by simp); have t0 := D5X.cell0; have t1 := D5X.cell1; have tf0 := D5X.free0; have tf1 := D5X.free1))
  all_goals go_wp2
  all_goals obtain ⟨fs, hfs⟩ := Wo.underR
  all_goals refine ret_box2 (g := W4.heap.size) (t := 33) rfl hfs Wo.infoR rfl (D5X.set _ _) rfl ?_
  all_goals have q1 := gX1.size
  all_goals have q2 := gX2.size
  all_goals have q3 := gX3.size
  all_goals have l7 : w.heap.size ≤ W4.heap.size := by omega
  all_goals have n9 : z ≠ W4.heap.size := by omega
  all_goals exact ⟨z, rfl, World.rowIs.setOther (World.rowIs.setOther rz n9 _) n9 _, gb_new (gb_new (gb_trans GD gXX) l7 _) l7 _, by omega⟩
set_option maxHeartbeats 4000000 in
theorem lineY2 (bo st m n : Nat) (hb : bo < 65536) (hs : st < 65536) (pa ph pb : Nat → Bool) (Ma : MayBe m n pa) (Mh : MayBe m n ph) (Mb : MayBe m n pb) (h3 : 3 ≤ m) (ca ch cb : Nat) (sa sh sb : Option Addr) (w : World) (hv : Hid (Hv w)) (wa : Wd w sa n (Pk.pack pa)) (wh : Wd w sh n (Pk.pack ph)) (wb : Wd w sb n (Pk.pack pb)) (hc : Lf.ck 2 bo st = 0) :
    Calls Tryz.prog 9 #[.agg #[.int .u8 2, .int .u16 (bo : Nat), .int .u16 (st : Nat)], .agg #[.int .i64 ((m : Nat) : Int), .slice sa n ca], .agg #[.int .i64 ((m : Nat) : Int), .slice sh n ch], .agg #[.int .i64 ((m : Nat) : Int), .slice sb n cb]] w fun e w' => ∃ z, e = .returned (.tuple #[.agg #[.int .i64 ((m - 2 : Nat) : Int), .slice (some ⟨z, 0, none⟩) ((m - 2 + 63) / 64) ((m - 2 + 63) / 64)], .int .i64 0]) ∧ Row w' 37 z ((m - 2 + 63) / 64) (ln 2 bo st pa ph pb (m - 2)) ∧ w.grownBy w' none ∧ w.heap.size ≤ z := by
  obtain ⟨m2, hm2⟩ : ∃ m2, m - 2 = m2 := ⟨_, rfl⟩
  obtain ⟨k2, hk2⟩ : ∃ k2, (m2 + 63) / 64 = k2 := ⟨_, rfl⟩
  rw [hm2, hk2]
  have HM2 : Hid (m - 2 = m2) := hm2
  have HK2 : Hid ((m2 + 63) / 64 = k2) := hk2
  clear hm2 hk2
  have hn : n ≤ 9223372036854775807 := by have := Wo.MayBe.len Ma; omega
  have va := Wo.validB_may Ma
  have vh := Wo.validB_may Mh
  have vb := Wo.validB_may Mb
  have N3a : ¬ ((m : Nat) : Int) < 3 := by omega
  have nee : (((m : Nat) : Int) != ((m : Nat) : Int)) = false := by simp
  have hh : 2 < 256 := by decide
  obtain ⟨W1, hW1, sz1, g1, B1⟩ := boxn w #[.int .u8 2, .int .u16 (bo : Nat), .int .u16 (st : Nat)] 28
  obtain ⟨W2, hW2, a0, a1, sz2, g2, B2⟩ := box2 W1 (.int .i64 ((m : Nat) : Int)) (.slice sa n ca) 33
  obtain ⟨W3, hW3, h0, h1, sz3, g3, B3⟩ := box2 W2 (.int .i64 ((m : Nat) : Int)) (.slice sh n ch) 33
  obtain ⟨W4, hW4, b0, b1, sz4, g4, B4⟩ := box2 W3 (.int .i64 ((m : Nat) : Int)) (.slice sb n cb) 33
  obtain ⟨W5, hW5, r0, r1, sz5, g5, B5⟩ := box2 W4 (.int .i64 0) (.slice none 0 0) 33
  have G5 : w.grownBy W5 none := gb_trans g1 (gb_trans g2 (gb_trans g3 (gb_trans g4 g5)))
  have P1 := B1.kept (gb_trans g2 (gb_trans g3 (gb_trans g4 g5))) (by simp)
  have P2 := B2.kept (gb_trans g3 (gb_trans g4 g5)) (by simp)
  have P3 := B3.kept (gb_trans g4 g5) (by simp)
  have P4 := B4.kept g5 (by simp)
  have l0 := P1.cell 0 (v := .int .u8 2) rfl
  have l1 := P1.cell 1 (v := .int .u16 (bo : Nat)) rfl
  have l2 := P1.cell 2 (v := .int .u16 (st : Nat)) rfl
  have hck := fun w hv => lifeCk 2 bo st hh hb hs w hv
  rw [hc] at hck
  have hv5 := hvK hv G5
  have k0 := jx0
  have k1 := jx1
  have kx2 := jx2
  go_enter Tryz.func9, Tryz.ntmps9
  go_wp2_with (go_at_call 30; refine (hck W5 hv5).mono ?_; rintro e V ⟨rfl, gV⟩; have Q2 := P2.kept gV (by simp); have Q3 := P3.kept gV (by simp); have Q4 := P4.kept gV (by simp); have x0 := Q2.cell0; have x1 := Q2.cell1; have x2 := Q3.cell0; have x3 := Q3.cell1; have x4 := Q4.cell0; have x5 := Q4.cell1)
  have GG0 : W5.grownBy V none := gV
  refine wp_loop_rounds 4 ?_
  obtain ⟨U0, hU0, i00, i10, szU0, gU0, BU0⟩ := box2 V (.int .i64 ((m : Nat) : Int)) (.slice sa n ca) 33
  have hval0 := Wo.validC ((m : Nat) : Int) n ca sa (Pk.pack pa) (fun k _ => Pk.pack_lt _ _) hn U0 (wa.kept (gb_trans (gb_trans G5 GG0) gU0) (by simp))
  rw [va] at hval0
  rw [rounds_succ]
  go_wp2_with (go_at_call 24; refine hval0.mono ?_; rintro e V0 ⟨rfl, gV0⟩; have BV0 := BU0.kept gV0 (by simp); have j00 := BV0.cell0; have j10 := BV0.cell1; have R20 := P2.kept (gb_trans GG0 (gb_trans gU0 gV0)) (by simp); have R30 := P3.kept (gb_trans GG0 (gb_trans gU0 gV0)) (by simp); have R40 := P4.kept (gb_trans GG0 (gb_trans gU0 gV0)) (by simp); have R50 := B5.kept (gb_trans GG0 (gb_trans gU0 gV0)) (by simp); have y00 := R20.cell0; have y10 := R20.cell1; have y20 := R30.cell0; have y30 := R30.cell1; have y40 := R40.cell0; have y50 := R40.cell1; have t00 := R50.cell0; have t10 := R50.cell1; have tf00 := R50.free0; have tf10 := R50.free1)
  have GG1 : W5.grownBy V0 none := gb_trans GG0 (gb_trans gU0 gV0)
  obtain ⟨U1, hU1, i01, i11, szU1, gU1, BU1⟩ := box2 V0 (.int .i64 ((m : Nat) : Int)) (.slice sh n ch) 33
  have hval1 := Wo.validC ((m : Nat) : Int) n ch sh (Pk.pack ph) (fun k _ => Pk.pack_lt _ _) hn U1 (wh.kept (gb_trans (gb_trans G5 GG1) gU1) (by simp))
  rw [vh] at hval1
  rw [rounds_succ]
  go_wp2_with (go_at_call 24; refine hval1.mono ?_; rintro e V1 ⟨rfl, gV1⟩; have BV1 := BU1.kept gV1 (by simp); have j01 := BV1.cell0; have j11 := BV1.cell1; have R21 := P2.kept (gb_trans GG1 (gb_trans gU1 gV1)) (by simp); have R31 := P3.kept (gb_trans GG1 (gb_trans gU1 gV1)) (by simp); have R41 := P4.kept (gb_trans GG1 (gb_trans gU1 gV1)) (by simp); have R51 := B5.kept (gb_trans GG1 (gb_trans gU1 gV1)) (by simp); have y01 := R21.cell0; have y11 := R21.cell1; have y21 := R31.cell0; have y31 := R31.cell1; have y41 := R41.cell0; have y51 := R41.cell1; have t01 := R51.cell0; have t11 := R51.cell1; have tf01 := R51.free0; have tf11 := R51.free1)
  have GG2 : W5.grownBy V1 none := gb_trans GG1 (gb_trans gU1 gV1)
  obtain ⟨U2, hU2, i02, i12, szU2, gU2, BU2⟩ := box2 V1 (.int .i64 ((m : Nat) : Int)) (.slice sb n cb) 33
  have hval2 := Wo.validC ((m : Nat) : Int) n cb sb (Pk.pack pb) (fun k _ => Pk.pack_lt _ _) hn U2 (wb.kept (gb_trans (gb_trans G5 GG2) gU2) (by simp))
  rw [vb] at hval2
  rw [rounds_succ]
  go_wp2_with (go_at_call 24; refine hval2.mono ?_; rintro e V2 ⟨rfl, gV2⟩; have BV2 := BU2.kept gV2 (by simp); have j02 := BV2.cell0; have j12 := BV2.cell1; have R22 := P2.kept (gb_trans GG2 (gb_trans gU2 gV2)) (by simp); have R32 := P3.kept (gb_trans GG2 (gb_trans gU2 gV2)) (by simp); have R42 := P4.kept (gb_trans GG2 (gb_trans gU2 gV2)) (by simp); have R52 := B5.kept (gb_trans GG2 (gb_trans gU2 gV2)) (by simp); have y02 := R22.cell0; have y12 := R22.cell1; have y22 := R32.cell0; have y32 := R32.cell1; have y42 := R42.cell0; have y52 := R42.cell1; have t02 := R52.cell0; have t12 := R52.cell1; have tf02 := R52.free0; have tf12 := R52.free1)
  have GG3 : W5.grownBy V2 none := gb_trans GG2 (gb_trans gU2 gV2)
  rw [rounds_succ]
  go_wp2
  have E1 : Bo V2.drew w.heap.size 28 #[.int .u8 2, .int .u16 (bo : Nat), .int .u16 (st : Nat)] := P1.kept (gb_drew GG3) (by simp)
  have E2 : Bx V2.drew W1.heap.size 33 (.int .i64 (m : Nat)) (.slice sa n ca) := P2.kept (gb_drew GG3) (by simp)
  have E3 : Bx V2.drew W2.heap.size 33 (.int .i64 (m : Nat)) (.slice sh n ch) := P3.kept (gb_drew GG3) (by simp)
  have E4 : Bx V2.drew W3.heap.size 33 (.int .i64 (m : Nat)) (.slice sb n cb) := P4.kept (gb_drew GG3) (by simp)
  have E5 : Bx V2.drew W4.heap.size 33 (.int .i64 0) (.slice none 0 0) := B5.kept (gb_drew GG3) (by simp)
  have GD : w.grownBy V2.drew none := gb_trans G5 (gb_drew GG3)
  have PX1 := P1.kept GG3 (by simp)
  have px0 := PX1.cell 0 (v := .int .u8 2) rfl
  have px1 := PX1.cell 1 (v := .int .u16 (bo : Nat)) rfl
  have px2 := PX1.cell 2 (v := .int .u16 (st : Nat)) rfl
  have lka := fun w h => lookAtC m n ca sa pa Ma h3 w h
  have lkh := fun w h => lookAtC m n ch sh ph Mh h3 w h
  have lkb := fun w h => lookAtC m n cb sb pb Mb h3 w h
  have l1 : w.heap.size < W1.heap.size := by have := sz1.out; omega
  have l2 : W1.heap.size < W2.heap.size := by have := sz2.out; omega
  have l3 : W2.heap.size < W3.heap.size := by have := sz3.out; omega
  have l4 : W3.heap.size < W4.heap.size := by have := sz4.out; omega
  have n1 : W4.heap.size ≠ w.heap.size := by omega
  have n2 : W4.heap.size ≠ W1.heap.size := by omega
  have n3 : W4.heap.size ≠ W2.heap.size := by omega
  have n4 : W4.heap.size ≠ W3.heap.size := by omega
  have l5 : W4.heap.size < V2.drew.heap.size := E5.lt
  have hml := Ma.le
  have h2l : m2 ≤ 65538 := by have := HM2.out; omega
  have hnx := fun a0 a1 a2 h0 h1 h2 b0 b1 b2 w p0 p1 p2 p3 p4 p5 p6 p7 p8 => next2 bo st m2 k2 hb hs h2l HK2.out.symm pa ph pb a0 a1 a2 h0 h1 h2 b0 b1 b2 w p0 p1 p2 p3 p4 p5 p6 p7 p8
  rw [HM2.out, HK2.out] at lka lkh lkb
  have wad := wa.kept GD (by simp)
  have whd := wh.kept GD (by simp)
  have wbd := wb.kept GD (by simp)
  clear P1 P2 P3 P4 B1 B2 B3 B4 Q2 Q3 Q4 R20 R21 R30 R31 R40 R41 R50 R51 R52 hck hval0 hval1 hval2
  go_region_held2 (fun w' => w'.cell? ⟨w.heap.size, 0, none⟩ = some (.int .u8 2) ∧ w'.cell? ⟨w.heap.size, 1, none⟩ = some (.int .u16 (bo : Nat)) ∧ w'.cell? ⟨w.heap.size, 2, none⟩ = some (.int .u16 (st : Nat)) ∧ w'.cell? ⟨W1.heap.size, 0, none⟩ = some (.int .i64 (m : Nat)) ∧ w'.cell? ⟨W1.heap.size, 1, none⟩ = some (.slice sa n ca) ∧ w'.cell? ⟨W2.heap.size, 0, none⟩ = some (.int .i64 (m : Nat)) ∧ w'.cell? ⟨W2.heap.size, 1, none⟩ = some (.slice sh n ch) ∧ w'.cell? ⟨W3.heap.size, 0, none⟩ = some (.int .i64 (m : Nat)) ∧ w'.cell? ⟨W3.heap.size, 1, none⟩ = some (.slice sb n cb)) (go_keep) (first | (go_at_call 32; (fail_if_success (guard_hyp gX1)); refine (lka V2.drew wad).mono ?_; rintro e X1 ⟨a0, a1, a2, rfl, ar0, ar1, ar2, gX1, al0, al1, al2⟩; have Ea1 := E1.kept gX1 (by simp); have Ea1c0 := Ea1.cell 0 (v := .int .u8 2) rfl; have Ea1c1 := Ea1.cell 1 (v := .int .u16 (bo : Nat)) rfl; have Ea1c2 := Ea1.cell 2 (v := .int .u16 (st : Nat)) rfl; have Ea2 := E2.kept gX1 (by simp); have Ea2c0 := Ea2.cell0; have Ea2c1 := Ea2.cell1; have Ea3 := E3.kept gX1 (by simp); have Ea3c0 := Ea3.cell0; have Ea3c1 := Ea3.cell1; have Ea4 := E4.kept gX1 (by simp); have Ea4c0 := Ea4.cell0; have Ea4c1 := Ea4.cell1) | (go_at_call 32; guard_hyp gX1; (fail_if_success (guard_hyp gX2)); refine (lkh X1 (whd.kept gX1 (by simp))).mono ?_; rintro e X2 ⟨h0, h1, h2, rfl, hr0, hr1, hr2, gX2, hl0, hl1, hl2⟩; have Eh1 := Ea1.kept gX2 (by simp); have Eh1c0 := Eh1.cell 0 (v := .int .u8 2) rfl; have Eh1c1 := Eh1.cell 1 (v := .int .u16 (bo : Nat)) rfl; have Eh1c2 := Eh1.cell 2 (v := .int .u16 (st : Nat)) rfl; have Eh2 := Ea2.kept gX2 (by simp); have Eh2c0 := Eh2.cell0; have Eh2c1 := Eh2.cell1; have Eh3 := Ea3.kept gX2 (by simp); have Eh3c0 := Eh3.cell0; have Eh3c1 := Eh3.cell1; have Eh4 := Ea4.kept gX2 (by simp); have Eh4c0 := Eh4.cell0; have Eh4c1 := Eh4.cell1) | (go_at_call 32; guard_hyp gX2; refine (lkb X2 ((wbd.kept gX1 (by simp)).kept gX2 (by simp))).mono ?_; rintro e X3 ⟨b0, b1, b2, rfl, br0, br1, br2, gX3, bl0, bl1, bl2⟩; have Eb1 := Eh1.kept gX3 (by simp); have Eb1c0 := Eb1.cell 0 (v := .int .u8 2) rfl; have Eb1c1 := Eb1.cell 1 (v := .int .u16 (bo : Nat)) rfl; have Eb1c2 := Eb1.cell 2 (v := .int .u16 (st : Nat)) rfl; have Eb2 := Eh2.kept gX3 (by simp); have Eb2c0 := Eb2.cell0; have Eb2c1 := Eb2.cell1; have Eb3 := Eh3.kept gX3 (by simp); have Eb3c0 := Eb3.cell0; have Eb3c1 := Eb3.cell1; have Eb4 := Eh4.kept gX3 (by simp); have Eb4c0 := Eb4.cell0; have Eb4c1 := Eb4.cell1) | (go_at_call 31; refine (hnx a0 a1 a2 h0 h1 h2 b0 b1 b2 X3 ((ar0.kept gX2 (by simp)).kept gX3 (by simp)) ((ar1.kept gX2 (by simp)).kept gX3 (by simp)) ((ar2.kept gX2 (by simp)).kept gX3 (by simp)) (hr0.kept gX3 (by simp)) (hr1.kept gX3 (by simp)) (hr2.kept gX3 (by simp)) br0 br1 br2).mono ?_; rintro e X4 ⟨z, rfl, rz, gX4, lz⟩; have Ez1 := Eb1.kept gX4 (by simp); have Ez1c0 := Ez1.cell 0 (v := .int .u8 2) rfl; have Ez1c1 := Ez1.cell 1 (v := .int .u16 (bo : Nat)) rfl; have Ez1c2 := Ez1.cell 2 (v := .int .u16 (st : Nat)) rfl; have Ez2 := Eb2.kept gX4 (by simp); have Ez2c0 := Ez2.cell0; have Ez2c1 := Ez2.cell1; have Ez3 := Eb3.kept gX4 (by simp); have Ez3c0 := Ez3.cell0; have Ez3c1 := Ez3.cell1; have Ez4 := Eb4.kept gX4 (by simp); have Ez4c0 := Ez4.cell0; have Ez4c1 := Ez4.cell1; have gXX := gb_trans gX1 (gb_trans gX2 (gb_trans gX3 gX4)); have D5X := E5.kept gXX (by simp); have t0 := D5X.cell0; have t1 := D5X.cell1; have tf0 := D5X.free0; have tf1 := D5X.free1))
  all_goals go_wp2
  all_goals obtain ⟨fs, hfs⟩ := Wo.underR
  all_goals refine ret_box2 (g := W4.heap.size) (t := 33) rfl hfs Wo.infoR rfl (D5X.set _ _) rfl ?_
  all_goals have q1 := gX1.size
  all_goals have q2 := gX2.size
  all_goals have q3 := gX3.size
  all_goals have l7 : w.heap.size ≤ W4.heap.size := by omega
  all_goals have n9 : z ≠ W4.heap.size := by omega
  all_goals exact ⟨z, rfl, World.rowIs.setOther (World.rowIs.setOther rz n9 _) n9 _, gb_new (gb_new (gb_trans GD gXX) l7 _) l7 _, by omega⟩
set_option maxHeartbeats 4000000 in
theorem lineY3 (bo st m n : Nat) (hb : bo < 65536) (hs : st < 65536) (pa ph pb : Nat → Bool) (Ma : MayBe m n pa) (Mh : MayBe m n ph) (Mb : MayBe m n pb) (h3 : 3 ≤ m) (ca ch cb : Nat) (sa sh sb : Option Addr) (w : World) (hv : Hid (Hv w)) (wa : Wd w sa n (Pk.pack pa)) (wh : Wd w sh n (Pk.pack ph)) (wb : Wd w sb n (Pk.pack pb)) (hc : Lf.ck 3 bo st = 0) :
    Calls Tryz.prog 9 #[.agg #[.int .u8 3, .int .u16 (bo : Nat), .int .u16 (st : Nat)], .agg #[.int .i64 ((m : Nat) : Int), .slice sa n ca], .agg #[.int .i64 ((m : Nat) : Int), .slice sh n ch], .agg #[.int .i64 ((m : Nat) : Int), .slice sb n cb]] w fun e w' => ∃ z, e = .returned (.tuple #[.agg #[.int .i64 ((m - 2 : Nat) : Int), .slice (some ⟨z, 0, none⟩) ((m - 2 + 63) / 64) ((m - 2 + 63) / 64)], .int .i64 0]) ∧ Row w' 37 z ((m - 2 + 63) / 64) (ln 3 bo st pa ph pb (m - 2)) ∧ w.grownBy w' none ∧ w.heap.size ≤ z := by
  obtain ⟨m2, hm2⟩ : ∃ m2, m - 2 = m2 := ⟨_, rfl⟩
  obtain ⟨k2, hk2⟩ : ∃ k2, (m2 + 63) / 64 = k2 := ⟨_, rfl⟩
  rw [hm2, hk2]
  have HM2 : Hid (m - 2 = m2) := hm2
  have HK2 : Hid ((m2 + 63) / 64 = k2) := hk2
  clear hm2 hk2
  have hn : n ≤ 9223372036854775807 := by have := Wo.MayBe.len Ma; omega
  have va := Wo.validB_may Ma
  have vh := Wo.validB_may Mh
  have vb := Wo.validB_may Mb
  have N3a : ¬ ((m : Nat) : Int) < 3 := by omega
  have nee : (((m : Nat) : Int) != ((m : Nat) : Int)) = false := by simp
  have hh : 3 < 256 := by decide
  obtain ⟨W1, hW1, sz1, g1, B1⟩ := boxn w #[.int .u8 3, .int .u16 (bo : Nat), .int .u16 (st : Nat)] 28
  obtain ⟨W2, hW2, a0, a1, sz2, g2, B2⟩ := box2 W1 (.int .i64 ((m : Nat) : Int)) (.slice sa n ca) 33
  obtain ⟨W3, hW3, h0, h1, sz3, g3, B3⟩ := box2 W2 (.int .i64 ((m : Nat) : Int)) (.slice sh n ch) 33
  obtain ⟨W4, hW4, b0, b1, sz4, g4, B4⟩ := box2 W3 (.int .i64 ((m : Nat) : Int)) (.slice sb n cb) 33
  obtain ⟨W5, hW5, r0, r1, sz5, g5, B5⟩ := box2 W4 (.int .i64 0) (.slice none 0 0) 33
  have G5 : w.grownBy W5 none := gb_trans g1 (gb_trans g2 (gb_trans g3 (gb_trans g4 g5)))
  have P1 := B1.kept (gb_trans g2 (gb_trans g3 (gb_trans g4 g5))) (by simp)
  have P2 := B2.kept (gb_trans g3 (gb_trans g4 g5)) (by simp)
  have P3 := B3.kept (gb_trans g4 g5) (by simp)
  have P4 := B4.kept g5 (by simp)
  have l0 := P1.cell 0 (v := .int .u8 3) rfl
  have l1 := P1.cell 1 (v := .int .u16 (bo : Nat)) rfl
  have l2 := P1.cell 2 (v := .int .u16 (st : Nat)) rfl
  have hck := fun w hv => lifeCk 3 bo st hh hb hs w hv
  rw [hc] at hck
  have hv5 := hvK hv G5
  have k0 := jx0
  have k1 := jx1
  have kx2 := jx2
  go_enter Tryz.func9, Tryz.ntmps9
  go_wp2_with (go_at_call 30; refine (hck W5 hv5).mono ?_; rintro e V ⟨rfl, gV⟩; have Q2 := P2.kept gV (by simp); have Q3 := P3.kept gV (by simp); have Q4 := P4.kept gV (by simp); have x0 := Q2.cell0; have x1 := Q2.cell1; have x2 := Q3.cell0; have x3 := Q3.cell1; have x4 := Q4.cell0; have x5 := Q4.cell1)
  have GG0 : W5.grownBy V none := gV
  refine wp_loop_rounds 4 ?_
  obtain ⟨U0, hU0, i00, i10, szU0, gU0, BU0⟩ := box2 V (.int .i64 ((m : Nat) : Int)) (.slice sa n ca) 33
  have hval0 := Wo.validC ((m : Nat) : Int) n ca sa (Pk.pack pa) (fun k _ => Pk.pack_lt _ _) hn U0 (wa.kept (gb_trans (gb_trans G5 GG0) gU0) (by simp))
  rw [va] at hval0
  rw [rounds_succ]
  go_wp2_with (go_at_call 24; refine hval0.mono ?_; rintro e V0 ⟨rfl, gV0⟩; have BV0 := BU0.kept gV0 (by simp); have j00 := BV0.cell0; have j10 := BV0.cell1; have R20 := P2.kept (gb_trans GG0 (gb_trans gU0 gV0)) (by simp); have R30 := P3.kept (gb_trans GG0 (gb_trans gU0 gV0)) (by simp); have R40 := P4.kept (gb_trans GG0 (gb_trans gU0 gV0)) (by simp); have R50 := B5.kept (gb_trans GG0 (gb_trans gU0 gV0)) (by simp); have y00 := R20.cell0; have y10 := R20.cell1; have y20 := R30.cell0; have y30 := R30.cell1; have y40 := R40.cell0; have y50 := R40.cell1; have t00 := R50.cell0; have t10 := R50.cell1; have tf00 := R50.free0; have tf10 := R50.free1)
  have GG1 : W5.grownBy V0 none := gb_trans GG0 (gb_trans gU0 gV0)
  obtain ⟨U1, hU1, i01, i11, szU1, gU1, BU1⟩ := box2 V0 (.int .i64 ((m : Nat) : Int)) (.slice sh n ch) 33
  have hval1 := Wo.validC ((m : Nat) : Int) n ch sh (Pk.pack ph) (fun k _ => Pk.pack_lt _ _) hn U1 (wh.kept (gb_trans (gb_trans G5 GG1) gU1) (by simp))
  rw [vh] at hval1
  rw [rounds_succ]
  go_wp2_with (go_at_call 24; refine hval1.mono ?_; rintro e V1 ⟨rfl, gV1⟩; have BV1 := BU1.kept gV1 (by simp); have j01 := BV1.cell0; have j11 := BV1.cell1; have R21 := P2.kept (gb_trans GG1 (gb_trans gU1 gV1)) (by simp); have R31 := P3.kept (gb_trans GG1 (gb_trans gU1 gV1)) (by simp); have R41 := P4.kept (gb_trans GG1 (gb_trans gU1 gV1)) (by simp); have R51 := B5.kept (gb_trans GG1 (gb_trans gU1 gV1)) (by simp); have y01 := R21.cell0; have y11 := R21.cell1; have y21 := R31.cell0; have y31 := R31.cell1; have y41 := R41.cell0; have y51 := R41.cell1; have t01 := R51.cell0; have t11 := R51.cell1; have tf01 := R51.free0; have tf11 := R51.free1)
  have GG2 : W5.grownBy V1 none := gb_trans GG1 (gb_trans gU1 gV1)
  obtain ⟨U2, hU2, i02, i12, szU2, gU2, BU2⟩ := box2 V1 (.int .i64 ((m : Nat) : Int)) (.slice sb n cb) 33
  have hval2 := Wo.validC ((m : Nat) : Int) n cb sb (Pk.pack pb) (fun k _ => Pk.pack_lt _ _) hn U2 (wb.kept (gb_trans (gb_trans G5 GG2) gU2) (by simp))
  rw [vb] at hval2
  rw [rounds_succ]
  go_wp2_with (go_at_call 24; refine hval2.mono ?_; rintro e V2 ⟨rfl, gV2⟩; have BV2 := BU2.kept gV2 (by simp); have j02 := BV2.cell0; have j12 := BV2.cell1; have R22 := P2.kept (gb_trans GG2 (gb_trans gU2 gV2)) (by simp); have R32 := P3.kept (gb_trans GG2 (gb_trans gU2 gV2)) (by simp); have R42 := P4.kept (gb_trans GG2 (gb_trans gU2 gV2)) (by simp); have R52 := B5.kept (gb_trans GG2 (gb_trans gU2 gV2)) (by simp); have y02 := R22.cell0; have y12 := R22.cell1; have y22 := R32.cell0; have y32 := R32.cell1; have y42 := R42.cell0; have y52 := R42.cell1; have t02 := R52.cell0; have t12 := R52.cell1; have tf02 := R52.free0; have tf12 := R52.free1)
  have GG3 : W5.grownBy V2 none := gb_trans GG2 (gb_trans gU2 gV2)
  rw [rounds_succ]
  go_wp2
  have E1 : Bo V2.drew w.heap.size 28 #[.int .u8 3, .int .u16 (bo : Nat), .int .u16 (st : Nat)] := P1.kept (gb_drew GG3) (by simp)
  have E2 : Bx V2.drew W1.heap.size 33 (.int .i64 (m : Nat)) (.slice sa n ca) := P2.kept (gb_drew GG3) (by simp)
  have E3 : Bx V2.drew W2.heap.size 33 (.int .i64 (m : Nat)) (.slice sh n ch) := P3.kept (gb_drew GG3) (by simp)
  have E4 : Bx V2.drew W3.heap.size 33 (.int .i64 (m : Nat)) (.slice sb n cb) := P4.kept (gb_drew GG3) (by simp)
  have E5 : Bx V2.drew W4.heap.size 33 (.int .i64 0) (.slice none 0 0) := B5.kept (gb_drew GG3) (by simp)
  have GD : w.grownBy V2.drew none := gb_trans G5 (gb_drew GG3)
  have PX1 := P1.kept GG3 (by simp)
  have px0 := PX1.cell 0 (v := .int .u8 3) rfl
  have px1 := PX1.cell 1 (v := .int .u16 (bo : Nat)) rfl
  have px2 := PX1.cell 2 (v := .int .u16 (st : Nat)) rfl
  have lka := fun w h => lookAtC m n ca sa pa Ma h3 w h
  have lkh := fun w h => lookAtC m n ch sh ph Mh h3 w h
  have lkb := fun w h => lookAtC m n cb sb pb Mb h3 w h
  have l1 : w.heap.size < W1.heap.size := by have := sz1.out; omega
  have l2 : W1.heap.size < W2.heap.size := by have := sz2.out; omega
  have l3 : W2.heap.size < W3.heap.size := by have := sz3.out; omega
  have l4 : W3.heap.size < W4.heap.size := by have := sz4.out; omega
  have n1 : W4.heap.size ≠ w.heap.size := by omega
  have n2 : W4.heap.size ≠ W1.heap.size := by omega
  have n3 : W4.heap.size ≠ W2.heap.size := by omega
  have n4 : W4.heap.size ≠ W3.heap.size := by omega
  have l5 : W4.heap.size < V2.drew.heap.size := E5.lt
  have hml := Ma.le
  have h2l : m2 ≤ 65538 := by have := HM2.out; omega
  have hnx := fun a0 a1 a2 h0 h1 h2 b0 b1 b2 w p0 p1 p2 p3 p4 p5 p6 p7 p8 => next3 bo st m2 k2 hb hs h2l HK2.out.symm pa ph pb a0 a1 a2 h0 h1 h2 b0 b1 b2 w p0 p1 p2 p3 p4 p5 p6 p7 p8
  rw [HM2.out, HK2.out] at lka lkh lkb
  have wad := wa.kept GD (by simp)
  have whd := wh.kept GD (by simp)
  have wbd := wb.kept GD (by simp)
  clear P1 P2 P3 P4 B1 B2 B3 B4 Q2 Q3 Q4 R20 R21 R30 R31 R40 R41 R50 R51 R52 hck hval0 hval1 hval2
  go_region_held2 (fun w' => w'.cell? ⟨w.heap.size, 0, none⟩ = some (.int .u8 3) ∧ w'.cell? ⟨w.heap.size, 1, none⟩ = some (.int .u16 (bo : Nat)) ∧ w'.cell? ⟨w.heap.size, 2, none⟩ = some (.int .u16 (st : Nat)) ∧ w'.cell? ⟨W1.heap.size, 0, none⟩ = some (.int .i64 (m : Nat)) ∧ w'.cell? ⟨W1.heap.size, 1, none⟩ = some (.slice sa n ca) ∧ w'.cell? ⟨W2.heap.size, 0, none⟩ = some (.int .i64 (m : Nat)) ∧ w'.cell? ⟨W2.heap.size, 1, none⟩ = some (.slice sh n ch) ∧ w'.cell? ⟨W3.heap.size, 0, none⟩ = some (.int .i64 (m : Nat)) ∧ w'.cell? ⟨W3.heap.size, 1, none⟩ = some (.slice sb n cb)) (go_keep) (first | (go_at_call 32; (fail_if_success (guard_hyp gX1)); refine (lka V2.drew wad).mono ?_; rintro e X1 ⟨a0, a1, a2, rfl, ar0, ar1, ar2, gX1, al0, al1, al2⟩; have Ea1 := E1.kept gX1 (by simp); have Ea1c0 := Ea1.cell 0 (v := .int .u8 3) rfl; have Ea1c1 := Ea1.cell 1 (v := .int .u16 (bo : Nat)) rfl; have Ea1c2 := Ea1.cell 2 (v := .int .u16 (st : Nat)) rfl; have Ea2 := E2.kept gX1 (by simp); have Ea2c0 := Ea2.cell0; have Ea2c1 := Ea2.cell1; have Ea3 := E3.kept gX1 (by simp); have Ea3c0 := Ea3.cell0; have Ea3c1 := Ea3.cell1; have Ea4 := E4.kept gX1 (by simp); have Ea4c0 := Ea4.cell0; have Ea4c1 := Ea4.cell1) | (go_at_call 32; guard_hyp gX1; (fail_if_success (guard_hyp gX2)); refine (lkh X1 (whd.kept gX1 (by simp))).mono ?_; rintro e X2 ⟨h0, h1, h2, rfl, hr0, hr1, hr2, gX2, hl0, hl1, hl2⟩; have Eh1 := Ea1.kept gX2 (by simp); have Eh1c0 := Eh1.cell 0 (v := .int .u8 3) rfl; have Eh1c1 := Eh1.cell 1 (v := .int .u16 (bo : Nat)) rfl; have Eh1c2 := Eh1.cell 2 (v := .int .u16 (st : Nat)) rfl; have Eh2 := Ea2.kept gX2 (by simp); have Eh2c0 := Eh2.cell0; have Eh2c1 := Eh2.cell1; have Eh3 := Ea3.kept gX2 (by simp); have Eh3c0 := Eh3.cell0; have Eh3c1 := Eh3.cell1; have Eh4 := Ea4.kept gX2 (by simp); have Eh4c0 := Eh4.cell0; have Eh4c1 := Eh4.cell1) | (go_at_call 32; guard_hyp gX2; refine (lkb X2 ((wbd.kept gX1 (by simp)).kept gX2 (by simp))).mono ?_; rintro e X3 ⟨b0, b1, b2, rfl, br0, br1, br2, gX3, bl0, bl1, bl2⟩; have Eb1 := Eh1.kept gX3 (by simp); have Eb1c0 := Eb1.cell 0 (v := .int .u8 3) rfl; have Eb1c1 := Eb1.cell 1 (v := .int .u16 (bo : Nat)) rfl; have Eb1c2 := Eb1.cell 2 (v := .int .u16 (st : Nat)) rfl; have Eb2 := Eh2.kept gX3 (by simp); have Eb2c0 := Eb2.cell0; have Eb2c1 := Eb2.cell1; have Eb3 := Eh3.kept gX3 (by simp); have Eb3c0 := Eb3.cell0; have Eb3c1 := Eb3.cell1; have Eb4 := Eh4.kept gX3 (by simp); have Eb4c0 := Eb4.cell0; have Eb4c1 := Eb4.cell1) | (go_at_call 31; refine (hnx a0 a1 a2 h0 h1 h2 b0 b1 b2 X3 ((ar0.kept gX2 (by simp)).kept gX3 (by simp)) ((ar1.kept gX2 (by simp)).kept gX3 (by simp)) ((ar2.kept gX2 (by simp)).kept gX3 (by simp)) (hr0.kept gX3 (by simp)) (hr1.kept gX3 (by simp)) (hr2.kept gX3 (by simp)) br0 br1 br2).mono ?_; rintro e X4 ⟨z, rfl, rz, gX4, lz⟩; have Ez1 := Eb1.kept gX4 (by simp); have Ez1c0 := Ez1.cell 0 (v := .int .u8 3) rfl; have Ez1c1 := Ez1.cell 1 (v := .int .u16 (bo : Nat)) rfl; have Ez1c2 := Ez1.cell 2 (v := .int .u16 (st : Nat)) rfl; have Ez2 := Eb2.kept gX4 (by simp); have Ez2c0 := Ez2.cell0; have Ez2c1 := Ez2.cell1; have Ez3 := Eb3.kept gX4 (by simp); have Ez3c0 := Ez3.cell0; have Ez3c1 := Ez3.cell1; have Ez4 := Eb4.kept gX4 (by simp); have Ez4c0 := Ez4.cell0; have Ez4c1 := Ez4.cell1; have gXX := gb_trans gX1 (gb_trans gX2 (gb_trans gX3 gX4)); have D5X := E5.kept gXX (by simp); have t0 := D5X.cell0; have t1 := D5X.cell1; have tf0 := D5X.free0; have tf1 := D5X.free1))
  all_goals go_wp2
  all_goals obtain ⟨fs, hfs⟩ := Wo.underR
  all_goals refine ret_box2 (g := W4.heap.size) (t := 33) rfl hfs Wo.infoR rfl (D5X.set _ _) rfl ?_
  all_goals have q1 := gX1.size
  all_goals have q2 := gX2.size
  all_goals have q3 := gX3.size
  all_goals have l7 : w.heap.size ≤ W4.heap.size := by omega
  all_goals have n9 : z ≠ W4.heap.size := by omega
  all_goals exact ⟨z, rfl, World.rowIs.setOther (World.rowIs.setOther rz n9 _) n9 _, gb_new (gb_new (gb_trans GD gXX) l7 _) l7 _, by omega⟩
end Go.Proofs.YthjiiljglgmkpaaGreatDoor.Pd
