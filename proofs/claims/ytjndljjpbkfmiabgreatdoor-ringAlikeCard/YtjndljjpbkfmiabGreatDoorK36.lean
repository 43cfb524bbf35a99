/- RingAlike: the walk. -/
import Derived.Test.YtjndljjpbkfmiabGreatDoorKr
import Derived.Test.YtjndljjpbkfmiabGreatDoorK12
namespace Go.Proofs.YtjndljjpbkfmiabGreatDoor
open Go.RowKit
set_option linter.unusedVariables false
set_option linter.unusedSimpArgs false
set_option maxRecDepth 100000

/-- A list of rows that can be read: the bits of each. -/
structure Rl (w : World) (rb : Nat) (wb : Nat → Nat) (n m : Nat) (p : Nat → Nat → Bool) : Prop where
  row : w.rowIs rb 42 (2 * n) (rwC m wb n)
  wrd : ∀ i, i < n → Row w 69 (wb i) (nwN m) (p i)
theorem Rl.kept {w w' : World} {rb n m : Nat} {wb : Nat → Nat} {p : Nat → Nat → Bool} (h : Rl w rb wb n m p) (hg : w.grownBy w' none) : Rl w' rb wb n m p := ⟨rowIs_kept h.row hg (by simp), fun i hi => (h.wrd i hi).kept hg (by simp)⟩
theorem Rl.c0 {w : World} {rb n m : Nat} {wb : Nat → Nat} {p : Nat → Nat → Bool} (h : Rl w rb wb n m p) {i : Nat} (hi : i < n) : w.cell? ⟨rb, i * 2, none⟩ = some (.int .i64 (m : Nat)) := by
  rw [h.row.cell (by omega)]
  unfold rwC
  rw [if_pos (by omega), if_pos (by omega)]
theorem Rl.c1 {w : World} {rb n m : Nat} {wb : Nat → Nat} {p : Nat → Nat → Bool} (h : Rl w rb wb n m p) {i : Nat} (hi : i < n) : w.cell? ⟨rb, i * 2 + 1, none⟩ = some (.slice (some ⟨wb i, 0, none⟩) (nwN m) (nwN m)) := by
  rw [h.row.cell (by omega)]
  unfold rwC
  rw [if_pos (by omega), if_neg (by omega), show (i * 2 + 1) / 2 = i by omega]
theorem frV_lt (k t z : Int) (C R : Nat) {g : Nat → Nat} {n : Nat} (h0 : 0 < n) (h : ∀ i, g i < n) (i : Nat) : frV k t z C R g i < n := by
  unfold frV plS
  split
  · exact h _
  · exact h0
set_option maxHeartbeats 4000000 in
theorem alike_walk (a0 a1 a2 a3 a4 : Int) (sp : Option Addr) (n c : Nat) (f : Nat → Nat) (hn : n ≤ 140737488351232) (h256 : ∀ i, f i < 256) (w : World) (hb : By w sp n f) (hT : Tab w) :
    Calls Tryz.prog 3 #[.agg #[.int .i64 a0, .int .i64 a1, .int .i64 a2, .int .i64 a3, .int .i64 a4], .slice sp n c] w fun e w' => e = .returned (.bool true) ∧ Below w.heap.size w w' := by
  obtain ⟨W1, hW1, sz1, g1, B1⟩ := boxn w #[.int .i64 a0, .int .i64 a1, .int .i64 a2, .int .i64 a3, .int .i64 a4] 23
  have b1_0 := B1.cell 0 (v := .int .i64 a0) rfl
  have b1_1 := B1.cell 1 (v := .int .i64 a1) rfl
  have b1_2 := B1.cell 2 (v := .int .i64 a2) rfl
  have b1_3 := B1.cell 3 (v := .int .i64 a3) rfl
  have b1_4 := B1.cell 4 (v := .int .i64 a4) rfl
  have hT1 := hT.kept g1
  have hb1 := hb.kept g1 (by simp)
  obtain ⟨gK, hgK⟩ : ∃ gK, kpG n f 2 = gK := ⟨_, rfl⟩
  have HK2 : Hid (∀ i, gK i < 2) := fun i => by rw [← hgK]; exact kpG_lt (by decide) i
  go_enter Tryz.func3, Tryz.ntmps3
  go_wp2_with (first | (go_at_call 4; refine (aliveC W1 hT1).mono ?_; rintro e V1 ⟨rfl, g2⟩; have B2 := B1.kept g2 (by simp); have hb2 := hb1.kept g2 (by simp); have b2_0 := B2.cell 0 (v := .int .i64 a0) rfl; have b2_1 := B2.cell 1 (v := .int .i64 a1) rfl; have b2_2 := B2.cell 2 (v := .int .i64 a2) rfl; have b2_3 := B2.cell 3 (v := .int .i64 a3) rfl; have b2_4 := B2.cell 4 (v := .int .i64 a4) rfl) | (go_at_call 5; refine (topoC a0 a1 a2 a3 a4 _).mono ?_; rintro e V2 ⟨k, t, z, C, R, rfl, G, hC9, hR9, g3⟩; obtain ⟨W3, hW3, sz3, g4, B3⟩ := boxn V2 #[.int .u8 k, .int .i64 (C : Nat), .int .i64 (R : Nat), .int .u8 t, .int .i64 z] 27; have hb3 := hb2.kept (gb_trans g3 g4) (by simp); have c0 := G.c0; have r0 := G.r0; obtain ⟨m2, hm2⟩ : ∃ m2, C + 2 = m2 := ⟨_, rfl⟩; obtain ⟨n2, hn2⟩ : ∃ n2, R + 2 = n2 := ⟨_, rfl⟩; have hm2I : (C : Int) + 2 = (m2 : Int) := (by omega); have hn2I : (R : Int) + 2 = (n2 : Int) := (by omega); have HM2 : Hid (C + 2 = m2) := hm2; have HN2 : Hid (R + 2 = n2) := hn2; clear hm2 hn2; have t3_0 := B3.cell 0 (v := .int .u8 k) rfl; have t3_1 := B3.cell 1 (v := .int .i64 (C : Nat)) rfl; have t3_2 := B3.cell 2 (v := .int .i64 (R : Nat)) rfl; have t3_3 := B3.cell 3 (v := .int .u8 t) rfl; have t3_4 := B3.cell 4 (v := .int .i64 z) rfl; have hf1 := filledC k t z 0 2 C R true rfl ⟨c0, hC9⟩ ⟨r0, hR9⟩ sp n c f hn h256 W3 hb3; rw [hgK] at hf1) | ((fail_if_success (guard_hyp g5)); go_at_call 6; refine hf1.mono ?_; rintro e V3 ⟨b1, M1, L1, rfl, F1, hM1, hL1, g5⟩; have hb4 := hb3.kept g5 (by simp); have B4 := B3.kept g5 (by simp); have t4_0 := B4.cell 0 (v := .int .u8 k) rfl; have t4_1 := B4.cell 1 (v := .int .i64 (C : Nat)) rfl; have t4_2 := B4.cell 2 (v := .int .i64 (R : Nat)) rfl; have t4_3 := B4.cell 3 (v := .int .u8 t) rfl; have t4_4 := B4.cell 4 (v := .int .i64 z) rfl; have hf2 := filledC k t z 0 2 C R false rfl ⟨c0, hC9⟩ ⟨r0, hR9⟩ sp n c f hn h256 V3 hb4; rw [hgK] at hf2) | (guard_hyp g5; go_at_call 6; refine hf2.mono ?_; rintro e V4 ⟨b2, M2, L2, rfl, F2, hM2, hL2, g6⟩; have B5 := B4.kept g6 (by simp); have t5_0 := B5.cell 0 (v := .int .u8 k) rfl; have t5_1 := B5.cell 1 (v := .int .i64 (C : Nat)) rfl; have t5_2 := B5.cell 2 (v := .int .i64 (R : Nat)) rfl; have t5_3 := B5.cell 3 (v := .int .u8 t) rfl; have t5_4 := B5.cell 4 (v := .int .i64 z) rfl; have hM15 := F1.grown hM1 g6; have hB1 := bytesY G (F1.fdm gK V4.heap.size (F1.lts _ _ hM15)) V4 (Nat.le_refl _) hM15; obtain ⟨m, hm⟩ : ∃ m, (C + 2) * (R + 2) = m := ⟨_, rfl⟩; have HM : Hid ((C + 2) * (R + 2) = m) := hm; rw [hm] at hB1; clear hm) | ((fail_if_success (guard_hyp g7)); go_at_call 7; refine hB1.mono ?_; rintro e V5 ⟨d1, rfl, r1, l1, g7⟩; obtain ⟨W5, hW5, sz5, g8, BA5⟩ := boxn V5 #[.int .i64 (C : Nat), .int .i64 (R : Nat), .slice (some ⟨d1, 0, none⟩) m m] 33; have g78 := gb_trans g7 g8; have B6 := B5.kept g78 (by simp); have t6_0 := B6.cell 0 (v := .int .u8 k) rfl; have t6_1 := B6.cell 1 (v := .int .i64 (C : Nat)) rfl; have t6_2 := B6.cell 2 (v := .int .i64 (R : Nat)) rfl; have t6_3 := B6.cell 3 (v := .int .u8 t) rfl; have t6_4 := B6.cell 4 (v := .int .i64 z) rfl; have a5_0 := BA5.cell 0 (v := .int .i64 (C : Nat)) rfl; have a5_1 := BA5.cell 1 (v := .int .i64 (R : Nat)) rfl; have a5_2 := BA5.cell 2 (v := .slice (some ⟨d1, 0, none⟩) m m) rfl; have r1x := rowIs_kept r1 g8 (by simp); have hM16 := F1.grown hM15 g78; have hM26 := F2.grown hM2 g78; have hB2 := bytesY G (F2.fdm gK W5.heap.size (F2.lts _ _ hM26)) W5 (Nat.le_refl _) hM26; rw [HM.out] at hB2) | (guard_hyp g7; go_at_call 7; refine hB2.mono ?_; rintro e V6 ⟨d2, rfl, r2, l2, g9⟩; obtain ⟨W6, hW6, sz6, g10, BB6⟩ := boxn V6 #[.int .i64 (C : Nat), .int .i64 (R : Nat), .slice (some ⟨d2, 0, none⟩) m m] 33; have g910 := gb_trans g9 g10; have B7 := B6.kept g910 (by simp); have t7_0 := B7.cell 0 (v := .int .u8 k) rfl; have t7_1 := B7.cell 1 (v := .int .i64 (C : Nat)) rfl; have t7_2 := B7.cell 2 (v := .int .i64 (R : Nat)) rfl; have t7_3 := B7.cell 3 (v := .int .u8 t) rfl; have t7_4 := B7.cell 4 (v := .int .i64 z) rfl; have BA6 := BA5.kept g910 (by simp); have a6_0 := BA6.cell 0 (v := .int .i64 (C : Nat)) rfl; have a6_1 := BA6.cell 1 (v := .int .i64 (R : Nat)) rfl; have a6_2 := BA6.cell 2 (v := .slice (some ⟨d1, 0, none⟩) m m) rfl; have b6_0 := BB6.cell 0 (v := .int .i64 (C : Nat)) rfl; have b6_1 := BB6.cell 1 (v := .int .i64 (R : Nat)) rfl; have b6_2 := BB6.cell 2 (v := .slice (some ⟨d2, 0, none⟩) m m) rfl; have r17 := rowIs_kept r1x g910 (by simp); have r27 := rowIs_kept r2 g10 (by simp); have hM17 := F1.grown hM16 g910; have hM27 := F2.grown hM26 g910; have hall : C * R ≤ 1048576 := Nat.le_trans (Nat.mul_le_mul hC9 hR9) (by decide); have h256' : ∀ i, gK i < 256 := fun i => Nat.lt_of_lt_of_le (HK2.out i) (by decide); have hR1 := rowsY G hall (F1.fdm gK W6.heap.size (F1.lts _ _ hM17)) h256' (Nat.le_refl 2) W6 (Nat.le_refl _) hM17; rw [HM2.out, HN2.out] at hR1; clear h256') | ((fail_if_success (guard_hyp g11)); go_at_call 8; refine hR1.mono ?_; rintro e V7 ⟨rb1, wb1, rfl, q1, -, p1, -, g11⟩; have Rl1 : Rl V7 rb1 wb1 n2 m2 (fun i j => decide (j < m2) && lvB (frV k t z C R gK (i * m2 + j))) := ⟨q1, fun i hi => (p1 i hi).2.2⟩; have B8 := B7.kept g11 (by simp); have t8_0 := B8.cell 0 (v := .int .u8 k) rfl; have t8_1 := B8.cell 1 (v := .int .i64 (C : Nat)) rfl; have t8_2 := B8.cell 2 (v := .int .i64 (R : Nat)) rfl; have t8_3 := B8.cell 3 (v := .int .u8 t) rfl; have t8_4 := B8.cell 4 (v := .int .i64 z) rfl; have BA8 := BA6.kept g11 (by simp); have a8_0 := BA8.cell 0 (v := .int .i64 (C : Nat)) rfl; have a8_1 := BA8.cell 1 (v := .int .i64 (R : Nat)) rfl; have a8_2 := BA8.cell 2 (v := .slice (some ⟨d1, 0, none⟩) m m) rfl; have BB8 := BB6.kept g11 (by simp); have b8_0 := BB8.cell 0 (v := .int .i64 (C : Nat)) rfl; have b8_1 := BB8.cell 1 (v := .int .i64 (R : Nat)) rfl; have b8_2 := BB8.cell 2 (v := .slice (some ⟨d2, 0, none⟩) m m) rfl; have r18 := rowIs_kept r17 g11 (by simp); have r28 := rowIs_kept r27 g11 (by simp); have hM28 := F2.grown hM27 g11; have h256' : ∀ i, gK i < 256 := fun i => Nat.lt_of_lt_of_le (HK2.out i) (by decide); have hR2 := rowsY G hall (F2.fdm gK V7.heap.size (F2.lts _ _ hM28)) h256' (Nat.le_refl 2) V7 (Nat.le_refl _) hM28; rw [HM2.out, HN2.out] at hR2; clear h256' q1 p1) | (guard_hyp g11; go_at_call 8; refine hR2.mono ?_; rintro e V8 ⟨rb2, wb2, rfl, q2, -, p2, -, g12⟩; have Rl2 : Rl V8 rb2 wb2 n2 m2 (fun i j => decide (j < m2) && lvB (frV k t z C R gK (i * m2 + j))) := ⟨q2, fun i hi => (p2 i hi).2.2⟩; have Rl1x := Rl1.kept g12; have B9 := B8.kept g12 (by simp); have t9_0 := B9.cell 0 (v := .int .u8 k) rfl; have t9_1 := B9.cell 1 (v := .int .i64 (C : Nat)) rfl; have t9_2 := B9.cell 2 (v := .int .i64 (R : Nat)) rfl; have t9_3 := B9.cell 3 (v := .int .u8 t) rfl; have t9_4 := B9.cell 4 (v := .int .i64 z) rfl; have BA9 := BA8.kept g12 (by simp); have a9_0 := BA9.cell 0 (v := .int .i64 (C : Nat)) rfl; have a9_1 := BA9.cell 1 (v := .int .i64 (R : Nat)) rfl; have a9_2 := BA9.cell 2 (v := .slice (some ⟨d1, 0, none⟩) m m) rfl; have BB9 := BB8.kept g12 (by simp); have b9_0 := BB9.cell 0 (v := .int .i64 (C : Nat)) rfl; have b9_1 := BB9.cell 1 (v := .int .i64 (R : Nat)) rfl; have b9_2 := BB9.cell 2 (v := .slice (some ⟨d2, 0, none⟩) m m) rfl; have r19 := rowIs_kept r18 g12 (by simp); have r29 := rowIs_kept r28 g12 (by simp); have hfr : ∀ i, frV k t z C R gK i < 256 := fun i => frV_lt k t z C R (by decide) (fun j => Nat.lt_of_lt_of_le (HK2.out j) (by decide)) i; have s1 := by_str m (rowIs_by r19) hfr; have s2 := by_str m (rowIs_by r29) hfr; clear q2 p2 hfr))
  have HMB : Hid (∀ y, MayBe m2 (nwN m2) (fun j => decide (j < m2) && lvB (frV k t z C R gK (y * m2 + j)))) := fun y => ⟨by omega, rfl, fun j hj => by rw [decide_eq_false (by omega)]; rfl⟩
  have G8 : w.grownBy V8 none := gb_trans g1 (gb_trans g2 (gb_trans (gb_trans g3 g4) (gb_trans (gb_trans g5 g6) (gb_trans g78 (gb_trans g910 (gb_trans g11 g12))))))
  clear t3_0 t3_1 t3_2 t3_3 t3_4 t4_0 t4_1 t4_2 t4_3 t4_4 t5_0 t5_1 t5_2 t5_3 t5_4 t6_0 t6_1 t6_2 t6_3 t6_4 t7_0 t7_1 t7_2 t7_3 t7_4 t8_0 t8_1 t8_2 t8_3 t8_4 t9_0 t9_1 t9_2 t9_3 t9_4 a5_0 a5_1 a5_2 a6_0 a6_1 a6_2 b6_0 b6_1 b6_2 a8_0 a8_1 a8_2 b8_0 b8_1 b8_2 b9_0 b9_1 b9_2 b1_0 b1_1 b1_2 b1_3 b1_4 b2_0 b2_1 b2_2 b2_3 b2_4
  clear hf1 hf2 hB1 hB2 hR1 hR2 hM1 hM2 hM15 hM16 hM17 hM26 hM27 hM28 F1 F2 hL1 hL2 s1 s2 r1 r1x r17 r18 r2 r27 r28 r29 B1 B2 B3 B4 B5 B6 B7 B8 BA5 BA6 BA8 BB6 BB8 BB9 Rl1 hb hb1 hb2 hb3 hb4 hT hT1 hall hW1 hW3 hW5 hW6 sz1 sz3 sz5 sz6 h256 hgK a9_0 a9_1 a9_2
  clear g1 g2 g3 g4 g5 g6 g7 g8 g78 g9 g10 g910 g11 g12 l1 l2
  go_loopw [19] (fun i wr => ∃ y : Nat, y ≤ n2 ∧ i = .int .i64 (y : Nat) ∧ V8.grownBy wr none) (fun i _ => n2 - (intOf i).toNat)
  case atStart => exact ⟨0, Nat.zero_le _, rfl, World.grownBy.refl _ _⟩
  case round =>
    obtain ⟨y, hy, rfl, Gy⟩ := hrel
    have Ty := B9.kept Gy (by simp)
    have ty1 := Ty.cell 1 (v := .int .i64 (C : Nat)) rfl
    have ty2 := Ty.cell 2 (v := .int .i64 (R : Nat)) rfl
    have Ly1 := Rl1x.kept Gy
    have Ly2 := Rl2.kept Gy
    by_cases hlt : y < n2
    · have hlt' : (y : Int) < (n2 : Int) := by omega
      have u0 := Ly1.c0 hlt
      have u1 := Ly1.c1 hlt
      have v0 := Ly2.c0 hlt
      have v1 := Ly2.c1 hlt
      obtain ⟨p, hp⟩ : ∃ p : Nat → Bool, (fun j => decide (j < m2) && lvB (frV k t z C R gK (y * m2 + j))) = p := ⟨_, rfl⟩
      have HP : Hid (∀ j, j < m2 → p j = lvB (frV k t z C R gK (y * m2 + j))) := fun j hj => by rw [← hp]; simp [hj]
      have hmb := HMB.out y
      rw [hp] at hmb
      have wd1 : Hid (∀ X, V8.grownBy X none → Wd X (some ⟨wb1 y, 0, none⟩) (nwN m2) (Pk.pack p)) := fun X hX => by rw [← hp]; exact ((Rl1x.kept hX).wrd y hlt).wd
      have wd2 : Hid (∀ X, V8.grownBy X none → Wd X (some ⟨wb2 y, 0, none⟩) (nwN m2) (Pk.pack p)) := fun X hX => by rw [← hp]; exact ((Rl2.kept hX).wrd y hlt).wd
      have uvK : Hid (∀ X, V8.grownBy X none → X.cell? ⟨rb1, y * 2, none⟩ = some (.int .i64 (m2 : Nat)) ∧ X.cell? ⟨rb1, y * 2 + 1, none⟩ = some (.slice (some ⟨wb1 y, 0, none⟩) (nwN m2) (nwN m2)) ∧ X.cell? ⟨rb2, y * 2, none⟩ = some (.int .i64 (m2 : Nat)) ∧ X.cell? ⟨rb2, y * 2 + 1, none⟩ = some (.slice (some ⟨wb2 y, 0, none⟩) (nwN m2) (nwN m2))) := fun X hX => ⟨(Rl1x.kept hX).c0 hlt, (Rl1x.kept hX).c1 hlt, (Rl2.kept hX).c0 hlt, (Rl2.kept hX).c1 hlt⟩
      clear hp
      have wm : IntKind.i64.wrap (m2 : Int) = (m2 : Int) := by rw [IntKind.wrap_i64]; omega
      have Gyd : V8.grownBy wr.drew none := gb_drew Gy
      go_wp2
      go_region_held2 (fun w' => w'.cell? ⟨V2.heap.size, 1, none⟩ = some (.int .i64 (C : Nat)) ∧ w'.cell? ⟨rb1, y * 2, none⟩ = some (.int .i64 (m2 : Nat)) ∧ w'.cell? ⟨rb1, y * 2 + 1, none⟩ = some (.slice (some ⟨wb1 y, 0, none⟩) (nwN m2) (nwN m2)) ∧ w'.cell? ⟨rb2, y * 2, none⟩ = some (.int .i64 (m2 : Nat)) ∧ w'.cell? ⟨rb2, y * 2 + 1, none⟩ = some (.slice (some ⟨wb2 y, 0, none⟩) (nwN m2) (nwN m2))) (go_keep) (first | ((fail_if_success (guard_hyp j2)); go_at_call 9; refine (Wo.validP m2 (nwN m2) (nwN m2) (some ⟨wb1 y, 0, none⟩) p hmb wr.drew (wd1.out _ Gyd)).mono ?_; rintro e X2 ⟨rfl, j2⟩; have J2 := gb_trans Gyd j2; obtain ⟨x2a, x2b, x2c, x2d⟩ := uvK.out X2 J2; have x2t := (B9.kept J2 (by simp)).cell 1 (v := .int .i64 (C : Nat)) rfl) | (guard_hyp j2; go_at_call 9; refine (Wo.validP m2 (nwN m2) (nwN m2) (some ⟨wb2 y, 0, none⟩) p hmb X2 (wd2.out _ J2)).mono ?_; rintro e X3 ⟨rfl, j3⟩; have J3 := gb_trans J2 j3; obtain ⟨x3a, x3b, x3c, x3d⟩ := uvK.out X3 J3; have x3t := (B9.kept J3 (by simp)).cell 1 (v := .int .i64 (C : Nat)) rfl))
      go_wp2
      have hyn := hlt
      obtain ⟨lo, hlo⟩ : ∃ lo, y * m2 = lo := ⟨_, rfl⟩
      have hmn : lo + m2 ≤ m := by
        have h1 := Nat.mul_le_mul_right m2 (show y + 1 ≤ n2 from hlt)
        rw [Nat.succ_mul, hlo] at h1
        have h2 := HM.out
        rw [HM2.out, HN2.out, Nat.mul_comm] at h2
        omega
      have hmb2 : m ≤ 121 := by
        have h2 := HM.out
        have h3 : (C + 2) * (R + 2) ≤ 11 * 11 := Nat.mul_le_mul (by omega) (by omega)
        omega
      have wlo : IntKind.i64.wrap ((y : Int) * (m2 : Int)) = (lo : Int) := by rw [← Int.natCast_mul, hlo, IntKind.wrap_i64]; omega
      have HLO : Hid (y * m2 = lo) := hlo
      clear hlo u0 u1 v0 v1 Ly1 Ly2 Ty ty1 ty2 x2a x2b x2c x2d x2t x3a x3b x3c x3d x3t
      go_loopw [20] (fun j wr2 => ∃ x : Nat, x ≤ m2 ∧ j = .int .i64 (x : Nat) ∧ V8.grownBy wr2 none) (fun j _ => m2 - (intOf j).toNat)
      case atStart => exact ⟨0, Nat.zero_le _, rfl, J3⟩
      case round =>
        obtain ⟨x, hx, rfl, Gx⟩ := hrel
        have tx1 := (B9.kept Gx (by simp)).cell 1 (v := .int .i64 (C : Nat)) rfl
        by_cases hxl : x < m2
        · have hxl' : (x : Int) < (m2 : Int) := by omega
          have ax2 := (BA9.kept Gx (by simp)).cell 2 (v := .slice (some ⟨d1, 0, none⟩) m m) rfl
          have cx := (rowIs_kept r19 Gx (by simp)).cell (i := lo + x) (by omega)
          obtain ⟨e1, e2, e3, e4⟩ := uvK.out wr Gx
          have hpx := HP.out x hxl
          rw [HLO.out] at hpx
          obtain ⟨i, hi⟩ : ∃ i, lo + x = i := ⟨_, rfl⟩
          have hiI : (lo : Int) + (x : Int) = (i : Int) := by omega
          have him : (i : Int) < (m : Int) := by omega
          have wi : IntKind.i64.wrap (i : Int) = (i : Int) := by rw [IntKind.wrap_i64]; omega
          rw [hi] at cx hpx
          obtain ⟨v, hv⟩ : ∃ v, frV k t z C R gK i = v := ⟨_, rfl⟩
          rw [hv] at cx hpx
          have hgb : Wo.getB m2 p (x : Int) = lvB v := by unfold Wo.getB; simp [hxl, hpx]
          have hg1 := fun X hX => Wo.getC m2 (nwN m2) (nwN m2) (some ⟨wb1 y, 0, none⟩) p hmb (x : Int) X (wd1.out X hX)
          have hg2 := fun X hX => Wo.getC m2 (nwN m2) (nwN m2) (some ⟨wb2 y, 0, none⟩) p hmb (x : Int) X (wd2.out X hX)
          rw [hgb] at hg1 hg2
          have HG1 : Hid (∀ X, V8.grownBy X none → _) := hg1
          have HG2 : Hid (∀ X, V8.grownBy X none → _) := hg2
          clear hg1 hg2 hgb hpx hi hv
          have Gxd : ∀ nq, V8.grownBy (wr.drewN nq) none := fun nq => gb_drewN Gx nq
          cases hq : lvB v with
          | false =>
            have hv0 : v = 0 := by unfold lvB at hq; simpa using hq
            rw [hq] at HG1 HG2
            subst hv0
            clear hq
            go_wp2_with (first | ((fail_if_success (guard_hyp j4)); go_at_call 10; refine (HG1.out wr Gx).mono ?_; rintro e X4 ⟨rfl, j4⟩; have J4 := gb_trans Gx j4; obtain ⟨f1, f2, f3, f4⟩ := uvK.out X4 J4) | (guard_hyp j4; go_at_call 10; refine (HG2.out X4 J4).mono ?_; rintro e X5 ⟨rfl, j5⟩))
            go_roundw
            case rel => exact ⟨x + 1, hxl, by go_num, gb_trans J4 j5⟩
            case measure => simp [intOf]; omega
          | true =>
            have hvp : (0 : Int) < (v : Int) := by
              have : v ≠ 0 := by unfold lvB at hq; simpa using hq
              omega
            rw [hq] at HG1 HG2
            clear hq
            go_wp2_with (first | ((fail_if_success (guard_hyp j4)); go_at_call 10; refine (HG1.out wr Gx).mono ?_; rintro e X4 ⟨rfl, j4⟩; have J4 := gb_trans Gx j4; obtain ⟨f1, f2, f3, f4⟩ := uvK.out X4 J4) | (guard_hyp j4; go_at_call 10; refine (HG2.out X4 J4).mono ?_; rintro e X5 ⟨rfl, j5⟩))
            go_roundw
            case rel => exact ⟨x + 1, hxl, by go_num, gb_trans J4 j5⟩
            case measure => simp [intOf]; omega
        · have hxm : x = m2 := by omega
          subst x
          go_wp2
          go_roundw
          case rel => exact ⟨y + 1, hyn, by go_num, Gx⟩
          case measure => simp [intOf]; omega
    · have hyR : y = n2 := by omega
      subst y
      go_wp2
      go_ret
      exact ⟨rfl, gb_below (gb_trans G8 Gy)⟩
end Go.Proofs.YtjndljjpbkfmiabGreatDoor
