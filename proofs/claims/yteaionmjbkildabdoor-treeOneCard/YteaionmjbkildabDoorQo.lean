/- TreeOne's walk. -/
import Derived.Test.YteaionmjbkildabDoorQp
import Derived.Test.YteaionmjbkildabDoorQ27
import Derived.BigRegion
namespace Go.Proofs.YteaionmjbkildabDoor
open Go.RowKit
set_option linter.unusedVariables false
set_option linter.unusedSimpArgs false
set_option maxRecDepth 100000

set_option maxHeartbeats 2000000 in
theorem one_walk (S1 I1 : Int) (sp1 : Option Addr) (n1 c1 : Nat) (f1 : Nat → Nat) (S2 I2 : Int) (sp2 : Option Addr) (n2 c2 : Nat) (f2 : Nat → Nat) (w : World) (htab : Tab w)
    (hS1 : -9223372036854775808 ≤ S1 ∧ S1 ≤ 9223372036854775807) (hI1 : -9223372036854775808 ≤ I1 ∧ I1 ≤ 9223372036854775807) (hn1 : n1 ≤ 140737488355328) (h81 : ∀ i, f1 i < 256) (hf1 : By w sp1 n1 f1) (hn2 : n2 ≤ 140737488355328) (h82 : ∀ i, f2 i < 256) (hf2 : By w sp2 n2 f2) :
    Calls Tryd.prog 6 #[.agg #[.int .i64 S1, .int .i64 I1, .slice sp1 n1 c1], .agg #[.int .i64 S2, .int .i64 I2, .slice sp2 n2 c2]] w fun e w' => e = .returned (.bool true) ∧ w.grownBy w' none := by
  obtain ⟨W1, hW1, sz1, g1, B1⟩ := boxn w #[.int .i64 S1, .int .i64 I1, .slice sp1 n1 c1] 46
  obtain ⟨W2, hW2, sz2, g2, B2⟩ := boxn W1 #[.int .i64 S2, .int .i64 I2, .slice sp2 n2 c2] 46
  have G2 := gb_trans g1 g2
  have B12 := B1.kept g2 (by simp)
  have kav := aliveC W2 (tab_kept htab G2)
  have HG : Hid (w.grownBy W2 none) := G2
  have HP : Hid (Bo W2 w.heap.size 46 #[.int .i64 S1, .int .i64 I1, .slice sp1 n1 c1]) := B12
  have HQ : Hid (Bo W2 W1.heap.size 46 #[.int .i64 S2, .int .i64 I2, .slice sp2 n2 c2]) := B2
  have bs := (smS_bd S1).1
  have bi := (smI_bd I1).1
  obtain ⟨st, hst⟩ : ∃ st, smS S1 = st := ⟨_, rfl⟩
  obtain ⟨inp, hin⟩ : ∃ inp, smI I1 = inp := ⟨_, rfl⟩
  rw [hst] at bs
  rw [hin] at bi
  obtain ⟨m1, hme1⟩ : ∃ m1, min n1 2000 = m1 := ⟨_, rfl⟩
  obtain ⟨m2, hme2⟩ : ∃ m2, min n2 2000 = m2 := ⟨_, rfl⟩
  have hm1 : Hid (m1 ≤ 2000) := by unfold Hid; omega
  have hm2 : Hid (m2 ≤ 2000) := by unfold Hid; omega
  obtain ⟨k, hk⟩ : ∃ k, st = k + 1 := ⟨st - 1, by omega⟩
  have hs2 : smS (k : Int) = st := by rw [smS_again k (by omega), hk]
  have hi2 : smI (inp : Int) = inp := smI_again inp (by omega)
  have wk : IntKind.i64.wrap ((st : Int) - 1) = (k : Int) := by rw [IntKind.wrap_i64]; omega
  obtain ⟨a1, hae1⟩ : ∃ a1 : Nat → Nat, (fun i => f1 i % st) = a1 := ⟨_, rfl⟩
  obtain ⟨a2, hae2⟩ : ∃ a2 : Nat → Nat, (fun i => f2 i % st) = a2 := ⟨_, rfl⟩
  have ha1 : Hid (∀ i, a1 i < st) := fun i => by rw [← hae1]; exact Nat.mod_lt _ (by omega)
  have ha2 : Hid (∀ i, a2 i < st) := fun i => by rw [← hae2]; exact Nat.mod_lt _ (by omega)
  have k1 := fun V (gV : W2.grownBy V none) => (by
    have := smallC S1 I1 hS1 hI1 sp1 n1 c1 hn1 f1 h81 V (hf1.kept (gb_trans G2 gV) (by simp))
    rw [hst, hin, hme1, hae1] at this
    exact this)
  have k2 := fun V (gV : W2.grownBy V none) => (by
    have := smallC (k : Int) (inp : Int) (by omega) (by omega) sp2 n2 c2 hn2 f2 h82 V (hf2.kept (gb_trans G2 gV) (by simp))
    rw [hs2, hi2, hme2, hae2] at this
    exact this)
  obtain ⟨LL, hLe⟩ : ∃ L, frm st inp (ans st inp (syF st m1 a1)) = L := ⟨_, rfl⟩
  obtain ⟨MM, hMe⟩ : ∃ L, frm st inp (ans st inp (syF st m2 a2)) = L := ⟨_, rfl⟩
  obtain ⟨hF1, hF2, hLM⟩ := same_forms st inp m1 m2 bs.1 a1 a2 ha1.out ha2.out LL MM hLe hMe
  have hLL : Hid (frm st inp (ans st inp (syF st m1 a1)) = LL) := hLe
  have hMM : Hid (frm st inp (ans st inp (syF st m2 a2)) = MM) := hMe
  have HF1 : Hid (Fof st inp LL) := hF1
  have HF2 : Hid (Fof st inp MM) := hF2
  obtain ⟨B, hBe⟩ : ∃ B : Bool, B = true ↔ LL = MM := ⟨decide (LL = MM), by simp⟩
  have HBe : Hid (B = true ↔ LL = MM) := hBe
  have HBk : Hid (B = true ↔ ∀ k, k < st ^ inp → syF st m1 a1 (dgs st inp k) = syF st m2 a2 (dgs st inp k)) := hBe.trans hLM
  have h1 : Hid (1 ≤ st) := bs.1
  have h4 : Hid (st ≤ 4) := bs.2
  have hi5 : Hid (inp ≤ 5) := bi
  have wst : IntKind.u64.wrap (st : Int) = (st : Int) := by rw [IntKind.wrap_u64]; omega
  have hp9 := pow_small bs.2 bi bs.1
  clear hae1 hae2 hme1 hme2 hLe hMe hF1 hF2 hLM hBe hst hin hs2 hi2 hk B1 B2 B12 htab hf1 hf2 hS1 hI1 h81 h82
  go_enter Tryd.func6, Tryd.ntmps6
  go_wp2_with (first | (go_at_call 9; refine kav.mono ?_; rintro e V3 ⟨rfl, g3⟩; clear kav; have P3 := HP.out.kept g3 (by simp); have o0 := P3.cell 0 (v := .int .i64 S1) rfl; have o1 := P3.cell 1 (v := .int .i64 I1) rfl; have o2 := P3.cell 2 (v := .slice sp1 n1 c1) rfl; have ks := k1 V3 g3; clear k1) | (go_at_call 18; (fail_if_success (guard_hyp g4)); refine ks.mono ?_; rintro e V4 ⟨sq, cq, rfl, hY1, hlo1, g4⟩; clear ks; obtain ⟨V5, hV5, sz5, g5, B5⟩ := boxn V4 #[.int .i64 (st : Nat), .int .i64 (inp : Nat), .slice sq m1 cq] 46; have G5 := gb_trans (gb_trans g3 g4) g5; have Q5 := HQ.out.kept G5 (by simp); have x0 := B5.cell 0 (v := .int .i64 (st : Nat)) rfl; have x1 := B5.cell 1 (v := .int .i64 (inp : Nat)) rfl; have x2 := B5.cell 2 (v := .slice sq m1 cq) rfl; have b2 := Q5.cell 2 (v := .slice sp2 n2 c2) rfl; have HY5 : Hid (By V5 sq m1 a1) := hY1.kept g5 (by simp); clear hY1; have HX5 : Hid (Bo V5 V4.heap.size 46 #[.int .i64 (st : Nat), .int .i64 (inp : Nat), .slice sq m1 cq]) := B5; have ks2 := k2 V5 G5; clear k2) | (go_at_call 18; guard_hyp g4; refine ks2.mono ?_; rintro e V6 ⟨sr, cr, rfl, hY2, hlo2, g6⟩; clear ks2; obtain ⟨V7, hV7, sz7, g7, B7⟩ := boxn V6 #[.int .i64 (st : Nat), .int .i64 (inp : Nat), .slice sr m2 cr] 46; have G57 := gb_trans g6 g7; have G7 := gb_trans G5 G57; have X7 := HX5.out.kept G57 (by simp); have c0 := X7.cell 0 (v := .int .i64 (st : Nat)) rfl; have c1 := X7.cell 1 (v := .int .i64 (inp : Nat)) rfl; have c2 := X7.cell 2 (v := .slice sq m1 cq) rfl; have HA7 : Hid (By V7 sq m1 a1) := HY5.out.kept G57 (by simp); have HB7 : Hid (By V7 sr m2 a2) := hY2.kept g7 (by simp); clear hY2; have HX7 : Hid (Bo V7 V4.heap.size 46 #[.int .i64 (st : Nat), .int .i64 (inp : Nat), .slice sq m1 cq]) := X7; have HY7 : Hid (Bo V7 V6.heap.size 46 #[.int .i64 (st : Nat), .int .i64 (inp : Nat), .slice sr m2 cr]) := B7; have ko := ofC st inp m1 cq h1.out h4.out hi5.out hm1.out sq a1 ha1.out V7 HA7.out LL hLL.out) | (go_at_call 19; (fail_if_success (guard_hyp g8)); refine ko.mono ?_; rintro e V8 ⟨gN, kb, rfl, hNz, hAp, g8, hgN⟩; clear ko hAp; obtain ⟨V9, hV9, sz9, g9, B9⟩ := boxn V8 #[.int .i64 (st : Nat), .int .i64 (inp : Nat), .slice (some ⟨gN, 0, none⟩) LL.length LL.length, .int .i64 ((LL.length - 1 : Nat) : Int)] 24; have G79 := gb_trans g8 g9; have G9 := gb_trans G7 G79; have Y9 := HY7.out.kept G79 (by simp); have d0 := Y9.cell 0 (v := .int .i64 (st : Nat)) rfl; have d1 := Y9.cell 1 (v := .int .i64 (inp : Nat)) rfl; have d2 := Y9.cell 2 (v := .slice sr m2 cr) rfl; obtain ⟨spa, hTa⟩ := hNz.tn; have HT9 : Hid (Tn V9 gN 0 LL.length (tnOf LL spa)) := hTa.kept g9; clear hTa hNz; have HA9 : Hid (By V9 sq m1 a1) := HA7.out.kept G79 (by simp); have HB9 : Hid (By V9 sr m2 a2) := HB7.out.kept G79 (by simp); have HX9 : Hid (Bo V9 V4.heap.size 46 #[.int .i64 (st : Nat), .int .i64 (inp : Nat), .slice sq m1 cq]) := HX7.out.kept G79 (by simp); have HY9 : Hid (Bo V9 V6.heap.size 46 #[.int .i64 (st : Nat), .int .i64 (inp : Nat), .slice sr m2 cr]) := Y9; have HZ9 : Hid (Bo V9 V8.heap.size 24 #[.int .i64 (st : Nat), .int .i64 (inp : Nat), .slice (some ⟨gN, 0, none⟩) LL.length LL.length, .int .i64 ((LL.length - 1 : Nat) : Int)]) := B9; have ko2 := ofC st inp m2 cr h1.out h4.out hi5.out hm2.out sr a2 ha2.out V9 HB9.out MM hMM.out) | (go_at_call 19; guard_hyp g8; refine ko2.mono ?_; rintro e V10 ⟨gM, kc, rfl, hNz, hAp, g10, hgM⟩; clear ko2 hAp; obtain ⟨V11, hV11, sz11, g11, B11⟩ := boxn V10 #[.int .i64 (st : Nat), .int .i64 (inp : Nat), .slice (some ⟨gM, 0, none⟩) MM.length MM.length, .int .i64 ((MM.length - 1 : Nat) : Int)] 24; have G91 := gb_trans g10 g11; have G11 := gb_trans G9 G91; obtain ⟨spb, hTb⟩ := hNz.tn; have HTb : Hid (Tn V11 gM 0 MM.length (tnOf MM spb)) := hTb.kept g11; clear hTb hNz; have HTa : Hid (Tn V11 gN 0 LL.length (tnOf LL spa)) := HT9.out.kept G91; have HA : Hid (By V11 sq m1 a1) := HA9.out.kept G91 (by simp); have HBy : Hid (By V11 sr m2 a2) := HB9.out.kept G91 (by simp); have HX : Hid (Bo V11 V4.heap.size 46 #[.int .i64 (st : Nat), .int .i64 (inp : Nat), .slice sq m1 cq]) := HX9.out.kept G91 (by simp); have HY : Hid (Bo V11 V6.heap.size 46 #[.int .i64 (st : Nat), .int .i64 (inp : Nat), .slice sr m2 cr]) := HY9.out.kept G91 (by simp); have HT : Hid (Bo V11 V8.heap.size 24 #[.int .i64 (st : Nat), .int .i64 (inp : Nat), .slice (some ⟨gN, 0, none⟩) LL.length LL.length, .int .i64 ((LL.length - 1 : Nat) : Int)]) := HZ9.out.kept G91 (by simp); have HU : Hid (Bo V11 V10.heap.size 24 #[.int .i64 (st : Nat), .int .i64 (inp : Nat), .slice (some ⟨gM, 0, none⟩) MM.length MM.length, .int .i64 ((MM.length - 1 : Nat) : Int)]) := B11))
  have HGG : Hid (w.grownBy V11 none) := gb_trans HG.out G11
  clear G11 G91 G9 G79 G7 G57 G5 g3 g4 g5 g6 g7 g8 g9 g10 g11 o0 o1 o2 x0 x1 x2 b2 c0 c1 c2 d0 d1 d2 P3 Q5 X7 Y9 B5 B7 B9 B11 HX5 HY5 HA7 HB7 HX7 HY7 HT9 HA9 HB9 HX9 HY9 HZ9
  go_loopw [12, 13] (fun v i wr => ∃ j : Nat, j ≤ inp ∧ i = .int .i64 (j : Nat) ∧ v = .int .u64 ((st ^ j : Nat) : Int) ∧ Hid (V11.grownBy wr none)) (fun _ i _ => inp - (intOf i).toNat)
  case atStart => exact ⟨0, Nat.zero_le _, rfl, by simp, World.grownBy.refl _ _⟩
  case round =>
    obtain ⟨j, hj, rfl, rfl, gr⟩ := hrel
    have PX := HX.out.kept gr.out (by simp)
    have x0 := PX.cell 0 (v := .int .i64 (st : Nat)) rfl
    have x1 := PX.cell 1 (v := .int .i64 (inp : Nat)) rfl
    have x2 := PX.cell 2 (v := .slice sq m1 cq) rfl
    by_cases hlt : j < inp
    · have hlt' : (j : Int) < (inp : Int) := by omega
      have hpj := pow_small h4.out (show j + 1 ≤ 5 by omega) h1.out
      obtain ⟨v, hv⟩ : ∃ v, st ^ j = v := ⟨_, rfl⟩
      obtain ⟨q, hq⟩ : ∃ q, st ^ (j + 1) = q := ⟨_, rfl⟩
      have hvq : (v : Int) * (st : Int) = (q : Int) := by rw [← hv, ← hq, Nat.pow_succ]; simp
      have wm : IntKind.u64.wrap ((v : Int) * (st : Int)) = (q : Int) := by rw [hvq, IntKind.wrap_u64]; omega
      have HQ2 : Hid (st ^ (j + 1) = q) := hq
      rw [hv]
      clear hvq hv hq hpj PX
      go_wp2
      go_roundw
      case rel => exact ⟨j + 1, hlt, by go_num, by rw [HQ2.out], gr⟩
      case measure => simp [intOf]; omega
    · obtain rfl : j = inp := by omega
      have hlt' : ¬ (j : Int) < (j : Int) := by omega
      obtain ⟨all, hall⟩ : ∃ all, st ^ j = all := ⟨_, rfl⟩
      have HAL : Hid (st ^ j = all) := hall
      rw [hall] at hp9 ⊢
      clear hall PX hj hlt
      go_wp2
      clear x0 x1 x2 hlt'
      go_loopw [14, 15] (fun sm kk wz => ∃ (b : Bool) (i : Nat), i ≤ all ∧ sm = .bool b ∧ kk = .int .u64 (i : Nat) ∧ Hid (V11.grownBy wz none) ∧ Hid (b = true ↔ ∀ k, k < i → syF st m1 a1 (dgs st j k) = syF st m2 a2 (dgs st j k))) (fun _ kk _ => all - (intOf kk).toNat)
      case atStart => exact ⟨true, 0, Nat.zero_le _, rfl, rfl, gr, ⟨fun _ k hk => absurd hk (Nat.not_lt_zero _), fun _ => rfl⟩⟩
      case round =>
        obtain ⟨b, i, hi, rfl, rfl, gz, hz⟩ := hrel
        by_cases hla : i < all ∧ b = true
        · obtain ⟨hl, rfl⟩ := hla
          have hl' : (i : Int) < (all : Int) := by omega
          have PX := HX.out.kept gz.out (by simp)
          have x0 := PX.cell 0 (v := .int .i64 (st : Nat)) rfl
          have x1 := PX.cell 1 (v := .int .i64 (j : Nat)) rfl
          have x2 := PX.cell 2 (v := .slice sq m1 cq) rfl
          have krow := rowC st j m1 cq h1.out h4.out hi5.out sq i (by omega) wr
          have HZ : Hid (∀ k, k < i → syF st m1 a1 (dgs st j k) = syF st m2 a2 (dgs st j k)) := hz.out.1 rfl
          clear PX hz
          go_wp2_with (first | (go_at_call 21; refine krow.mono ?_; rintro e V20 ⟨d, rfl, hR, hd, g20⟩; clear krow hd; have HR : Hid (V20.rowIs d 5 j (fun i_1 => .int .u8 ((dgs st j i).getD i_1 0 : Nat))) := hR; clear hR))
          have G20 := gb_trans gz.out g20
          have GD : V11.grownBy V20.drew none := gb_trans G20 (gb_drew (World.grownBy.refl V20 none))
          have P5 := HX.out.kept GD (by simp)
          have Q5 := HY.out.kept GD (by simp)
          have e0 := P5.cell 0 (v := .int .i64 (st : Nat)) rfl
          have e1 := P5.cell 1 (v := .int .i64 (j : Nat)) rfl
          have e2 := P5.cell 2 (v := .slice sq m1 cq) rfl
          have f0 := Q5.cell 0 (v := .int .i64 (st : Nat)) rfl
          have f1 := Q5.cell 1 (v := .int .i64 (j : Nat)) rfl
          have f2 := Q5.cell 2 (v := .slice sr m2 cr) rfl
          have kx := fun V (g : V20.drew.grownBy V none) => saysD st j m1 cq h1.out h4.out hi5.out hm1.out sq a1 d i V (HA.out.kept (gb_trans GD g) (by simp)) (World.rowIs.of_block (show V20.drew.rowIs d 5 j _ from HR.out) (g.block d (World.rowIs.lt (show V20.drew.rowIs d 5 j _ from HR.out)) (by simp)))
          have ky := fun V (g : V20.drew.grownBy V none) => saysD st j m2 cr h1.out h4.out hi5.out hm2.out sr a2 d i V (HBy.out.kept (gb_trans GD g) (by simp)) (World.rowIs.of_block (show V20.drew.rowIs d 5 j _ from HR.out) (g.block d (World.rowIs.lt (show V20.drew.rowIs d 5 j _ from HR.out)) (by simp)))
          obtain ⟨z1, hz1⟩ : ∃ z, syF st m1 a1 (dgs st j i) = z := ⟨_, rfl⟩
          obtain ⟨z2, hz2⟩ : ∃ z, syF st m2 a2 (dgs st j i) = z := ⟨_, rfl⟩
          have HZ1 : Hid (syF st m1 a1 (dgs st j i) = z1) := hz1
          have HZ2 : Hid (syF st m2 a2 (dgs st j i) = z2) := hz2
          simp only [hz1] at kx
          simp only [hz2] at ky
          obtain ⟨bb, hbb⟩ : ∃ bb : Bool, decide (z1 = z2) = bb := ⟨_, rfl⟩
          have hzz : ((z1 : Int) = (z2 : Int)) = (z1 = z2) := by apply propext; omega
          have y1 : ((z1 : Int) == (z2 : Int)) = bb := by rw [← hbb]; by_cases e : z1 = z2 <;> simp [e, hzz]
          have y2 : decide ((z1 : Int) = (z2 : Int)) = bb := by rw [← hbb]; by_cases e : z1 = z2 <;> simp [e, hzz]
          have y3 : (z1 == z2) = bb := by rw [← hbb]; by_cases e : z1 = z2 <;> simp [e]
          have HBB : Hid (bb = true ↔ z1 = z2) := by unfold Hid; rw [← hbb]; simp
          have kx0 := kx V20.drew (World.grownBy.refl _ _)
          clear kx hz1 hz2 x0 x1 x2 P5 Q5 hzz hbb
          go_region_held2 (fun w' => w'.cell? ⟨V4.heap.size, 0, none⟩ = some (.int .i64 (st : Nat)) ∧ w'.cell? ⟨V4.heap.size, 1, none⟩ = some (.int .i64 (j : Nat)) ∧ w'.cell? ⟨V4.heap.size, 2, none⟩ = some (.slice sq m1 cq) ∧ w'.cell? ⟨V6.heap.size, 0, none⟩ = some (.int .i64 (st : Nat)) ∧ w'.cell? ⟨V6.heap.size, 1, none⟩ = some (.int .i64 (j : Nat)) ∧ w'.cell? ⟨V6.heap.size, 2, none⟩ = some (.slice sr m2 cr)) (go_keep) (first | (go_at_call 24; (fail_if_success (guard_hyp s1)); refine kx0.mono ?_; rintro e Z1 ⟨rfl, s1⟩; clear kx0; have r1 := gb_trans GD s1; have P1 := HX.out.kept r1 (by simp); have U1 := HY.out.kept r1 (by simp); have p0 := P1.cell 0 (v := .int .i64 (st : Nat)) rfl; have p1 := P1.cell 1 (v := .int .i64 (j : Nat)) rfl; have p2 := P1.cell 2 (v := .slice sq m1 cq) rfl; have q0 := U1.cell 0 (v := .int .i64 (st : Nat)) rfl; have q1 := U1.cell 1 (v := .int .i64 (j : Nat)) rfl; have q2 := U1.cell 2 (v := .slice sr m2 cr) rfl; have ky0 := ky Z1 s1; clear ky) | (go_at_call 24; guard_hyp s1; refine ky0.mono ?_; rintro e Z2 ⟨rfl, s2⟩; clear ky0; have r2 := gb_trans r1 s2; have P2 := HX.out.kept r2 (by simp); have U2 := HY.out.kept r2 (by simp); have mx0 := P2.cell 0 (v := .int .i64 (st : Nat)) rfl; have mx1 := P2.cell 1 (v := .int .i64 (j : Nat)) rfl; have mx2 := P2.cell 2 (v := .slice sq m1 cq) rfl; have ny0 := U2.cell 0 (v := .int .i64 (st : Nat)) rfl; have ny1 := U2.cell 1 (v := .int .i64 (j : Nat)) rfl; have ny2 := U2.cell 2 (v := .slice sr m2 cr) rfl))
          go_wp2
          go_roundw
          case rel => exact ⟨bb, i + 1, hl, rfl, by go_num, r2, HBB.out.trans ⟨fun e k hk => by
              by_cases h : k = i
              · subst h; rw [HZ1.out, HZ2.out]; exact e
              · exact HZ.out k (by omega), fun h => by have := h i (by omega); rw [HZ1.out, HZ2.out] at this; exact this⟩⟩
          case measure => simp [intOf]; omega
        · by_cases hl : i < all
          · have hl' : (i : Int) < (all : Int) := by omega
            obtain rfl : b = false := by
              cases b with
              | false => rfl
              | true => exact absurd ⟨hl, rfl⟩ hla
            obtain rfl : B = false := by
              cases hB : B with
              | false => rfl
              | true => exact absurd (hz.out.2 (fun k hk => HBk.out.1 hB k (by rw [HAL.out]; omega))) (by simp)
            clear hz hla
            have PT := HT.out.kept gz.out (by simp)
            have PU := HU.out.kept gz.out (by simp)
            have t0 := PT.cell 0 (v := .int .i64 (st : Nat)) rfl
            have t1 := PT.cell 1 (v := .int .i64 (j : Nat)) rfl
            have t2 := PT.cell 2 (v := .slice (some ⟨gN, 0, none⟩) LL.length LL.length) rfl
            have t3 := PT.cell 3 (v := .int .i64 ((LL.length - 1 : Nat) : Int)) rfl
            have u0 := PU.cell 0 (v := .int .i64 (st : Nat)) rfl
            have u1 := PU.cell 1 (v := .int .i64 (j : Nat)) rfl
            have u2 := PU.cell 2 (v := .slice (some ⟨gM, 0, none⟩) MM.length MM.length) rfl
            have u3 := PU.cell 3 (v := .int .i64 ((MM.length - 1 : Nat) : Int)) rfl
            have kS := fun V (g : V11.grownBy V none) => sameF st j h1.out h4.out hi5.out LL MM HF1.out HF2.out gN gM spa spb false HBe.out V (HTa.out.kept g) (HTb.out.kept g)
            have kS2 := fun V (g : V11.grownBy V none) => sameF st j h1.out h4.out hi5.out MM LL HF2.out HF1.out gM gN spb spa false (HBe.out.trans ⟨fun e => e.symm, fun e => e.symm⟩) V (HTb.out.kept g) (HTa.out.kept g)
            have kL := fun V (g : V11.grownBy V none) => alikeF st j h1.out h4.out hi5.out LL MM HF1.out HF2.out gN gM spa spb false HBe.out V (HTa.out.kept g) (HTb.out.kept g)
            have ks := kS wr gz.out
            have eB : (false == false) = true := by simp
            clear kS
            go_wp2_with (first | (go_at_call 26; (fail_if_success (guard_hyp s1)); refine ks.mono ?_; rintro e Z1 ⟨rfl, s1⟩; clear ks; have r1 := gb_trans gz.out s1; have P1 := HT.out.kept r1 (by simp); have U1 := HU.out.kept r1 (by simp); have p0 := P1.cell 0 (v := .int .i64 (st : Nat)) rfl; have p1 := P1.cell 1 (v := .int .i64 (j : Nat)) rfl; have p2 := P1.cell 2 (v := .slice (some ⟨gN, 0, none⟩) LL.length LL.length) rfl; have p3 := P1.cell 3 (v := .int .i64 ((LL.length - 1 : Nat) : Int)) rfl; have q0 := U1.cell 0 (v := .int .i64 (st : Nat)) rfl; have q1 := U1.cell 1 (v := .int .i64 (j : Nat)) rfl; have q2 := U1.cell 2 (v := .slice (some ⟨gM, 0, none⟩) MM.length MM.length) rfl; have q3 := U1.cell 3 (v := .int .i64 ((MM.length - 1 : Nat) : Int)) rfl; have ks2 := kS2 Z1 r1; clear kS2) | (go_at_call 26; guard_hyp s1; refine ks2.mono ?_; rintro e Z2 ⟨rfl, s2⟩; clear ks2; have r2 := gb_trans r1 s2; have P2 := HT.out.kept r2 (by simp); have U2 := HU.out.kept r2 (by simp); have y0 := P2.cell 0 (v := .int .i64 (st : Nat)) rfl; have y1 := P2.cell 1 (v := .int .i64 (j : Nat)) rfl; have y2 := P2.cell 2 (v := .slice (some ⟨gN, 0, none⟩) LL.length LL.length) rfl; have y3 := P2.cell 3 (v := .int .i64 ((LL.length - 1 : Nat) : Int)) rfl; have z0 := U2.cell 0 (v := .int .i64 (st : Nat)) rfl; have z1 := U2.cell 1 (v := .int .i64 (j : Nat)) rfl; have z2 := U2.cell 2 (v := .slice (some ⟨gM, 0, none⟩) MM.length MM.length) rfl; have z3 := U2.cell 3 (v := .int .i64 ((MM.length - 1 : Nat) : Int)) rfl; have kl := kL Z2 r2; clear kL) | (go_at_call 25; refine kl.mono ?_; rintro e Z3 ⟨rfl, s3⟩; clear kl))
            go_ret
            exact ⟨rfl, gb_trans HGG.out (gb_trans r2 s3)⟩
            
          · obtain rfl : i = all := by omega
            have hl' : ¬ (i : Int) < (i : Int) := by omega
            obtain rfl : b = B := by
              have h9 : b = true ↔ B = true := hz.out.trans (by rw [HBk.out, HAL.out])
              cases b <;> cases B <;> simp_all
            clear hz hla hl
            have PT := HT.out.kept gz.out (by simp)
            have PU := HU.out.kept gz.out (by simp)
            have t0 := PT.cell 0 (v := .int .i64 (st : Nat)) rfl
            have t1 := PT.cell 1 (v := .int .i64 (j : Nat)) rfl
            have t2 := PT.cell 2 (v := .slice (some ⟨gN, 0, none⟩) LL.length LL.length) rfl
            have t3 := PT.cell 3 (v := .int .i64 ((LL.length - 1 : Nat) : Int)) rfl
            have u0 := PU.cell 0 (v := .int .i64 (st : Nat)) rfl
            have u1 := PU.cell 1 (v := .int .i64 (j : Nat)) rfl
            have u2 := PU.cell 2 (v := .slice (some ⟨gM, 0, none⟩) MM.length MM.length) rfl
            have u3 := PU.cell 3 (v := .int .i64 ((MM.length - 1 : Nat) : Int)) rfl
            have kS := fun V (g : V11.grownBy V none) => sameF st j h1.out h4.out hi5.out LL MM HF1.out HF2.out gN gM spa spb b HBe.out V (HTa.out.kept g) (HTb.out.kept g)
            have kS2 := fun V (g : V11.grownBy V none) => sameF st j h1.out h4.out hi5.out MM LL HF2.out HF1.out gM gN spb spa b (HBe.out.trans ⟨fun e => e.symm, fun e => e.symm⟩) V (HTb.out.kept g) (HTa.out.kept g)
            have kL := fun V (g : V11.grownBy V none) => alikeF st j h1.out h4.out hi5.out LL MM HF1.out HF2.out gN gM spa spb b HBe.out V (HTa.out.kept g) (HTb.out.kept g)
            have ks := kS wr gz.out
            have eB : (b == b) = true := by simp
            clear kS
            go_wp2_with (first | (go_at_call 26; (fail_if_success (guard_hyp s1)); refine ks.mono ?_; rintro e Z1 ⟨rfl, s1⟩; clear ks; have r1 := gb_trans gz.out s1; have P1 := HT.out.kept r1 (by simp); have U1 := HU.out.kept r1 (by simp); have p0 := P1.cell 0 (v := .int .i64 (st : Nat)) rfl; have p1 := P1.cell 1 (v := .int .i64 (j : Nat)) rfl; have p2 := P1.cell 2 (v := .slice (some ⟨gN, 0, none⟩) LL.length LL.length) rfl; have p3 := P1.cell 3 (v := .int .i64 ((LL.length - 1 : Nat) : Int)) rfl; have q0 := U1.cell 0 (v := .int .i64 (st : Nat)) rfl; have q1 := U1.cell 1 (v := .int .i64 (j : Nat)) rfl; have q2 := U1.cell 2 (v := .slice (some ⟨gM, 0, none⟩) MM.length MM.length) rfl; have q3 := U1.cell 3 (v := .int .i64 ((MM.length - 1 : Nat) : Int)) rfl; have ks2 := kS2 Z1 r1; clear kS2) | (go_at_call 26; guard_hyp s1; refine ks2.mono ?_; rintro e Z2 ⟨rfl, s2⟩; clear ks2; have r2 := gb_trans r1 s2; have P2 := HT.out.kept r2 (by simp); have U2 := HU.out.kept r2 (by simp); have y0 := P2.cell 0 (v := .int .i64 (st : Nat)) rfl; have y1 := P2.cell 1 (v := .int .i64 (j : Nat)) rfl; have y2 := P2.cell 2 (v := .slice (some ⟨gN, 0, none⟩) LL.length LL.length) rfl; have y3 := P2.cell 3 (v := .int .i64 ((LL.length - 1 : Nat) : Int)) rfl; have z0 := U2.cell 0 (v := .int .i64 (st : Nat)) rfl; have z1 := U2.cell 1 (v := .int .i64 (j : Nat)) rfl; have z2 := U2.cell 2 (v := .slice (some ⟨gM, 0, none⟩) MM.length MM.length) rfl; have z3 := U2.cell 3 (v := .int .i64 ((MM.length - 1 : Nat) : Int)) rfl; have kl := kL Z2 r2; clear kL) | (go_at_call 25; refine kl.mono ?_; rintro e Z3 ⟨rfl, s3⟩; clear kl))
            go_ret
            exact ⟨rfl, gb_trans HGG.out (gb_trans r2 s3)⟩
            
theorem one_top (S1 I1 : Int) (sp1 : Option Addr) (n1 c1 : Nat) (f1 : Nat → Nat) (S2 I2 : Int) (sp2 : Option Addr) (n2 c2 : Nat) (f2 : Nat → Nat) (w : World) (htab : Tab w)
    (hS1 : -9223372036854775808 ≤ S1 ∧ S1 ≤ 9223372036854775807) (hI1 : -9223372036854775808 ≤ I1 ∧ I1 ≤ 9223372036854775807) (hn1 : n1 ≤ 140737488355328) (h81 : ∀ i, f1 i < 256) (hf1 : By w sp1 n1 f1)
    (_ : -9223372036854775808 ≤ S2 ∧ S2 ≤ 9223372036854775807) (_ : -9223372036854775808 ≤ I2 ∧ I2 ≤ 9223372036854775807) (hn2 : n2 ≤ 140737488355328) (h82 : ∀ i, f2 i < 256) (hf2 : By w sp2 n2 f2) :
    Calls Tryd.prog 6 #[.agg #[.int .i64 S1, .int .i64 I1, .slice sp1 n1 c1], .agg #[.int .i64 S2, .int .i64 I2, .slice sp2 n2 c2]] w fun e w' => e = .returned (.bool true) ∧ w.grownBy w' none := one_walk S1 I1 sp1 n1 c1 f1 S2 I2 sp2 n2 c2 f2 w htab hS1 hI1 hn1 h81 hf1 hn2 h82 hf2
end Go.Proofs.YteaionmjbkildabDoor
