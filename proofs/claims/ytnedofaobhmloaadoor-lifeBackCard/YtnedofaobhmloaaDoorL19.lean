/- The walk of LifeBack. -/
import Derived.Test.YtnedofaobhmloaaDoorL18
namespace Go.Proofs.YtnedofaobhmloaaDoor
open Go.RowKit
set_option linter.unusedVariables false
set_option linter.unusedSimpArgs false
set_option maxRecDepth 100000

theorem toList_inj {a b : ByteArray} (h : a.toList = b.toList) : a = b := by
  rw [Lib.toList_data, Lib.toList_data] at h
  cases a; cases b
  congr 1
  exact Array.ext' h
set_option maxHeartbeats 4000000 in
theorem back_nat (x b t oh ob ot : Nat) (hb : b < 65536) (ht : t < 65536) (hob : ob < 65536) (hot : ot < 65536) (w : World) (hv : Hid (Hv w)) : Calls Tryd.prog 7 #[.int .u8 x, .int .u16 b, .int .u16 t, .agg #[.int .u8 oh, .int .u16 ob, .int .u16 ot]] w fun e w' => e = .returned (.bool true) ∧ w.grownBy w' none := by
  have hm := fun w => madeC x b t hb ht w
  have hm2 := fun w => madeC oh ob ot hob hot w
  have ck1 := Lf.md_ck x b t
  have ck2 := Lf.md_ck oh ob ot
  have i1 := Lf.mdB_lt16 x b
  have i2 := Lf.mdB_lt16 x t
  have i3 := Lf.mdB_lt16 oh ob
  have i4 := Lf.mdB_lt16 oh ot
  have m1 := Lf.mdH_in x
  have m2 := Lf.mdH_in oh
  clear hb ht hob hot
  generalize Lf.mdH x = H at *
  generalize Lf.mdB x b = B at *
  generalize Lf.mdB x t = T at *
  generalize Lf.mdH oh = H2 at *
  generalize Lf.mdB oh ob = B2 at *
  generalize Lf.mdB oh ot = T2 at *
  have hp := fun w hv => printC H B T (by omega) i1 i2 w hv
  have hp2 := fun w hv => printC H2 B2 T2 (by omega) i3 i4 w hv
  have hk := fun w hv => checkC H B T (by omega) i1 i2 w hv
  have ht := fun w hv => turnedC H B T (by omega) i1 i2 w hv
  have hr := fun w hv => parseC (Lf.pr H B T) w hv
  have HI : Hid (Lf.pr H2 B2 T2 = Lf.pr H B T → H2 = H ∧ B2 = B ∧ T2 = T) := Lf.pr_inj ck2 ck1
  have HJ : Hid (H2 = H ∧ B2 = B ∧ T2 = T → Lf.pr H2 B2 T2 = Lf.pr H B T) := fun h => by rw [h.1, h.2.1, h.2.2]
  rw [Lf.back ck1] at hr
  have hin := Lf.ck_in ck1
  have mol := Lf.mo_le H
  have hu := fun w hv => turnedC H (Lf.ex T (Lf.mo H)) (Lf.ex B (Lf.mo H)) (by omega) (Lf.ex_lt T mol) (Lf.ex_lt B mol) w hv
  have ck3 : Lf.ck H (Lf.ex T (Lf.mo H)) (Lf.ex B (Lf.mo H)) = 0 := Lf.ck_of hin.1 hin.2.1 (Lf.ex_up T mol) (Lf.ex_up B mol)
  unfold Lf.tuH Lf.tuB Lf.tuS at ht hu
  rw [ck1] at hp hk ht
  rw [ck2] at hp2
  rw [ck3] at hu
  simp only [if_true] at ht hu
  rw [Lf.ex_ex mol hin.2.2.2, Lf.ex_ex mol hin.2.2.1] at hu
  generalize Lf.ex T (Lf.mo H) = P at ht hu
  generalize Lf.ex B (Lf.mo H) = Q at ht hu
  generalize Lf.pr H B T = X at *
  generalize Lf.pr H2 B2 T2 = X2 at *
  clear ck1 ck2 ck3 hin mol i1 i2 i3 i4 m1 m2
  obtain ⟨W1, hW1, sz1, g1, B1⟩ := boxn w #[.int .u8 oh, .int .u16 ob, .int .u16 ot] 26
  have hv1 := hvK hv g1
  have b1_1_0 := B1.cell 0 (v := .int .u8 oh) rfl
  have b1_1_1 := B1.cell 1 (v := .int .u16 ob) rfl
  have b1_1_2 := B1.cell 2 (v := .int .u16 ot) rfl
  go_enter Tryd.func7, Tryd.ntmps7
  go_wp2_with (first | (go_at_call 9; (fail_if_success (guard_hyp g2)); refine (aliveC _ hv1).mono ?_; rintro e w2 ⟨rfl, g2⟩; have G2 := gb_trans g1 g2; have hv2 := hvK hv G2; have B1x := B1.kept g2 (by simp); clear b1_1_0 b1_1_1 b1_1_2; have b1_2_0 := B1x.cell 0 (v := .int .u8 oh) rfl; have b1_2_1 := B1x.cell 1 (v := .int .u16 ob) rfl; have b1_2_2 := B1x.cell 2 (v := .int .u16 ot) rfl) | (go_at_call 20; (fail_if_success (guard_hyp g3)); refine (hm _).mono ?_; rintro e w3 ⟨rfl, g3⟩; have G3 := gb_trans G2 g3; have hv3 := hvK hv G3; have B1xx := B1x.kept g3 (by simp); obtain ⟨W4, hW4, sz4, g4, B4⟩ := boxn w3 #[.int .u8 (H : Nat), .int .u16 (B : Nat), .int .u16 (T : Nat)] 26; have G4 := gb_trans G3 g4; have hv4 := hvK hv G4; have B1xxx := B1xx.kept g4 (by simp); clear b1_2_0 b1_2_1 b1_2_2; have b1_4_0 := B1xxx.cell 0 (v := .int .u8 oh) rfl; have b1_4_1 := B1xxx.cell 1 (v := .int .u16 ob) rfl; have b1_4_2 := B1xxx.cell 2 (v := .int .u16 ot) rfl; have b4_4_0 := B4.cell 0 (v := .int .u8 (H : Nat)) rfl; have b4_4_1 := B4.cell 1 (v := .int .u16 (B : Nat)) rfl; have b4_4_2 := B4.cell 2 (v := .int .u16 (T : Nat)) rfl) | (go_at_call 12; (fail_if_success (guard_hyp g5)); refine (hp _ hv4).mono ?_; rintro e w5 ⟨rfl, g5⟩; have G5 := gb_trans G4 g5; have hv5 := hvK hv G5; have B1xxxx := B1xxx.kept g5 (by simp); have B4x := B4.kept g5 (by simp); clear b1_4_0 b1_4_1 b1_4_2 b4_4_0 b4_4_1 b4_4_2; have b1_5_0 := B1xxxx.cell 0 (v := .int .u8 oh) rfl; have b1_5_1 := B1xxxx.cell 1 (v := .int .u16 ob) rfl; have b1_5_2 := B1xxxx.cell 2 (v := .int .u16 ot) rfl; have b4_5_0 := B4x.cell 0 (v := .int .u8 (H : Nat)) rfl; have b4_5_1 := B4x.cell 1 (v := .int .u16 (B : Nat)) rfl; have b4_5_2 := B4x.cell 2 (v := .int .u16 (T : Nat)) rfl) | (go_at_call 10; (fail_if_success (guard_hyp g6)); refine (hr _ hv5).mono ?_; rintro e w6 ⟨rfl, g6⟩; have G6 := gb_trans G5 g6; have hv6 := hvK hv G6; have B1xxxxx := B1xxxx.kept g6 (by simp); have B4xx := B4x.kept g6 (by simp); obtain ⟨W7, hW7, sz7, g7, B7⟩ := boxn w6 #[.int .u8 (H : Nat), .int .u16 (B : Nat), .int .u16 (T : Nat)] 26; have G7 := gb_trans G6 g7; have hv7 := hvK hv G7; have B1xxxxxx := B1xxxxx.kept g7 (by simp); have B4xxx := B4xx.kept g7 (by simp); clear b1_5_0 b1_5_1 b1_5_2 b4_5_0 b4_5_1 b4_5_2; have b1_7_0 := B1xxxxxx.cell 0 (v := .int .u8 oh) rfl; have b1_7_1 := B1xxxxxx.cell 1 (v := .int .u16 ob) rfl; have b1_7_2 := B1xxxxxx.cell 2 (v := .int .u16 ot) rfl; have b4_7_0 := B4xxx.cell 0 (v := .int .u8 (H : Nat)) rfl; have b4_7_1 := B4xxx.cell 1 (v := .int .u16 (B : Nat)) rfl; have b4_7_2 := B4xxx.cell 2 (v := .int .u16 (T : Nat)) rfl; have b7_7_0 := B7.cell 0 (v := .int .u8 (H : Nat)) rfl; have b7_7_1 := B7.cell 1 (v := .int .u16 (B : Nat)) rfl; have b7_7_2 := B7.cell 2 (v := .int .u16 (T : Nat)) rfl) | (go_at_call 14; (fail_if_success (guard_hyp g8)); refine (ht _ hv7).mono ?_; rintro e w8 ⟨rfl, g8⟩; have G8 := gb_trans G7 g8; have hv8 := hvK hv G8; have B1xxxxxxx := B1xxxxxx.kept g8 (by simp); have B4xxxx := B4xxx.kept g8 (by simp); have B7x := B7.kept g8 (by simp); obtain ⟨W9, hW9, sz9, g9, B9⟩ := boxn w8 #[.int .u8 (H : Nat), .int .u16 (P : Nat), .int .u16 (Q : Nat)] 26; have G9 := gb_trans G8 g9; have hv9 := hvK hv G9; have B1xxxxxxxx := B1xxxxxxx.kept g9 (by simp); have B4xxxxx := B4xxxx.kept g9 (by simp); have B7xx := B7x.kept g9 (by simp); clear b1_7_0 b1_7_1 b1_7_2 b4_7_0 b4_7_1 b4_7_2 b7_7_0 b7_7_1 b7_7_2; have b1_9_0 := B1xxxxxxxx.cell 0 (v := .int .u8 oh) rfl; have b1_9_1 := B1xxxxxxxx.cell 1 (v := .int .u16 ob) rfl; have b1_9_2 := B1xxxxxxxx.cell 2 (v := .int .u16 ot) rfl; have b4_9_0 := B4xxxxx.cell 0 (v := .int .u8 (H : Nat)) rfl; have b4_9_1 := B4xxxxx.cell 1 (v := .int .u16 (B : Nat)) rfl; have b4_9_2 := B4xxxxx.cell 2 (v := .int .u16 (T : Nat)) rfl; have b7_9_0 := B7xx.cell 0 (v := .int .u8 (H : Nat)) rfl; have b7_9_1 := B7xx.cell 1 (v := .int .u16 (B : Nat)) rfl; have b7_9_2 := B7xx.cell 2 (v := .int .u16 (T : Nat)) rfl; have b9_9_0 := B9.cell 0 (v := .int .u8 (H : Nat)) rfl; have b9_9_1 := B9.cell 1 (v := .int .u16 (P : Nat)) rfl; have b9_9_2 := B9.cell 2 (v := .int .u16 (Q : Nat)) rfl) | (go_at_call 14; (fail_if_success (guard_hyp g10)); refine (hu _ hv9).mono ?_; rintro e w10 ⟨rfl, g10⟩; have G10 := gb_trans G9 g10; have hv10 := hvK hv G10; have B1xxxxxxxxx := B1xxxxxxxx.kept g10 (by simp); have B4xxxxxx := B4xxxxx.kept g10 (by simp); have B7xxx := B7xx.kept g10 (by simp); have B9x := B9.kept g10 (by simp); obtain ⟨W11, hW11, sz11, g11, B11⟩ := boxn w10 #[.int .u8 (H : Nat), .int .u16 (B : Nat), .int .u16 (T : Nat)] 26; have G11 := gb_trans G10 g11; have hv11 := hvK hv G11; have B1xxxxxxxxxx := B1xxxxxxxxx.kept g11 (by simp); have B4xxxxxxx := B4xxxxxx.kept g11 (by simp); have B7xxxx := B7xxx.kept g11 (by simp); have B9xx := B9x.kept g11 (by simp); clear b1_9_0 b1_9_1 b1_9_2 b4_9_0 b4_9_1 b4_9_2 b7_9_0 b7_9_1 b7_9_2 b9_9_0 b9_9_1 b9_9_2; have b1_11_0 := B1xxxxxxxxxx.cell 0 (v := .int .u8 oh) rfl; have b1_11_1 := B1xxxxxxxxxx.cell 1 (v := .int .u16 ob) rfl; have b1_11_2 := B1xxxxxxxxxx.cell 2 (v := .int .u16 ot) rfl; have b4_11_0 := B4xxxxxxx.cell 0 (v := .int .u8 (H : Nat)) rfl; have b4_11_1 := B4xxxxxxx.cell 1 (v := .int .u16 (B : Nat)) rfl; have b4_11_2 := B4xxxxxxx.cell 2 (v := .int .u16 (T : Nat)) rfl; have b7_11_0 := B7xxxx.cell 0 (v := .int .u8 (H : Nat)) rfl; have b7_11_1 := B7xxxx.cell 1 (v := .int .u16 (B : Nat)) rfl; have b7_11_2 := B7xxxx.cell 2 (v := .int .u16 (T : Nat)) rfl; have b9_11_0 := B9xx.cell 0 (v := .int .u8 (H : Nat)) rfl; have b9_11_1 := B9xx.cell 1 (v := .int .u16 (P : Nat)) rfl; have b9_11_2 := B9xx.cell 2 (v := .int .u16 (Q : Nat)) rfl; have b11_11_0 := B11.cell 0 (v := .int .u8 (H : Nat)) rfl; have b11_11_1 := B11.cell 1 (v := .int .u16 (B : Nat)) rfl; have b11_11_2 := B11.cell 2 (v := .int .u16 (T : Nat)) rfl) | (go_at_call 16; (fail_if_success (guard_hyp g12)); refine (hk _ hv11).mono ?_; rintro e w12 ⟨rfl, g12⟩; have G12 := gb_trans G11 g12; have hv12 := hvK hv G12; have B1xxxxxxxxxxx := B1xxxxxxxxxx.kept g12 (by simp); have B4xxxxxxxx := B4xxxxxxx.kept g12 (by simp); have B7xxxxx := B7xxxx.kept g12 (by simp); have B9xxx := B9xx.kept g12 (by simp); have B11x := B11.kept g12 (by simp); clear b1_11_0 b1_11_1 b1_11_2 b4_11_0 b4_11_1 b4_11_2 b7_11_0 b7_11_1 b7_11_2 b9_11_0 b9_11_1 b9_11_2 b11_11_0 b11_11_1 b11_11_2; have b1_12_0 := B1xxxxxxxxxxx.cell 0 (v := .int .u8 oh) rfl; have b1_12_1 := B1xxxxxxxxxxx.cell 1 (v := .int .u16 ob) rfl; have b1_12_2 := B1xxxxxxxxxxx.cell 2 (v := .int .u16 ot) rfl; have b4_12_0 := B4xxxxxxxx.cell 0 (v := .int .u8 (H : Nat)) rfl; have b4_12_1 := B4xxxxxxxx.cell 1 (v := .int .u16 (B : Nat)) rfl; have b4_12_2 := B4xxxxxxxx.cell 2 (v := .int .u16 (T : Nat)) rfl; have b7_12_0 := B7xxxxx.cell 0 (v := .int .u8 (H : Nat)) rfl; have b7_12_1 := B7xxxxx.cell 1 (v := .int .u16 (B : Nat)) rfl; have b7_12_2 := B7xxxxx.cell 2 (v := .int .u16 (T : Nat)) rfl; have b9_12_0 := B9xxx.cell 0 (v := .int .u8 (H : Nat)) rfl; have b9_12_1 := B9xxx.cell 1 (v := .int .u16 (P : Nat)) rfl; have b9_12_2 := B9xxx.cell 2 (v := .int .u16 (Q : Nat)) rfl; have b11_12_0 := B11x.cell 0 (v := .int .u8 (H : Nat)) rfl; have b11_12_1 := B11x.cell 1 (v := .int .u16 (B : Nat)) rfl; have b11_12_2 := B11x.cell 2 (v := .int .u16 (T : Nat)) rfl) | (go_at_call 20; (fail_if_success (guard_hyp g13)); refine (hm2 _).mono ?_; rintro e w13 ⟨rfl, g13⟩; have G13 := gb_trans G12 g13; have hv13 := hvK hv G13; have B1xxxxxxxxxxxx := B1xxxxxxxxxxx.kept g13 (by simp); have B4xxxxxxxxx := B4xxxxxxxx.kept g13 (by simp); have B7xxxxxx := B7xxxxx.kept g13 (by simp); have B9xxxx := B9xxx.kept g13 (by simp); have B11xx := B11x.kept g13 (by simp); obtain ⟨W14, hW14, sz14, g14, B14⟩ := boxn w13 #[.int .u8 (H2 : Nat), .int .u16 (B2 : Nat), .int .u16 (T2 : Nat)] 26; have G14 := gb_trans G13 g14; have hv14 := hvK hv G14; have B1xxxxxxxxxxxxx := B1xxxxxxxxxxxx.kept g14 (by simp); have B4xxxxxxxxxx := B4xxxxxxxxx.kept g14 (by simp); have B7xxxxxxx := B7xxxxxx.kept g14 (by simp); have B9xxxxx := B9xxxx.kept g14 (by simp); have B11xxx := B11xx.kept g14 (by simp); clear b1_12_0 b1_12_1 b1_12_2 b4_12_0 b4_12_1 b4_12_2 b7_12_0 b7_12_1 b7_12_2 b9_12_0 b9_12_1 b9_12_2 b11_12_0 b11_12_1 b11_12_2; have b1_14_0 := B1xxxxxxxxxxxxx.cell 0 (v := .int .u8 oh) rfl; have b1_14_1 := B1xxxxxxxxxxxxx.cell 1 (v := .int .u16 ob) rfl; have b1_14_2 := B1xxxxxxxxxxxxx.cell 2 (v := .int .u16 ot) rfl; have b4_14_0 := B4xxxxxxxxxx.cell 0 (v := .int .u8 (H : Nat)) rfl; have b4_14_1 := B4xxxxxxxxxx.cell 1 (v := .int .u16 (B : Nat)) rfl; have b4_14_2 := B4xxxxxxxxxx.cell 2 (v := .int .u16 (T : Nat)) rfl; have b7_14_0 := B7xxxxxxx.cell 0 (v := .int .u8 (H : Nat)) rfl; have b7_14_1 := B7xxxxxxx.cell 1 (v := .int .u16 (B : Nat)) rfl; have b7_14_2 := B7xxxxxxx.cell 2 (v := .int .u16 (T : Nat)) rfl; have b9_14_0 := B9xxxxx.cell 0 (v := .int .u8 (H : Nat)) rfl; have b9_14_1 := B9xxxxx.cell 1 (v := .int .u16 (P : Nat)) rfl; have b9_14_2 := B9xxxxx.cell 2 (v := .int .u16 (Q : Nat)) rfl; have b11_14_0 := B11xxx.cell 0 (v := .int .u8 (H : Nat)) rfl; have b11_14_1 := B11xxx.cell 1 (v := .int .u16 (B : Nat)) rfl; have b11_14_2 := B11xxx.cell 2 (v := .int .u16 (T : Nat)) rfl; have b14_14_0 := B14.cell 0 (v := .int .u8 (H2 : Nat)) rfl; have b14_14_1 := B14.cell 1 (v := .int .u16 (B2 : Nat)) rfl; have b14_14_2 := B14.cell 2 (v := .int .u16 (T2 : Nat)) rfl) | (go_at_call 12; (fail_if_success (guard_hyp g15)); refine (hp2 _ hv14).mono ?_; rintro e w15 ⟨rfl, g15⟩; have G15 := gb_trans G14 g15; have hv15 := hvK hv G15; have B1xxxxxxxxxxxxxx := B1xxxxxxxxxxxxx.kept g15 (by simp); have B4xxxxxxxxxxx := B4xxxxxxxxxx.kept g15 (by simp); have B7xxxxxxxx := B7xxxxxxx.kept g15 (by simp); have B9xxxxxx := B9xxxxx.kept g15 (by simp); have B11xxxx := B11xxx.kept g15 (by simp); have B14x := B14.kept g15 (by simp); clear b1_14_0 b1_14_1 b1_14_2 b4_14_0 b4_14_1 b4_14_2 b7_14_0 b7_14_1 b7_14_2 b9_14_0 b9_14_1 b9_14_2 b11_14_0 b11_14_1 b11_14_2 b14_14_0 b14_14_1 b14_14_2; have b1_15_0 := B1xxxxxxxxxxxxxx.cell 0 (v := .int .u8 oh) rfl; have b1_15_1 := B1xxxxxxxxxxxxxx.cell 1 (v := .int .u16 ob) rfl; have b1_15_2 := B1xxxxxxxxxxxxxx.cell 2 (v := .int .u16 ot) rfl; have b4_15_0 := B4xxxxxxxxxxx.cell 0 (v := .int .u8 (H : Nat)) rfl; have b4_15_1 := B4xxxxxxxxxxx.cell 1 (v := .int .u16 (B : Nat)) rfl; have b4_15_2 := B4xxxxxxxxxxx.cell 2 (v := .int .u16 (T : Nat)) rfl; have b7_15_0 := B7xxxxxxxx.cell 0 (v := .int .u8 (H : Nat)) rfl; have b7_15_1 := B7xxxxxxxx.cell 1 (v := .int .u16 (B : Nat)) rfl; have b7_15_2 := B7xxxxxxxx.cell 2 (v := .int .u16 (T : Nat)) rfl; have b9_15_0 := B9xxxxxx.cell 0 (v := .int .u8 (H : Nat)) rfl; have b9_15_1 := B9xxxxxx.cell 1 (v := .int .u16 (P : Nat)) rfl; have b9_15_2 := B9xxxxxx.cell 2 (v := .int .u16 (Q : Nat)) rfl; have b11_15_0 := B11xxxx.cell 0 (v := .int .u8 (H : Nat)) rfl; have b11_15_1 := B11xxxx.cell 1 (v := .int .u16 (B : Nat)) rfl; have b11_15_2 := B11xxxx.cell 2 (v := .int .u16 (T : Nat)) rfl; have b14_15_0 := B14x.cell 0 (v := .int .u8 (H2 : Nat)) rfl; have b14_15_1 := B14x.cell 1 (v := .int .u16 (B2 : Nat)) rfl; have b14_15_2 := B14x.cell 2 (v := .int .u16 (T2 : Nat)) rfl))
  all_goals go_ret
  all_goals refine ⟨congrArg (fun x => Ending.returned (Value.bool x)) ?_, G15⟩
  · rw [HJ.out ⟨by omega, by omega, by omega⟩]; simp
  · have hne : ¬ X2 = X := fun e => by have := HI.out e; omega
    simp
    exact fun h => hne (toList_inj h)
  · have hne : ¬ X2 = X := fun e => by have := HI.out e; omega
    simp
    exact fun h => hne (toList_inj h)
  · have hne : ¬ X2 = X := fun e => by have := HI.out e; omega
    simp
    exact fun h => hne (toList_inj h)
theorem back_walk (x b t oh ob ot : Int) (w : World) (h1 : 0 ≤ x) (h1' : x ≤ 255) (h2 : 0 ≤ b) (h2' : b ≤ 65535) (h3 : 0 ≤ t) (h3' : t ≤ 65535) (h4 : 0 ≤ oh ∧ oh ≤ 255) (h5 : 0 ≤ ob ∧ ob ≤ 65535) (h6 : 0 ≤ ot ∧ ot ≤ 65535) (hv : Hv w) : Calls Tryd.prog 7 #[.int .u8 x, .int .u16 b, .int .u16 t, .agg #[.int .u8 oh, .int .u16 ob, .int .u16 ot]] w fun e w' => e = .returned (.bool true) ∧ Below w.heap.size w w' := by
  obtain ⟨x, rfl⟩ := Int.eq_ofNat_of_zero_le h1
  obtain ⟨b, rfl⟩ := Int.eq_ofNat_of_zero_le h2
  obtain ⟨t, rfl⟩ := Int.eq_ofNat_of_zero_le h3
  obtain ⟨oh, rfl⟩ := Int.eq_ofNat_of_zero_le h4.1
  obtain ⟨ob, rfl⟩ := Int.eq_ofNat_of_zero_le h5.1
  obtain ⟨ot, rfl⟩ := Int.eq_ofNat_of_zero_le h6.1
  exact (back_nat x b t oh ob ot (by omega) (by omega) (by omega) (by omega) w hv).mono fun e w' ⟨a, b⟩ => ⟨a, gb_below b⟩
end Go.Proofs.YtnedofaobhmloaaDoor
