/- The walk of LifeSpells. -/
import Derived.Test.YtnedofaobhmloabDoorL32
import Derived.Test.YtnedofaobhmloabDoorL18
namespace Go.Proofs.YtnedofaobhmloabDoor
open Go.RowKit
set_option linter.unusedVariables false
set_option linter.unusedSimpArgs false
set_option maxRecDepth 100000

set_option maxHeartbeats 4000000 in
theorem spells1a (x b t q : Nat) (hq64 : q < 18446744073709551616) (B T : Nat) (D S X1 X2 X3 X4 : ByteArray) (hm : ∀ w, Calls Tryd.prog 6 #[.int .u8 x, .int .u16 b, .int .u16 t] w fun e w' => e = .returned (.agg #[.int .u8 1, .int .u16 (B : Nat), .int .u16 (T : Nat)]) ∧ w.grownBy w' none) (hb : ∀ w, Calls Tryd.prog 7 #[.int .u16 B, .int .u64 q] w fun e w' => e = .returned (.string D) ∧ w.grownBy w' none) (ht : ∀ w, Calls Tryd.prog 7 #[.int .u16 T, .int .u64 ((q : Int) / 7)] w fun e w' => e = .returned (.string S) ∧ w.grownBy w' none) (a1 : ∀ w : World, (Op.stringOp .add ⟨#[98]⟩ D).run Tryd.prog w = .ok (.string X1) w) (a2 : ∀ w : World, (Op.stringOp .add X1 ⟨#[47, 83]⟩).run Tryd.prog w = .ok (.string X2) w) (a3 : ∀ w : World, (Op.stringOp .add X2 S).run Tryd.prog w = .ok (.string X3) w) (a4 : ∀ w : World, (Op.stringOp .add X3 ⟨#[]⟩).run Tryd.prog w = .ok (.string X4) w) (hp : ∀ w, Hid (Hv w) → Calls Tryd.prog 8 #[.string X4] w fun e w' => e = .returned (.tuple #[.agg #[.int .u8 1, .int .u16 (B : Nat), .int .u16 (T : Nat)], .int .i64 0, .int .i64 0]) ∧ w.grownBy w' none) (hD0 : D = ⟨#[]⟩) (w : World) (hv : Hid (Hv w)) : Calls Tryd.prog 3 #[.int .u8 x, .int .u16 b, .int .u16 t, .int .u64 q] w fun e w' => e = .returned (.bool true) ∧ w.grownBy w' none := by
  subst hD0
  go_enter Tryd.func3, Tryd.ntmps3
  go_wp2_with (first | (go_at_call 5; (fail_if_success (guard_hyp g1)); refine (aliveC _ hv).mono ?_; rintro e w1 ⟨rfl, g1⟩; have hv1 := hvK hv g1) | (go_at_call 6; (fail_if_success (guard_hyp g2)); refine (hm _).mono ?_; rintro e w2 ⟨rfl, g2⟩; have G2 := gb_trans g1 g2; have hv2 := hvK hv G2; obtain ⟨W3, hW3, sz3, g3, B3⟩ := boxn w2 #[.int .u8 1, .int .u16 (B : Nat), .int .u16 (T : Nat)] 26; have G3 := gb_trans G2 g3; have hv3 := hvK hv G3; have b3_3_0 := B3.cell 0 (v := .int .u8 1) rfl; have b3_3_1 := B3.cell 1 (v := .int .u16 (B : Nat)) rfl; have b3_3_2 := B3.cell 2 (v := .int .u16 (T : Nat)) rfl; obtain ⟨W4, hW4, sz4, g4, B4⟩ := boxn W3 #[.string ⟨#[]⟩, .string ⟨#[]⟩, .string ⟨#[118]⟩, .string ⟨#[72]⟩] 9; have G4 := gb_trans G3 g4; have hv4 := hvK hv G4; have B3x := B3.kept g4 (by simp); have b3_4_0 := B3x.cell 0 (v := .int .u8 1) rfl; have b3_4_1 := B3x.cell 1 (v := .int .u16 (B : Nat)) rfl; have b3_4_2 := B3x.cell 2 (v := .int .u16 (T : Nat)) rfl; have b4_4_0 := B4.cell 0 (v := .string ⟨#[]⟩) rfl; have b4_4_1 := B4.cell 1 (v := .string ⟨#[]⟩) rfl; have b4_4_2 := B4.cell 2 (v := .string ⟨#[118]⟩) rfl; have b4_4_3 := B4.cell 3 (v := .string ⟨#[72]⟩) rfl) | (go_at_call 7; (fail_if_success (guard_hyp g5)); refine (hb _).mono ?_; rintro e w5 ⟨rfl, g5⟩; have G5 := gb_trans G4 g5; have hv5 := hvK hv G5; have B3xx := B3x.kept g5 (by simp); have B4x := B4.kept g5 (by simp); clear b3_3_0 b3_3_1 b3_3_2 b3_4_0 b3_4_1 b3_4_2 b4_4_0 b4_4_1 b4_4_2 b4_4_3; have b3_5_0 := B3xx.cell 0 (v := .int .u8 1) rfl; have b3_5_1 := B3xx.cell 1 (v := .int .u16 (B : Nat)) rfl; have b3_5_2 := B3xx.cell 2 (v := .int .u16 (T : Nat)) rfl; have b4_5_0 := B4x.cell 0 (v := .string ⟨#[]⟩) rfl; have b4_5_1 := B4x.cell 1 (v := .string ⟨#[]⟩) rfl; have b4_5_2 := B4x.cell 2 (v := .string ⟨#[118]⟩) rfl; have b4_5_3 := B4x.cell 3 (v := .string ⟨#[72]⟩) rfl) | (go_at_call 7; (fail_if_success (guard_hyp g6)); refine (ht _).mono ?_; rintro e w6 ⟨rfl, g6⟩; have G6 := gb_trans G5 g6; have hv6 := hvK hv G6; have B3xxx := B3xx.kept g6 (by simp); have B4xx := B4x.kept g6 (by simp); clear b3_5_0 b3_5_1 b3_5_2 b4_5_0 b4_5_1 b4_5_2 b4_5_3; have b3_6_0 := B3xxx.cell 0 (v := .int .u8 1) rfl; have b3_6_1 := B3xxx.cell 1 (v := .int .u16 (B : Nat)) rfl; have b3_6_2 := B3xxx.cell 2 (v := .int .u16 (T : Nat)) rfl; have b4_6_0 := B4xx.cell 0 (v := .string ⟨#[]⟩) rfl; have b4_6_1 := B4xx.cell 1 (v := .string ⟨#[]⟩) rfl; have b4_6_2 := B4xx.cell 2 (v := .string ⟨#[118]⟩) rfl; have b4_6_3 := B4xx.cell 3 (v := .string ⟨#[72]⟩) rfl) | (go_at_call 8; (fail_if_success (guard_hyp g7)); refine (hp _ hv6).mono ?_; rintro e w7 ⟨rfl, g7⟩; have G7 := gb_trans G6 g7; have hv7 := hvK hv G7; have B3xxxx := B3xxx.kept g7 (by simp); have B4xxx := B4xx.kept g7 (by simp); obtain ⟨W8, hW8, sz8, g8, B8⟩ := boxn w7 #[.int .u8 1, .int .u16 (B : Nat), .int .u16 (T : Nat)] 26; have G8 := gb_trans G7 g8; have hv8 := hvK hv G8; have B3xxxxx := B3xxxx.kept g8 (by simp); have B4xxxx := B4xxx.kept g8 (by simp); clear b3_6_0 b3_6_1 b3_6_2 b4_6_0 b4_6_1 b4_6_2 b4_6_3; have b3_8_0 := B3xxxxx.cell 0 (v := .int .u8 1) rfl; have b3_8_1 := B3xxxxx.cell 1 (v := .int .u16 (B : Nat)) rfl; have b3_8_2 := B3xxxxx.cell 2 (v := .int .u16 (T : Nat)) rfl; have b4_8_0 := B4xxxx.cell 0 (v := .string ⟨#[]⟩) rfl; have b4_8_1 := B4xxxx.cell 1 (v := .string ⟨#[]⟩) rfl; have b4_8_2 := B4xxxx.cell 2 (v := .string ⟨#[118]⟩) rfl; have b4_8_3 := B4xxxx.cell 3 (v := .string ⟨#[72]⟩) rfl; have b8_8_0 := B8.cell 0 (v := .int .u8 1) rfl; have b8_8_1 := B8.cell 1 (v := .int .u16 (B : Nat)) rfl; have b8_8_2 := B8.cell 2 (v := .int .u16 (T : Nat)) rfl))
  all_goals go_ret
  all_goals exact ⟨rfl, G8⟩

set_option maxHeartbeats 4000000 in
theorem spells1b (x b t q : Nat) (hq64 : q < 18446744073709551616) (B T : Nat) (D S X1 X2 X3 X4 : ByteArray) (hm : ∀ w, Calls Tryd.prog 6 #[.int .u8 x, .int .u16 b, .int .u16 t] w fun e w' => e = .returned (.agg #[.int .u8 1, .int .u16 (B : Nat), .int .u16 (T : Nat)]) ∧ w.grownBy w' none) (hb : ∀ w, Calls Tryd.prog 7 #[.int .u16 B, .int .u64 q] w fun e w' => e = .returned (.string D) ∧ w.grownBy w' none) (ht : ∀ w, Calls Tryd.prog 7 #[.int .u16 T, .int .u64 ((q : Int) / 7)] w fun e w' => e = .returned (.string S) ∧ w.grownBy w' none) (a1 : ∀ w : World, (Op.stringOp .add ⟨#[98]⟩ D).run Tryd.prog w = .ok (.string X1) w) (a2 : ∀ w : World, (Op.stringOp .add X1 ⟨#[47, 83]⟩).run Tryd.prog w = .ok (.string X2) w) (a3 : ∀ w : World, (Op.stringOp .add X2 S).run Tryd.prog w = .ok (.string X3) w) (a4 : ∀ w : World, (Op.stringOp .add X3 ⟨#[]⟩).run Tryd.prog w = .ok (.string X4) w) (hp : ∀ w, Hid (Hv w) → Calls Tryd.prog 8 #[.string X4] w fun e w' => e = .returned (.tuple #[.agg #[.int .u8 1, .int .u16 (B : Nat), .int .u16 (T : Nat)], .int .i64 0, .int .i64 0]) ∧ w.grownBy w' none) (Y1 Y2 Y3 Y4 Y5 E : ByteArray) (hD : 1 ≤ D.size) (hE : D.extract 0 1 = E) (c1 : ∀ w : World, (Op.stringOp .add ⟨#[66]⟩ D).run Tryd.prog w = .ok (.string Y1) w) (c2 : ∀ w : World, (Op.stringOp .add Y1 E).run Tryd.prog w = .ok (.string Y2) w) (c3 : ∀ w : World, (Op.stringOp .add Y2 ⟨#[47, 83]⟩).run Tryd.prog w = .ok (.string Y3) w) (c4 : ∀ w : World, (Op.stringOp .add Y3 S).run Tryd.prog w = .ok (.string Y4) w) (c5 : ∀ w : World, (Op.stringOp .add Y4 ⟨#[]⟩).run Tryd.prog w = .ok (.string Y5) w) (hq : ∀ w, Hid (Hv w) → Calls Tryd.prog 8 #[.string Y5] w fun e w' => e = .returned (.tuple #[.agg #[.int .u8 0, .int .u16 0, .int .u16 0], .int .i64 (1 + (D.size : Int)), .int .i64 81]) ∧ w.grownBy w' none) (hDl : (D.toList == []) = false) (hDs : D.size < 100) (w : World) (hv : Hid (Hv w)) : Calls Tryd.prog 3 #[.int .u8 x, .int .u16 b, .int .u16 t, .int .u64 q] w fun e w' => e = .returned (.bool true) ∧ w.grownBy w' none := by
  have hD1 : (1 : Int) ≤ (D.size : Int) := by omega
  go_enter Tryd.func3, Tryd.ntmps3
  go_wp2_with (first | (go_at_call 5; (fail_if_success (guard_hyp g1)); refine (aliveC _ hv).mono ?_; rintro e w1 ⟨rfl, g1⟩; have hv1 := hvK hv g1) | (go_at_call 6; (fail_if_success (guard_hyp g2)); refine (hm _).mono ?_; rintro e w2 ⟨rfl, g2⟩; have G2 := gb_trans g1 g2; have hv2 := hvK hv G2; obtain ⟨W3, hW3, sz3, g3, B3⟩ := boxn w2 #[.int .u8 1, .int .u16 (B : Nat), .int .u16 (T : Nat)] 26; have G3 := gb_trans G2 g3; have hv3 := hvK hv G3; have b3_3_0 := B3.cell 0 (v := .int .u8 1) rfl; have b3_3_1 := B3.cell 1 (v := .int .u16 (B : Nat)) rfl; have b3_3_2 := B3.cell 2 (v := .int .u16 (T : Nat)) rfl; obtain ⟨W4, hW4, sz4, g4, B4⟩ := boxn W3 #[.string ⟨#[]⟩, .string ⟨#[]⟩, .string ⟨#[118]⟩, .string ⟨#[72]⟩] 9; have G4 := gb_trans G3 g4; have hv4 := hvK hv G4; have B3x := B3.kept g4 (by simp); have b3_4_0 := B3x.cell 0 (v := .int .u8 1) rfl; have b3_4_1 := B3x.cell 1 (v := .int .u16 (B : Nat)) rfl; have b3_4_2 := B3x.cell 2 (v := .int .u16 (T : Nat)) rfl; have b4_4_0 := B4.cell 0 (v := .string ⟨#[]⟩) rfl; have b4_4_1 := B4.cell 1 (v := .string ⟨#[]⟩) rfl; have b4_4_2 := B4.cell 2 (v := .string ⟨#[118]⟩) rfl; have b4_4_3 := B4.cell 3 (v := .string ⟨#[72]⟩) rfl) | (go_at_call 7; (fail_if_success (guard_hyp g5)); refine (hb _).mono ?_; rintro e w5 ⟨rfl, g5⟩; have G5 := gb_trans G4 g5; have hv5 := hvK hv G5; have B3xx := B3x.kept g5 (by simp); have B4x := B4.kept g5 (by simp); clear b3_3_0 b3_3_1 b3_3_2 b3_4_0 b3_4_1 b3_4_2 b4_4_0 b4_4_1 b4_4_2 b4_4_3; have b3_5_0 := B3xx.cell 0 (v := .int .u8 1) rfl; have b3_5_1 := B3xx.cell 1 (v := .int .u16 (B : Nat)) rfl; have b3_5_2 := B3xx.cell 2 (v := .int .u16 (T : Nat)) rfl; have b4_5_0 := B4x.cell 0 (v := .string ⟨#[]⟩) rfl; have b4_5_1 := B4x.cell 1 (v := .string ⟨#[]⟩) rfl; have b4_5_2 := B4x.cell 2 (v := .string ⟨#[118]⟩) rfl; have b4_5_3 := B4x.cell 3 (v := .string ⟨#[72]⟩) rfl) | (go_at_call 7; (fail_if_success (guard_hyp g6)); refine (ht _).mono ?_; rintro e w6 ⟨rfl, g6⟩; have G6 := gb_trans G5 g6; have hv6 := hvK hv G6; have B3xxx := B3xx.kept g6 (by simp); have B4xx := B4x.kept g6 (by simp); clear b3_5_0 b3_5_1 b3_5_2 b4_5_0 b4_5_1 b4_5_2 b4_5_3; have b3_6_0 := B3xxx.cell 0 (v := .int .u8 1) rfl; have b3_6_1 := B3xxx.cell 1 (v := .int .u16 (B : Nat)) rfl; have b3_6_2 := B3xxx.cell 2 (v := .int .u16 (T : Nat)) rfl; have b4_6_0 := B4xx.cell 0 (v := .string ⟨#[]⟩) rfl; have b4_6_1 := B4xx.cell 1 (v := .string ⟨#[]⟩) rfl; have b4_6_2 := B4xx.cell 2 (v := .string ⟨#[118]⟩) rfl; have b4_6_3 := B4xx.cell 3 (v := .string ⟨#[72]⟩) rfl) | (go_at_call 8; (fail_if_success (guard_hyp g7)); refine (hp _ hv6).mono ?_; rintro e w7 ⟨rfl, g7⟩; have G7 := gb_trans G6 g7; have hv7 := hvK hv G7; have B3xxxx := B3xxx.kept g7 (by simp); have B4xxx := B4xx.kept g7 (by simp); obtain ⟨W8, hW8, sz8, g8, B8⟩ := boxn w7 #[.int .u8 1, .int .u16 (B : Nat), .int .u16 (T : Nat)] 26; have G8 := gb_trans G7 g8; have hv8 := hvK hv G8; have B3xxxxx := B3xxxx.kept g8 (by simp); have B4xxxx := B4xxx.kept g8 (by simp); clear b3_6_0 b3_6_1 b3_6_2 b4_6_0 b4_6_1 b4_6_2 b4_6_3; have b3_8_0 := B3xxxxx.cell 0 (v := .int .u8 1) rfl; have b3_8_1 := B3xxxxx.cell 1 (v := .int .u16 (B : Nat)) rfl; have b3_8_2 := B3xxxxx.cell 2 (v := .int .u16 (T : Nat)) rfl; have b4_8_0 := B4xxxx.cell 0 (v := .string ⟨#[]⟩) rfl; have b4_8_1 := B4xxxx.cell 1 (v := .string ⟨#[]⟩) rfl; have b4_8_2 := B4xxxx.cell 2 (v := .string ⟨#[118]⟩) rfl; have b4_8_3 := B4xxxx.cell 3 (v := .string ⟨#[72]⟩) rfl; have b8_8_0 := B8.cell 0 (v := .int .u8 1) rfl; have b8_8_1 := B8.cell 1 (v := .int .u16 (B : Nat)) rfl; have b8_8_2 := B8.cell 2 (v := .int .u16 (T : Nat)) rfl) | (go_at_call 8; (fail_if_success (guard_hyp g9)); refine (hq _ hv8).mono ?_; rintro e w9 ⟨rfl, g9⟩; have G9 := gb_trans G8 g9; have hv9 := hvK hv G9; have B3xxxxxx := B3xxxxx.kept g9 (by simp); have B4xxxxx := B4xxxx.kept g9 (by simp); have B8x := B8.kept g9 (by simp); obtain ⟨W10, hW10, sz10, g10, B10⟩ := boxn w9 #[.int .u8 0, .int .u16 0, .int .u16 0] 26; have G10 := gb_trans G9 g10; have hv10 := hvK hv G10; have B3xxxxxxx := B3xxxxxx.kept g10 (by simp); have B4xxxxxx := B4xxxxx.kept g10 (by simp); have B8xx := B8x.kept g10 (by simp); have sm10_0 := Bo.same B10 0 (v := .int .u8 0) rfl; have sm10_1 := Bo.same B10 1 (v := .int .u16 0) rfl; have sm10_2 := Bo.same B10 2 (v := .int .u16 0) rfl; have fz10_0 := B10.frozen 0; have fz10_1 := B10.frozen 1; have fz10_2 := B10.frozen 2; clear b3_8_0 b3_8_1 b3_8_2 b4_8_0 b4_8_1 b4_8_2 b4_8_3 b8_8_0 b8_8_1 b8_8_2; have b3_10_0 := B3xxxxxxx.cell 0 (v := .int .u8 1) rfl; have b3_10_1 := B3xxxxxxx.cell 1 (v := .int .u16 (B : Nat)) rfl; have b3_10_2 := B3xxxxxxx.cell 2 (v := .int .u16 (T : Nat)) rfl; have b4_10_0 := B4xxxxxx.cell 0 (v := .string ⟨#[]⟩) rfl; have b4_10_1 := B4xxxxxx.cell 1 (v := .string ⟨#[]⟩) rfl; have b4_10_2 := B4xxxxxx.cell 2 (v := .string ⟨#[118]⟩) rfl; have b4_10_3 := B4xxxxxx.cell 3 (v := .string ⟨#[72]⟩) rfl; have b8_10_0 := B8xx.cell 0 (v := .int .u8 1) rfl; have b8_10_1 := B8xx.cell 1 (v := .int .u16 (B : Nat)) rfl; have b8_10_2 := B8xx.cell 2 (v := .int .u16 (T : Nat)) rfl; have b10_10_0 := B10.cell 0 (v := .int .u8 0) rfl; have b10_10_1 := B10.cell 1 (v := .int .u16 0) rfl; have b10_10_2 := B10.cell 2 (v := .int .u16 0) rfl))
  all_goals go_ret
  all_goals exact ⟨rfl, G10⟩

set_option maxHeartbeats 4000000 in
theorem spells2a (x b t q : Nat) (hq64 : q < 18446744073709551616) (B T : Nat) (D S X1 X2 X3 X4 : ByteArray) (hm : ∀ w, Calls Tryd.prog 6 #[.int .u8 x, .int .u16 b, .int .u16 t] w fun e w' => e = .returned (.agg #[.int .u8 2, .int .u16 (B : Nat), .int .u16 (T : Nat)]) ∧ w.grownBy w' none) (hb : ∀ w, Calls Tryd.prog 7 #[.int .u16 B, .int .u64 q] w fun e w' => e = .returned (.string D) ∧ w.grownBy w' none) (ht : ∀ w, Calls Tryd.prog 7 #[.int .u16 T, .int .u64 ((q : Int) / 7)] w fun e w' => e = .returned (.string S) ∧ w.grownBy w' none) (a1 : ∀ w : World, (Op.stringOp .add ⟨#[98]⟩ D).run Tryd.prog w = .ok (.string X1) w) (a2 : ∀ w : World, (Op.stringOp .add X1 ⟨#[47, 83]⟩).run Tryd.prog w = .ok (.string X2) w) (a3 : ∀ w : World, (Op.stringOp .add X2 S).run Tryd.prog w = .ok (.string X3) w) (a4 : ∀ w : World, (Op.stringOp .add X3 ⟨#[118]⟩).run Tryd.prog w = .ok (.string X4) w) (hp : ∀ w, Hid (Hv w) → Calls Tryd.prog 8 #[.string X4] w fun e w' => e = .returned (.tuple #[.agg #[.int .u8 2, .int .u16 (B : Nat), .int .u16 (T : Nat)], .int .i64 0, .int .i64 0]) ∧ w.grownBy w' none) (hD0 : D = ⟨#[]⟩) (w : World) (hv : Hid (Hv w)) : Calls Tryd.prog 3 #[.int .u8 x, .int .u16 b, .int .u16 t, .int .u64 q] w fun e w' => e = .returned (.bool true) ∧ w.grownBy w' none := by
  subst hD0
  go_enter Tryd.func3, Tryd.ntmps3
  go_wp2_with (first | (go_at_call 5; (fail_if_success (guard_hyp g1)); refine (aliveC _ hv).mono ?_; rintro e w1 ⟨rfl, g1⟩; have hv1 := hvK hv g1) | (go_at_call 6; (fail_if_success (guard_hyp g2)); refine (hm _).mono ?_; rintro e w2 ⟨rfl, g2⟩; have G2 := gb_trans g1 g2; have hv2 := hvK hv G2; obtain ⟨W3, hW3, sz3, g3, B3⟩ := boxn w2 #[.int .u8 2, .int .u16 (B : Nat), .int .u16 (T : Nat)] 26; have G3 := gb_trans G2 g3; have hv3 := hvK hv G3; have b3_3_0 := B3.cell 0 (v := .int .u8 2) rfl; have b3_3_1 := B3.cell 1 (v := .int .u16 (B : Nat)) rfl; have b3_3_2 := B3.cell 2 (v := .int .u16 (T : Nat)) rfl; obtain ⟨W4, hW4, sz4, g4, B4⟩ := boxn W3 #[.string ⟨#[]⟩, .string ⟨#[]⟩, .string ⟨#[118]⟩, .string ⟨#[72]⟩] 9; have G4 := gb_trans G3 g4; have hv4 := hvK hv G4; have B3x := B3.kept g4 (by simp); have b3_4_0 := B3x.cell 0 (v := .int .u8 2) rfl; have b3_4_1 := B3x.cell 1 (v := .int .u16 (B : Nat)) rfl; have b3_4_2 := B3x.cell 2 (v := .int .u16 (T : Nat)) rfl; have b4_4_0 := B4.cell 0 (v := .string ⟨#[]⟩) rfl; have b4_4_1 := B4.cell 1 (v := .string ⟨#[]⟩) rfl; have b4_4_2 := B4.cell 2 (v := .string ⟨#[118]⟩) rfl; have b4_4_3 := B4.cell 3 (v := .string ⟨#[72]⟩) rfl) | (go_at_call 7; (fail_if_success (guard_hyp g5)); refine (hb _).mono ?_; rintro e w5 ⟨rfl, g5⟩; have G5 := gb_trans G4 g5; have hv5 := hvK hv G5; have B3xx := B3x.kept g5 (by simp); have B4x := B4.kept g5 (by simp); clear b3_3_0 b3_3_1 b3_3_2 b3_4_0 b3_4_1 b3_4_2 b4_4_0 b4_4_1 b4_4_2 b4_4_3; have b3_5_0 := B3xx.cell 0 (v := .int .u8 2) rfl; have b3_5_1 := B3xx.cell 1 (v := .int .u16 (B : Nat)) rfl; have b3_5_2 := B3xx.cell 2 (v := .int .u16 (T : Nat)) rfl; have b4_5_0 := B4x.cell 0 (v := .string ⟨#[]⟩) rfl; have b4_5_1 := B4x.cell 1 (v := .string ⟨#[]⟩) rfl; have b4_5_2 := B4x.cell 2 (v := .string ⟨#[118]⟩) rfl; have b4_5_3 := B4x.cell 3 (v := .string ⟨#[72]⟩) rfl) | (go_at_call 7; (fail_if_success (guard_hyp g6)); refine (ht _).mono ?_; rintro e w6 ⟨rfl, g6⟩; have G6 := gb_trans G5 g6; have hv6 := hvK hv G6; have B3xxx := B3xx.kept g6 (by simp); have B4xx := B4x.kept g6 (by simp); clear b3_5_0 b3_5_1 b3_5_2 b4_5_0 b4_5_1 b4_5_2 b4_5_3; have b3_6_0 := B3xxx.cell 0 (v := .int .u8 2) rfl; have b3_6_1 := B3xxx.cell 1 (v := .int .u16 (B : Nat)) rfl; have b3_6_2 := B3xxx.cell 2 (v := .int .u16 (T : Nat)) rfl; have b4_6_0 := B4xx.cell 0 (v := .string ⟨#[]⟩) rfl; have b4_6_1 := B4xx.cell 1 (v := .string ⟨#[]⟩) rfl; have b4_6_2 := B4xx.cell 2 (v := .string ⟨#[118]⟩) rfl; have b4_6_3 := B4xx.cell 3 (v := .string ⟨#[72]⟩) rfl) | (go_at_call 8; (fail_if_success (guard_hyp g7)); refine (hp _ hv6).mono ?_; rintro e w7 ⟨rfl, g7⟩; have G7 := gb_trans G6 g7; have hv7 := hvK hv G7; have B3xxxx := B3xxx.kept g7 (by simp); have B4xxx := B4xx.kept g7 (by simp); obtain ⟨W8, hW8, sz8, g8, B8⟩ := boxn w7 #[.int .u8 2, .int .u16 (B : Nat), .int .u16 (T : Nat)] 26; have G8 := gb_trans G7 g8; have hv8 := hvK hv G8; have B3xxxxx := B3xxxx.kept g8 (by simp); have B4xxxx := B4xxx.kept g8 (by simp); clear b3_6_0 b3_6_1 b3_6_2 b4_6_0 b4_6_1 b4_6_2 b4_6_3; have b3_8_0 := B3xxxxx.cell 0 (v := .int .u8 2) rfl; have b3_8_1 := B3xxxxx.cell 1 (v := .int .u16 (B : Nat)) rfl; have b3_8_2 := B3xxxxx.cell 2 (v := .int .u16 (T : Nat)) rfl; have b4_8_0 := B4xxxx.cell 0 (v := .string ⟨#[]⟩) rfl; have b4_8_1 := B4xxxx.cell 1 (v := .string ⟨#[]⟩) rfl; have b4_8_2 := B4xxxx.cell 2 (v := .string ⟨#[118]⟩) rfl; have b4_8_3 := B4xxxx.cell 3 (v := .string ⟨#[72]⟩) rfl; have b8_8_0 := B8.cell 0 (v := .int .u8 2) rfl; have b8_8_1 := B8.cell 1 (v := .int .u16 (B : Nat)) rfl; have b8_8_2 := B8.cell 2 (v := .int .u16 (T : Nat)) rfl))
  all_goals go_ret
  all_goals exact ⟨rfl, G8⟩

set_option maxHeartbeats 4000000 in
theorem spells2b (x b t q : Nat) (hq64 : q < 18446744073709551616) (B T : Nat) (D S X1 X2 X3 X4 : ByteArray) (hm : ∀ w, Calls Tryd.prog 6 #[.int .u8 x, .int .u16 b, .int .u16 t] w fun e w' => e = .returned (.agg #[.int .u8 2, .int .u16 (B : Nat), .int .u16 (T : Nat)]) ∧ w.grownBy w' none) (hb : ∀ w, Calls Tryd.prog 7 #[.int .u16 B, .int .u64 q] w fun e w' => e = .returned (.string D) ∧ w.grownBy w' none) (ht : ∀ w, Calls Tryd.prog 7 #[.int .u16 T, .int .u64 ((q : Int) / 7)] w fun e w' => e = .returned (.string S) ∧ w.grownBy w' none) (a1 : ∀ w : World, (Op.stringOp .add ⟨#[98]⟩ D).run Tryd.prog w = .ok (.string X1) w) (a2 : ∀ w : World, (Op.stringOp .add X1 ⟨#[47, 83]⟩).run Tryd.prog w = .ok (.string X2) w) (a3 : ∀ w : World, (Op.stringOp .add X2 S).run Tryd.prog w = .ok (.string X3) w) (a4 : ∀ w : World, (Op.stringOp .add X3 ⟨#[118]⟩).run Tryd.prog w = .ok (.string X4) w) (hp : ∀ w, Hid (Hv w) → Calls Tryd.prog 8 #[.string X4] w fun e w' => e = .returned (.tuple #[.agg #[.int .u8 2, .int .u16 (B : Nat), .int .u16 (T : Nat)], .int .i64 0, .int .i64 0]) ∧ w.grownBy w' none) (Y1 Y2 Y3 Y4 Y5 E : ByteArray) (hD : 1 ≤ D.size) (hE : D.extract 0 1 = E) (c1 : ∀ w : World, (Op.stringOp .add ⟨#[66]⟩ D).run Tryd.prog w = .ok (.string Y1) w) (c2 : ∀ w : World, (Op.stringOp .add Y1 E).run Tryd.prog w = .ok (.string Y2) w) (c3 : ∀ w : World, (Op.stringOp .add Y2 ⟨#[47, 83]⟩).run Tryd.prog w = .ok (.string Y3) w) (c4 : ∀ w : World, (Op.stringOp .add Y3 S).run Tryd.prog w = .ok (.string Y4) w) (c5 : ∀ w : World, (Op.stringOp .add Y4 ⟨#[118]⟩).run Tryd.prog w = .ok (.string Y5) w) (hq : ∀ w, Hid (Hv w) → Calls Tryd.prog 8 #[.string Y5] w fun e w' => e = .returned (.tuple #[.agg #[.int .u8 0, .int .u16 0, .int .u16 0], .int .i64 (1 + (D.size : Int)), .int .i64 81]) ∧ w.grownBy w' none) (hDl : (D.toList == []) = false) (hDs : D.size < 100) (w : World) (hv : Hid (Hv w)) : Calls Tryd.prog 3 #[.int .u8 x, .int .u16 b, .int .u16 t, .int .u64 q] w fun e w' => e = .returned (.bool true) ∧ w.grownBy w' none := by
  have hD1 : (1 : Int) ≤ (D.size : Int) := by omega
  go_enter Tryd.func3, Tryd.ntmps3
  go_wp2_with (first | (go_at_call 5; (fail_if_success (guard_hyp g1)); refine (aliveC _ hv).mono ?_; rintro e w1 ⟨rfl, g1⟩; have hv1 := hvK hv g1) | (go_at_call 6; (fail_if_success (guard_hyp g2)); refine (hm _).mono ?_; rintro e w2 ⟨rfl, g2⟩; have G2 := gb_trans g1 g2; have hv2 := hvK hv G2; obtain ⟨W3, hW3, sz3, g3, B3⟩ := boxn w2 #[.int .u8 2, .int .u16 (B : Nat), .int .u16 (T : Nat)] 26; have G3 := gb_trans G2 g3; have hv3 := hvK hv G3; have b3_3_0 := B3.cell 0 (v := .int .u8 2) rfl; have b3_3_1 := B3.cell 1 (v := .int .u16 (B : Nat)) rfl; have b3_3_2 := B3.cell 2 (v := .int .u16 (T : Nat)) rfl; obtain ⟨W4, hW4, sz4, g4, B4⟩ := boxn W3 #[.string ⟨#[]⟩, .string ⟨#[]⟩, .string ⟨#[118]⟩, .string ⟨#[72]⟩] 9; have G4 := gb_trans G3 g4; have hv4 := hvK hv G4; have B3x := B3.kept g4 (by simp); have b3_4_0 := B3x.cell 0 (v := .int .u8 2) rfl; have b3_4_1 := B3x.cell 1 (v := .int .u16 (B : Nat)) rfl; have b3_4_2 := B3x.cell 2 (v := .int .u16 (T : Nat)) rfl; have b4_4_0 := B4.cell 0 (v := .string ⟨#[]⟩) rfl; have b4_4_1 := B4.cell 1 (v := .string ⟨#[]⟩) rfl; have b4_4_2 := B4.cell 2 (v := .string ⟨#[118]⟩) rfl; have b4_4_3 := B4.cell 3 (v := .string ⟨#[72]⟩) rfl) | (go_at_call 7; (fail_if_success (guard_hyp g5)); refine (hb _).mono ?_; rintro e w5 ⟨rfl, g5⟩; have G5 := gb_trans G4 g5; have hv5 := hvK hv G5; have B3xx := B3x.kept g5 (by simp); have B4x := B4.kept g5 (by simp); clear b3_3_0 b3_3_1 b3_3_2 b3_4_0 b3_4_1 b3_4_2 b4_4_0 b4_4_1 b4_4_2 b4_4_3; have b3_5_0 := B3xx.cell 0 (v := .int .u8 2) rfl; have b3_5_1 := B3xx.cell 1 (v := .int .u16 (B : Nat)) rfl; have b3_5_2 := B3xx.cell 2 (v := .int .u16 (T : Nat)) rfl; have b4_5_0 := B4x.cell 0 (v := .string ⟨#[]⟩) rfl; have b4_5_1 := B4x.cell 1 (v := .string ⟨#[]⟩) rfl; have b4_5_2 := B4x.cell 2 (v := .string ⟨#[118]⟩) rfl; have b4_5_3 := B4x.cell 3 (v := .string ⟨#[72]⟩) rfl) | (go_at_call 7; (fail_if_success (guard_hyp g6)); refine (ht _).mono ?_; rintro e w6 ⟨rfl, g6⟩; have G6 := gb_trans G5 g6; have hv6 := hvK hv G6; have B3xxx := B3xx.kept g6 (by simp); have B4xx := B4x.kept g6 (by simp); clear b3_5_0 b3_5_1 b3_5_2 b4_5_0 b4_5_1 b4_5_2 b4_5_3; have b3_6_0 := B3xxx.cell 0 (v := .int .u8 2) rfl; have b3_6_1 := B3xxx.cell 1 (v := .int .u16 (B : Nat)) rfl; have b3_6_2 := B3xxx.cell 2 (v := .int .u16 (T : Nat)) rfl; have b4_6_0 := B4xx.cell 0 (v := .string ⟨#[]⟩) rfl; have b4_6_1 := B4xx.cell 1 (v := .string ⟨#[]⟩) rfl; have b4_6_2 := B4xx.cell 2 (v := .string ⟨#[118]⟩) rfl; have b4_6_3 := B4xx.cell 3 (v := .string ⟨#[72]⟩) rfl) | (go_at_call 8; (fail_if_success (guard_hyp g7)); refine (hp _ hv6).mono ?_; rintro e w7 ⟨rfl, g7⟩; have G7 := gb_trans G6 g7; have hv7 := hvK hv G7; have B3xxxx := B3xxx.kept g7 (by simp); have B4xxx := B4xx.kept g7 (by simp); obtain ⟨W8, hW8, sz8, g8, B8⟩ := boxn w7 #[.int .u8 2, .int .u16 (B : Nat), .int .u16 (T : Nat)] 26; have G8 := gb_trans G7 g8; have hv8 := hvK hv G8; have B3xxxxx := B3xxxx.kept g8 (by simp); have B4xxxx := B4xxx.kept g8 (by simp); clear b3_6_0 b3_6_1 b3_6_2 b4_6_0 b4_6_1 b4_6_2 b4_6_3; have b3_8_0 := B3xxxxx.cell 0 (v := .int .u8 2) rfl; have b3_8_1 := B3xxxxx.cell 1 (v := .int .u16 (B : Nat)) rfl; have b3_8_2 := B3xxxxx.cell 2 (v := .int .u16 (T : Nat)) rfl; have b4_8_0 := B4xxxx.cell 0 (v := .string ⟨#[]⟩) rfl; have b4_8_1 := B4xxxx.cell 1 (v := .string ⟨#[]⟩) rfl; have b4_8_2 := B4xxxx.cell 2 (v := .string ⟨#[118]⟩) rfl; have b4_8_3 := B4xxxx.cell 3 (v := .string ⟨#[72]⟩) rfl; have b8_8_0 := B8.cell 0 (v := .int .u8 2) rfl; have b8_8_1 := B8.cell 1 (v := .int .u16 (B : Nat)) rfl; have b8_8_2 := B8.cell 2 (v := .int .u16 (T : Nat)) rfl) | (go_at_call 8; (fail_if_success (guard_hyp g9)); refine (hq _ hv8).mono ?_; rintro e w9 ⟨rfl, g9⟩; have G9 := gb_trans G8 g9; have hv9 := hvK hv G9; have B3xxxxxx := B3xxxxx.kept g9 (by simp); have B4xxxxx := B4xxxx.kept g9 (by simp); have B8x := B8.kept g9 (by simp); obtain ⟨W10, hW10, sz10, g10, B10⟩ := boxn w9 #[.int .u8 0, .int .u16 0, .int .u16 0] 26; have G10 := gb_trans G9 g10; have hv10 := hvK hv G10; have B3xxxxxxx := B3xxxxxx.kept g10 (by simp); have B4xxxxxx := B4xxxxx.kept g10 (by simp); have B8xx := B8x.kept g10 (by simp); have sm10_0 := Bo.same B10 0 (v := .int .u8 0) rfl; have sm10_1 := Bo.same B10 1 (v := .int .u16 0) rfl; have sm10_2 := Bo.same B10 2 (v := .int .u16 0) rfl; have fz10_0 := B10.frozen 0; have fz10_1 := B10.frozen 1; have fz10_2 := B10.frozen 2; clear b3_8_0 b3_8_1 b3_8_2 b4_8_0 b4_8_1 b4_8_2 b4_8_3 b8_8_0 b8_8_1 b8_8_2; have b3_10_0 := B3xxxxxxx.cell 0 (v := .int .u8 2) rfl; have b3_10_1 := B3xxxxxxx.cell 1 (v := .int .u16 (B : Nat)) rfl; have b3_10_2 := B3xxxxxxx.cell 2 (v := .int .u16 (T : Nat)) rfl; have b4_10_0 := B4xxxxxx.cell 0 (v := .string ⟨#[]⟩) rfl; have b4_10_1 := B4xxxxxx.cell 1 (v := .string ⟨#[]⟩) rfl; have b4_10_2 := B4xxxxxx.cell 2 (v := .string ⟨#[118]⟩) rfl; have b4_10_3 := B4xxxxxx.cell 3 (v := .string ⟨#[72]⟩) rfl; have b8_10_0 := B8xx.cell 0 (v := .int .u8 2) rfl; have b8_10_1 := B8xx.cell 1 (v := .int .u16 (B : Nat)) rfl; have b8_10_2 := B8xx.cell 2 (v := .int .u16 (T : Nat)) rfl; have b10_10_0 := B10.cell 0 (v := .int .u8 0) rfl; have b10_10_1 := B10.cell 1 (v := .int .u16 0) rfl; have b10_10_2 := B10.cell 2 (v := .int .u16 0) rfl))
  all_goals go_ret
  all_goals exact ⟨rfl, G10⟩

set_option maxHeartbeats 4000000 in
theorem spells3a (x b t q : Nat) (hq64 : q < 18446744073709551616) (B T : Nat) (D S X1 X2 X3 X4 : ByteArray) (hm : ∀ w, Calls Tryd.prog 6 #[.int .u8 x, .int .u16 b, .int .u16 t] w fun e w' => e = .returned (.agg #[.int .u8 3, .int .u16 (B : Nat), .int .u16 (T : Nat)]) ∧ w.grownBy w' none) (hb : ∀ w, Calls Tryd.prog 7 #[.int .u16 B, .int .u64 q] w fun e w' => e = .returned (.string D) ∧ w.grownBy w' none) (ht : ∀ w, Calls Tryd.prog 7 #[.int .u16 T, .int .u64 ((q : Int) / 7)] w fun e w' => e = .returned (.string S) ∧ w.grownBy w' none) (a1 : ∀ w : World, (Op.stringOp .add ⟨#[98]⟩ D).run Tryd.prog w = .ok (.string X1) w) (a2 : ∀ w : World, (Op.stringOp .add X1 ⟨#[47, 83]⟩).run Tryd.prog w = .ok (.string X2) w) (a3 : ∀ w : World, (Op.stringOp .add X2 S).run Tryd.prog w = .ok (.string X3) w) (a4 : ∀ w : World, (Op.stringOp .add X3 ⟨#[72]⟩).run Tryd.prog w = .ok (.string X4) w) (hp : ∀ w, Hid (Hv w) → Calls Tryd.prog 8 #[.string X4] w fun e w' => e = .returned (.tuple #[.agg #[.int .u8 3, .int .u16 (B : Nat), .int .u16 (T : Nat)], .int .i64 0, .int .i64 0]) ∧ w.grownBy w' none) (hD0 : D = ⟨#[]⟩) (w : World) (hv : Hid (Hv w)) : Calls Tryd.prog 3 #[.int .u8 x, .int .u16 b, .int .u16 t, .int .u64 q] w fun e w' => e = .returned (.bool true) ∧ w.grownBy w' none := by
  subst hD0
  go_enter Tryd.func3, Tryd.ntmps3
  go_wp2_with (first | (go_at_call 5; (fail_if_success (guard_hyp g1)); refine (aliveC _ hv).mono ?_; rintro e w1 ⟨rfl, g1⟩; have hv1 := hvK hv g1) | (go_at_call 6; (fail_if_success (guard_hyp g2)); refine (hm _).mono ?_; rintro e w2 ⟨rfl, g2⟩; have G2 := gb_trans g1 g2; have hv2 := hvK hv G2; obtain ⟨W3, hW3, sz3, g3, B3⟩ := boxn w2 #[.int .u8 3, .int .u16 (B : Nat), .int .u16 (T : Nat)] 26; have G3 := gb_trans G2 g3; have hv3 := hvK hv G3; have b3_3_0 := B3.cell 0 (v := .int .u8 3) rfl; have b3_3_1 := B3.cell 1 (v := .int .u16 (B : Nat)) rfl; have b3_3_2 := B3.cell 2 (v := .int .u16 (T : Nat)) rfl; obtain ⟨W4, hW4, sz4, g4, B4⟩ := boxn W3 #[.string ⟨#[]⟩, .string ⟨#[]⟩, .string ⟨#[118]⟩, .string ⟨#[72]⟩] 9; have G4 := gb_trans G3 g4; have hv4 := hvK hv G4; have B3x := B3.kept g4 (by simp); have b3_4_0 := B3x.cell 0 (v := .int .u8 3) rfl; have b3_4_1 := B3x.cell 1 (v := .int .u16 (B : Nat)) rfl; have b3_4_2 := B3x.cell 2 (v := .int .u16 (T : Nat)) rfl; have b4_4_0 := B4.cell 0 (v := .string ⟨#[]⟩) rfl; have b4_4_1 := B4.cell 1 (v := .string ⟨#[]⟩) rfl; have b4_4_2 := B4.cell 2 (v := .string ⟨#[118]⟩) rfl; have b4_4_3 := B4.cell 3 (v := .string ⟨#[72]⟩) rfl) | (go_at_call 7; (fail_if_success (guard_hyp g5)); refine (hb _).mono ?_; rintro e w5 ⟨rfl, g5⟩; have G5 := gb_trans G4 g5; have hv5 := hvK hv G5; have B3xx := B3x.kept g5 (by simp); have B4x := B4.kept g5 (by simp); clear b3_3_0 b3_3_1 b3_3_2 b3_4_0 b3_4_1 b3_4_2 b4_4_0 b4_4_1 b4_4_2 b4_4_3; have b3_5_0 := B3xx.cell 0 (v := .int .u8 3) rfl; have b3_5_1 := B3xx.cell 1 (v := .int .u16 (B : Nat)) rfl; have b3_5_2 := B3xx.cell 2 (v := .int .u16 (T : Nat)) rfl; have b4_5_0 := B4x.cell 0 (v := .string ⟨#[]⟩) rfl; have b4_5_1 := B4x.cell 1 (v := .string ⟨#[]⟩) rfl; have b4_5_2 := B4x.cell 2 (v := .string ⟨#[118]⟩) rfl; have b4_5_3 := B4x.cell 3 (v := .string ⟨#[72]⟩) rfl) | (go_at_call 7; (fail_if_success (guard_hyp g6)); refine (ht _).mono ?_; rintro e w6 ⟨rfl, g6⟩; have G6 := gb_trans G5 g6; have hv6 := hvK hv G6; have B3xxx := B3xx.kept g6 (by simp); have B4xx := B4x.kept g6 (by simp); clear b3_5_0 b3_5_1 b3_5_2 b4_5_0 b4_5_1 b4_5_2 b4_5_3; have b3_6_0 := B3xxx.cell 0 (v := .int .u8 3) rfl; have b3_6_1 := B3xxx.cell 1 (v := .int .u16 (B : Nat)) rfl; have b3_6_2 := B3xxx.cell 2 (v := .int .u16 (T : Nat)) rfl; have b4_6_0 := B4xx.cell 0 (v := .string ⟨#[]⟩) rfl; have b4_6_1 := B4xx.cell 1 (v := .string ⟨#[]⟩) rfl; have b4_6_2 := B4xx.cell 2 (v := .string ⟨#[118]⟩) rfl; have b4_6_3 := B4xx.cell 3 (v := .string ⟨#[72]⟩) rfl) | (go_at_call 8; (fail_if_success (guard_hyp g7)); refine (hp _ hv6).mono ?_; rintro e w7 ⟨rfl, g7⟩; have G7 := gb_trans G6 g7; have hv7 := hvK hv G7; have B3xxxx := B3xxx.kept g7 (by simp); have B4xxx := B4xx.kept g7 (by simp); obtain ⟨W8, hW8, sz8, g8, B8⟩ := boxn w7 #[.int .u8 3, .int .u16 (B : Nat), .int .u16 (T : Nat)] 26; have G8 := gb_trans G7 g8; have hv8 := hvK hv G8; have B3xxxxx := B3xxxx.kept g8 (by simp); have B4xxxx := B4xxx.kept g8 (by simp); clear b3_6_0 b3_6_1 b3_6_2 b4_6_0 b4_6_1 b4_6_2 b4_6_3; have b3_8_0 := B3xxxxx.cell 0 (v := .int .u8 3) rfl; have b3_8_1 := B3xxxxx.cell 1 (v := .int .u16 (B : Nat)) rfl; have b3_8_2 := B3xxxxx.cell 2 (v := .int .u16 (T : Nat)) rfl; have b4_8_0 := B4xxxx.cell 0 (v := .string ⟨#[]⟩) rfl; have b4_8_1 := B4xxxx.cell 1 (v := .string ⟨#[]⟩) rfl; have b4_8_2 := B4xxxx.cell 2 (v := .string ⟨#[118]⟩) rfl; have b4_8_3 := B4xxxx.cell 3 (v := .string ⟨#[72]⟩) rfl; have b8_8_0 := B8.cell 0 (v := .int .u8 3) rfl; have b8_8_1 := B8.cell 1 (v := .int .u16 (B : Nat)) rfl; have b8_8_2 := B8.cell 2 (v := .int .u16 (T : Nat)) rfl))
  all_goals go_ret
  all_goals exact ⟨rfl, G8⟩

set_option maxHeartbeats 4000000 in
theorem spells3b (x b t q : Nat) (hq64 : q < 18446744073709551616) (B T : Nat) (D S X1 X2 X3 X4 : ByteArray) (hm : ∀ w, Calls Tryd.prog 6 #[.int .u8 x, .int .u16 b, .int .u16 t] w fun e w' => e = .returned (.agg #[.int .u8 3, .int .u16 (B : Nat), .int .u16 (T : Nat)]) ∧ w.grownBy w' none) (hb : ∀ w, Calls Tryd.prog 7 #[.int .u16 B, .int .u64 q] w fun e w' => e = .returned (.string D) ∧ w.grownBy w' none) (ht : ∀ w, Calls Tryd.prog 7 #[.int .u16 T, .int .u64 ((q : Int) / 7)] w fun e w' => e = .returned (.string S) ∧ w.grownBy w' none) (a1 : ∀ w : World, (Op.stringOp .add ⟨#[98]⟩ D).run Tryd.prog w = .ok (.string X1) w) (a2 : ∀ w : World, (Op.stringOp .add X1 ⟨#[47, 83]⟩).run Tryd.prog w = .ok (.string X2) w) (a3 : ∀ w : World, (Op.stringOp .add X2 S).run Tryd.prog w = .ok (.string X3) w) (a4 : ∀ w : World, (Op.stringOp .add X3 ⟨#[72]⟩).run Tryd.prog w = .ok (.string X4) w) (hp : ∀ w, Hid (Hv w) → Calls Tryd.prog 8 #[.string X4] w fun e w' => e = .returned (.tuple #[.agg #[.int .u8 3, .int .u16 (B : Nat), .int .u16 (T : Nat)], .int .i64 0, .int .i64 0]) ∧ w.grownBy w' none) (Y1 Y2 Y3 Y4 Y5 E : ByteArray) (hD : 1 ≤ D.size) (hE : D.extract 0 1 = E) (c1 : ∀ w : World, (Op.stringOp .add ⟨#[66]⟩ D).run Tryd.prog w = .ok (.string Y1) w) (c2 : ∀ w : World, (Op.stringOp .add Y1 E).run Tryd.prog w = .ok (.string Y2) w) (c3 : ∀ w : World, (Op.stringOp .add Y2 ⟨#[47, 83]⟩).run Tryd.prog w = .ok (.string Y3) w) (c4 : ∀ w : World, (Op.stringOp .add Y3 S).run Tryd.prog w = .ok (.string Y4) w) (c5 : ∀ w : World, (Op.stringOp .add Y4 ⟨#[72]⟩).run Tryd.prog w = .ok (.string Y5) w) (hq : ∀ w, Hid (Hv w) → Calls Tryd.prog 8 #[.string Y5] w fun e w' => e = .returned (.tuple #[.agg #[.int .u8 0, .int .u16 0, .int .u16 0], .int .i64 (1 + (D.size : Int)), .int .i64 81]) ∧ w.grownBy w' none) (hDl : (D.toList == []) = false) (hDs : D.size < 100) (w : World) (hv : Hid (Hv w)) : Calls Tryd.prog 3 #[.int .u8 x, .int .u16 b, .int .u16 t, .int .u64 q] w fun e w' => e = .returned (.bool true) ∧ w.grownBy w' none := by
  have hD1 : (1 : Int) ≤ (D.size : Int) := by omega
  go_enter Tryd.func3, Tryd.ntmps3
  go_wp2_with (first | (go_at_call 5; (fail_if_success (guard_hyp g1)); refine (aliveC _ hv).mono ?_; rintro e w1 ⟨rfl, g1⟩; have hv1 := hvK hv g1) | (go_at_call 6; (fail_if_success (guard_hyp g2)); refine (hm _).mono ?_; rintro e w2 ⟨rfl, g2⟩; have G2 := gb_trans g1 g2; have hv2 := hvK hv G2; obtain ⟨W3, hW3, sz3, g3, B3⟩ := boxn w2 #[.int .u8 3, .int .u16 (B : Nat), .int .u16 (T : Nat)] 26; have G3 := gb_trans G2 g3; have hv3 := hvK hv G3; have b3_3_0 := B3.cell 0 (v := .int .u8 3) rfl; have b3_3_1 := B3.cell 1 (v := .int .u16 (B : Nat)) rfl; have b3_3_2 := B3.cell 2 (v := .int .u16 (T : Nat)) rfl; obtain ⟨W4, hW4, sz4, g4, B4⟩ := boxn W3 #[.string ⟨#[]⟩, .string ⟨#[]⟩, .string ⟨#[118]⟩, .string ⟨#[72]⟩] 9; have G4 := gb_trans G3 g4; have hv4 := hvK hv G4; have B3x := B3.kept g4 (by simp); have b3_4_0 := B3x.cell 0 (v := .int .u8 3) rfl; have b3_4_1 := B3x.cell 1 (v := .int .u16 (B : Nat)) rfl; have b3_4_2 := B3x.cell 2 (v := .int .u16 (T : Nat)) rfl; have b4_4_0 := B4.cell 0 (v := .string ⟨#[]⟩) rfl; have b4_4_1 := B4.cell 1 (v := .string ⟨#[]⟩) rfl; have b4_4_2 := B4.cell 2 (v := .string ⟨#[118]⟩) rfl; have b4_4_3 := B4.cell 3 (v := .string ⟨#[72]⟩) rfl) | (go_at_call 7; (fail_if_success (guard_hyp g5)); refine (hb _).mono ?_; rintro e w5 ⟨rfl, g5⟩; have G5 := gb_trans G4 g5; have hv5 := hvK hv G5; have B3xx := B3x.kept g5 (by simp); have B4x := B4.kept g5 (by simp); clear b3_3_0 b3_3_1 b3_3_2 b3_4_0 b3_4_1 b3_4_2 b4_4_0 b4_4_1 b4_4_2 b4_4_3; have b3_5_0 := B3xx.cell 0 (v := .int .u8 3) rfl; have b3_5_1 := B3xx.cell 1 (v := .int .u16 (B : Nat)) rfl; have b3_5_2 := B3xx.cell 2 (v := .int .u16 (T : Nat)) rfl; have b4_5_0 := B4x.cell 0 (v := .string ⟨#[]⟩) rfl; have b4_5_1 := B4x.cell 1 (v := .string ⟨#[]⟩) rfl; have b4_5_2 := B4x.cell 2 (v := .string ⟨#[118]⟩) rfl; have b4_5_3 := B4x.cell 3 (v := .string ⟨#[72]⟩) rfl) | (go_at_call 7; (fail_if_success (guard_hyp g6)); refine (ht _).mono ?_; rintro e w6 ⟨rfl, g6⟩; have G6 := gb_trans G5 g6; have hv6 := hvK hv G6; have B3xxx := B3xx.kept g6 (by simp); have B4xx := B4x.kept g6 (by simp); clear b3_5_0 b3_5_1 b3_5_2 b4_5_0 b4_5_1 b4_5_2 b4_5_3; have b3_6_0 := B3xxx.cell 0 (v := .int .u8 3) rfl; have b3_6_1 := B3xxx.cell 1 (v := .int .u16 (B : Nat)) rfl; have b3_6_2 := B3xxx.cell 2 (v := .int .u16 (T : Nat)) rfl; have b4_6_0 := B4xx.cell 0 (v := .string ⟨#[]⟩) rfl; have b4_6_1 := B4xx.cell 1 (v := .string ⟨#[]⟩) rfl; have b4_6_2 := B4xx.cell 2 (v := .string ⟨#[118]⟩) rfl; have b4_6_3 := B4xx.cell 3 (v := .string ⟨#[72]⟩) rfl) | (go_at_call 8; (fail_if_success (guard_hyp g7)); refine (hp _ hv6).mono ?_; rintro e w7 ⟨rfl, g7⟩; have G7 := gb_trans G6 g7; have hv7 := hvK hv G7; have B3xxxx := B3xxx.kept g7 (by simp); have B4xxx := B4xx.kept g7 (by simp); obtain ⟨W8, hW8, sz8, g8, B8⟩ := boxn w7 #[.int .u8 3, .int .u16 (B : Nat), .int .u16 (T : Nat)] 26; have G8 := gb_trans G7 g8; have hv8 := hvK hv G8; have B3xxxxx := B3xxxx.kept g8 (by simp); have B4xxxx := B4xxx.kept g8 (by simp); clear b3_6_0 b3_6_1 b3_6_2 b4_6_0 b4_6_1 b4_6_2 b4_6_3; have b3_8_0 := B3xxxxx.cell 0 (v := .int .u8 3) rfl; have b3_8_1 := B3xxxxx.cell 1 (v := .int .u16 (B : Nat)) rfl; have b3_8_2 := B3xxxxx.cell 2 (v := .int .u16 (T : Nat)) rfl; have b4_8_0 := B4xxxx.cell 0 (v := .string ⟨#[]⟩) rfl; have b4_8_1 := B4xxxx.cell 1 (v := .string ⟨#[]⟩) rfl; have b4_8_2 := B4xxxx.cell 2 (v := .string ⟨#[118]⟩) rfl; have b4_8_3 := B4xxxx.cell 3 (v := .string ⟨#[72]⟩) rfl; have b8_8_0 := B8.cell 0 (v := .int .u8 3) rfl; have b8_8_1 := B8.cell 1 (v := .int .u16 (B : Nat)) rfl; have b8_8_2 := B8.cell 2 (v := .int .u16 (T : Nat)) rfl) | (go_at_call 8; (fail_if_success (guard_hyp g9)); refine (hq _ hv8).mono ?_; rintro e w9 ⟨rfl, g9⟩; have G9 := gb_trans G8 g9; have hv9 := hvK hv G9; have B3xxxxxx := B3xxxxx.kept g9 (by simp); have B4xxxxx := B4xxxx.kept g9 (by simp); have B8x := B8.kept g9 (by simp); obtain ⟨W10, hW10, sz10, g10, B10⟩ := boxn w9 #[.int .u8 0, .int .u16 0, .int .u16 0] 26; have G10 := gb_trans G9 g10; have hv10 := hvK hv G10; have B3xxxxxxx := B3xxxxxx.kept g10 (by simp); have B4xxxxxx := B4xxxxx.kept g10 (by simp); have B8xx := B8x.kept g10 (by simp); have sm10_0 := Bo.same B10 0 (v := .int .u8 0) rfl; have sm10_1 := Bo.same B10 1 (v := .int .u16 0) rfl; have sm10_2 := Bo.same B10 2 (v := .int .u16 0) rfl; have fz10_0 := B10.frozen 0; have fz10_1 := B10.frozen 1; have fz10_2 := B10.frozen 2; clear b3_8_0 b3_8_1 b3_8_2 b4_8_0 b4_8_1 b4_8_2 b4_8_3 b8_8_0 b8_8_1 b8_8_2; have b3_10_0 := B3xxxxxxx.cell 0 (v := .int .u8 3) rfl; have b3_10_1 := B3xxxxxxx.cell 1 (v := .int .u16 (B : Nat)) rfl; have b3_10_2 := B3xxxxxxx.cell 2 (v := .int .u16 (T : Nat)) rfl; have b4_10_0 := B4xxxxxx.cell 0 (v := .string ⟨#[]⟩) rfl; have b4_10_1 := B4xxxxxx.cell 1 (v := .string ⟨#[]⟩) rfl; have b4_10_2 := B4xxxxxx.cell 2 (v := .string ⟨#[118]⟩) rfl; have b4_10_3 := B4xxxxxx.cell 3 (v := .string ⟨#[72]⟩) rfl; have b8_10_0 := B8xx.cell 0 (v := .int .u8 3) rfl; have b8_10_1 := B8xx.cell 1 (v := .int .u16 (B : Nat)) rfl; have b8_10_2 := B8xx.cell 2 (v := .int .u16 (T : Nat)) rfl; have b10_10_0 := B10.cell 0 (v := .int .u8 0) rfl; have b10_10_1 := B10.cell 1 (v := .int .u16 0) rfl; have b10_10_2 := B10.cell 2 (v := .int .u16 0) rfl))
  all_goals go_ret
  all_goals exact ⟨rfl, G10⟩

theorem addW (a b c : ByteArray) (hc : a ++ b = c) (ha : a.size ≤ 1000) (hb : b.size ≤ 1000) : ∀ w : World, (Op.stringOp .add a b).run Tryd.prog w = .ok (.string c) w := fun w => by
  rw [run_string_add_sum w a b (by omega), hc]
theorem mkz (l : List UInt8) : (⟨l.toArray⟩ : ByteArray).size = l.length := by show l.toArray.size = _; rw [List.size_toArray]

set_option maxHeartbeats 1000000 in
theorem spells1 (x b t q B T : Nat) (hq : q < 18446744073709551616) (hB : B < 2 ^ (Lf.mo 1 + 1)) (hT : T < 2 ^ (Lf.mo 1 + 1)) (hm : ∀ w, Calls Tryd.prog 6 #[.int .u8 x, .int .u16 b, .int .u16 t] w fun e w' => e = .returned (.agg #[.int .u8 1, .int .u16 (B : Nat), .int .u16 (T : Nat)]) ∧ w.grownBy w' none) (w : World) (hv : Hid (Hv w)) : Calls Tryd.prog 3 #[.int .u8 x, .int .u16 b, .int .u16 t, .int .u64 q] w fun e w' => e = .returned (.bool true) ∧ w.grownBy w' none := by
  have hp : 2 ^ (Lf.mo 1 + 1) ≤ 512 := by decide
  have d1 := Lf.shd_is (v := B) q (by omega)
  have d2 := Lf.shd_is (v := T) (q / 7) (by omega)
  have hb := fun w => shuffledC B q (by omega) hq w
  have ht0 := fun w => shuffledC T (q / 7) (by omega) (by omega) w
  have e7 : ((q / 7 : Nat) : Int) = (q : Int) / 7 := by omega
  rw [e7] at ht0
  have hL : Lf.Tail 1 [] := .inl ⟨rfl, rfl⟩
  generalize Lf.shd B q = D at *
  generalize Lf.shd T (q / 7) = S at *
  have zD := mkz D
  have zS := mkz S
  have hTl : ([] : List UInt8).length ≤ 1 := by decide
  have hlen : (Lf.txt 98 83 D S []).length ≤ 1048576 := by
    have h9 := d1.2.2
    have h8 := d2.2.2
    rw [Lf.txt_len]
    omega
  have hp1 := fun w hv => parseC ⟨(Lf.txt 98 83 D S []).toArray⟩ w hv
  rw [Lf.parse_list 98 83 D S [] 1 (by decide) (by decide) hL d1.1 d2.1 (by rw [d1.2.1]; exact hB) (by rw [d2.2.1]; exact hT) hlen, d1.2.1, d2.2.1] at hp1
  have X1 : (⟨#[98]⟩ : ByteArray) ++ ⟨D.toArray⟩ = ⟨([98] ++ D).toArray⟩ := ByteArray.mk_append_mk [98] D
  have X2 : (⟨([98] ++ D).toArray⟩ : ByteArray) ++ ⟨#[47, 83]⟩ = ⟨([98] ++ D ++ [47, 83]).toArray⟩ := ByteArray.mk_append_mk _ [47, 83]
  have X3 : (⟨([98] ++ D ++ [47, 83]).toArray⟩ : ByteArray) ++ ⟨S.toArray⟩ = ⟨([98] ++ D ++ [47, 83] ++ S).toArray⟩ := ByteArray.mk_append_mk _ S
  have X4 : (⟨([98] ++ D ++ [47, 83] ++ S).toArray⟩ : ByteArray) ++ ⟨#[]⟩ = ⟨(Lf.txt 98 83 D S []).toArray⟩ := by
    refine (ByteArray.mk_append_mk _ []).trans ?_
    congr 2
    unfold Lf.txt
    simp
  have y1 := mkz ([98] ++ D)
  have y2 := mkz ([98] ++ D ++ [47, 83])
  have y3 := mkz ([98] ++ D ++ [47, 83] ++ S)
  simp only [List.length_append, List.length_cons, List.length_nil] at y1 y2 y3
  have a1 := addW _ _ _ X1 (by decide) (by omega)
  have a2 := addW _ _ _ X2 (by omega) (by decide)
  have a3 := addW _ _ _ X3 (by omega) (by omega)
  have a4 := addW _ _ _ X4 (by omega) (by decide)
  cases D with
  | nil => exact spells1a x b t q hq B T _ _ _ _ _ _ hm hb ht0 a1 a2 a3 a4 hp1 rfl w hv
  | cons c D' =>
    have hl2 : (66 :: ((c :: D') ++ c :: (47 :: 83 :: (S ++ [])))).length ≤ 1048576 := by
      have h9 := d1.2.2
      have h8 := d2.2.2
      simp only [List.length_append, List.length_cons, List.length_nil] at h9 h8 ⊢
      omega
    have hq1 := fun w hv => parseC ⟨(66 :: ((c :: D') ++ c :: (47 :: 83 :: (S ++ [])))).toArray⟩ w hv
    rw [Lf.parse_twice 66 (c :: D') (47 :: 83 :: (S ++ [])) c (by decide) d1.1 List.mem_cons_self hl2] at hq1
    have Y1 : (⟨#[66]⟩ : ByteArray) ++ ⟨(c :: D').toArray⟩ = ⟨([66] ++ (c :: D')).toArray⟩ := ByteArray.mk_append_mk [66] (c :: D')
    have Y2 : (⟨([66] ++ (c :: D')).toArray⟩ : ByteArray) ++ ⟨[c].toArray⟩ = ⟨([66] ++ (c :: D') ++ [c]).toArray⟩ := ByteArray.mk_append_mk _ [c]
    have Y3 : (⟨([66] ++ (c :: D') ++ [c]).toArray⟩ : ByteArray) ++ ⟨#[47, 83]⟩ = ⟨([66] ++ (c :: D') ++ [c] ++ [47, 83]).toArray⟩ := ByteArray.mk_append_mk _ [47, 83]
    have Y4 : (⟨([66] ++ (c :: D') ++ [c] ++ [47, 83]).toArray⟩ : ByteArray) ++ ⟨S.toArray⟩ = ⟨([66] ++ (c :: D') ++ [c] ++ [47, 83] ++ S).toArray⟩ := ByteArray.mk_append_mk _ S
    have Y5 : (⟨([66] ++ (c :: D') ++ [c] ++ [47, 83] ++ S).toArray⟩ : ByteArray) ++ ⟨#[]⟩ = ⟨(66 :: ((c :: D') ++ c :: (47 :: 83 :: (S ++ [])))).toArray⟩ := by
      refine (ByteArray.mk_append_mk _ []).trans ?_
      congr 2
      simp
    have v1 := mkz ([66] ++ (c :: D'))
    have v2 := mkz ([66] ++ (c :: D') ++ [c])
    have v3 := mkz ([66] ++ (c :: D') ++ [c] ++ [47, 83])
    have v4 := mkz ([66] ++ (c :: D') ++ [c] ++ [47, 83] ++ S)
    have v0 := mkz [c]
    have h9 := d1.2.2
    have h8 := d2.2.2
    simp only [List.length_append, List.length_cons, List.length_nil] at v0 v1 v2 v3 v4 zD h9
    have c1 := addW _ _ _ Y1 (by decide) (by omega)
    have c2 := addW _ _ _ Y2 (by omega) (by omega)
    have c3 := addW _ _ _ Y3 (by omega) (by decide)
    have c4 := addW _ _ _ Y4 (by omega) (by omega)
    have c5 := addW _ _ _ Y5 (by omega) (by decide)
    have hE : (⟨(c :: D').toArray⟩ : ByteArray).extract 0 1 = ⟨[c].toArray⟩ := by
      apply ByteArray.ext
      rw [ByteArray.data_extract]
      simp
    have hsz : (⟨(c :: D').toArray⟩ : ByteArray).size = D'.length + 1 := zD
    have hq2 : ∀ w, Hid (Hv w) → Calls Tryd.prog 8 #[.string ⟨(66 :: ((c :: D') ++ c :: (47 :: 83 :: (S ++ [])))).toArray⟩] w fun e w' => e = .returned (.tuple #[.agg #[.int .u8 0, .int .u16 0, .int .u16 0], .int .i64 (1 + (((⟨(c :: D').toArray⟩ : ByteArray).size : Nat) : Int)), .int .i64 81]) ∧ w.grownBy w' none := fun w hv => by
      have := hq1 w hv
      simp only [List.length_cons] at this
      rw [hsz]
      rw [show (1 + ((D'.length + 1 : Nat) : Int)) = ((1 + (D'.length + 1) : Nat) : Int) by omega]
      exact this
    exact spells1b x b t q hq B T _ _ _ _ _ _ hm hb ht0 a1 a2 a3 a4 hp1 _ _ _ _ _ _ (by rw [hsz]; omega) hE c1 c2 c3 c4 c5 hq2 (by rw [Lib.toList_data]; rfl) (by rw [hsz]; omega) w hv

set_option maxHeartbeats 1000000 in
theorem spells2 (x b t q B T : Nat) (hq : q < 18446744073709551616) (hB : B < 2 ^ (Lf.mo 2 + 1)) (hT : T < 2 ^ (Lf.mo 2 + 1)) (hm : ∀ w, Calls Tryd.prog 6 #[.int .u8 x, .int .u16 b, .int .u16 t] w fun e w' => e = .returned (.agg #[.int .u8 2, .int .u16 (B : Nat), .int .u16 (T : Nat)]) ∧ w.grownBy w' none) (w : World) (hv : Hid (Hv w)) : Calls Tryd.prog 3 #[.int .u8 x, .int .u16 b, .int .u16 t, .int .u64 q] w fun e w' => e = .returned (.bool true) ∧ w.grownBy w' none := by
  have hp : 2 ^ (Lf.mo 2 + 1) ≤ 512 := by decide
  have d1 := Lf.shd_is (v := B) q (by omega)
  have d2 := Lf.shd_is (v := T) (q / 7) (by omega)
  have hb := fun w => shuffledC B q (by omega) hq w
  have ht0 := fun w => shuffledC T (q / 7) (by omega) (by omega) w
  have e7 : ((q / 7 : Nat) : Int) = (q : Int) / 7 := by omega
  rw [e7] at ht0
  have hL : Lf.Tail 2 [118] := .inr (.inl ⟨rfl, 118, rfl, by decide⟩)
  generalize Lf.shd B q = D at *
  generalize Lf.shd T (q / 7) = S at *
  have zD := mkz D
  have zS := mkz S
  have hTl : ([118] : List UInt8).length ≤ 1 := by decide
  have hlen : (Lf.txt 98 83 D S [118]).length ≤ 1048576 := by
    have h9 := d1.2.2
    have h8 := d2.2.2
    rw [Lf.txt_len]
    omega
  have hp1 := fun w hv => parseC ⟨(Lf.txt 98 83 D S [118]).toArray⟩ w hv
  rw [Lf.parse_list 98 83 D S [118] 2 (by decide) (by decide) hL d1.1 d2.1 (by rw [d1.2.1]; exact hB) (by rw [d2.2.1]; exact hT) hlen, d1.2.1, d2.2.1] at hp1
  have X1 : (⟨#[98]⟩ : ByteArray) ++ ⟨D.toArray⟩ = ⟨([98] ++ D).toArray⟩ := ByteArray.mk_append_mk [98] D
  have X2 : (⟨([98] ++ D).toArray⟩ : ByteArray) ++ ⟨#[47, 83]⟩ = ⟨([98] ++ D ++ [47, 83]).toArray⟩ := ByteArray.mk_append_mk _ [47, 83]
  have X3 : (⟨([98] ++ D ++ [47, 83]).toArray⟩ : ByteArray) ++ ⟨S.toArray⟩ = ⟨([98] ++ D ++ [47, 83] ++ S).toArray⟩ := ByteArray.mk_append_mk _ S
  have X4 : (⟨([98] ++ D ++ [47, 83] ++ S).toArray⟩ : ByteArray) ++ ⟨#[118]⟩ = ⟨(Lf.txt 98 83 D S [118]).toArray⟩ := by
    refine (ByteArray.mk_append_mk _ [118]).trans ?_
    congr 2
    unfold Lf.txt
    simp
  have y1 := mkz ([98] ++ D)
  have y2 := mkz ([98] ++ D ++ [47, 83])
  have y3 := mkz ([98] ++ D ++ [47, 83] ++ S)
  simp only [List.length_append, List.length_cons, List.length_nil] at y1 y2 y3
  have a1 := addW _ _ _ X1 (by decide) (by omega)
  have a2 := addW _ _ _ X2 (by omega) (by decide)
  have a3 := addW _ _ _ X3 (by omega) (by omega)
  have a4 := addW _ _ _ X4 (by omega) (by decide)
  cases D with
  | nil => exact spells2a x b t q hq B T _ _ _ _ _ _ hm hb ht0 a1 a2 a3 a4 hp1 rfl w hv
  | cons c D' =>
    have hl2 : (66 :: ((c :: D') ++ c :: (47 :: 83 :: (S ++ [118])))).length ≤ 1048576 := by
      have h9 := d1.2.2
      have h8 := d2.2.2
      simp only [List.length_append, List.length_cons, List.length_nil] at h9 h8 ⊢
      omega
    have hq1 := fun w hv => parseC ⟨(66 :: ((c :: D') ++ c :: (47 :: 83 :: (S ++ [118])))).toArray⟩ w hv
    rw [Lf.parse_twice 66 (c :: D') (47 :: 83 :: (S ++ [118])) c (by decide) d1.1 List.mem_cons_self hl2] at hq1
    have Y1 : (⟨#[66]⟩ : ByteArray) ++ ⟨(c :: D').toArray⟩ = ⟨([66] ++ (c :: D')).toArray⟩ := ByteArray.mk_append_mk [66] (c :: D')
    have Y2 : (⟨([66] ++ (c :: D')).toArray⟩ : ByteArray) ++ ⟨[c].toArray⟩ = ⟨([66] ++ (c :: D') ++ [c]).toArray⟩ := ByteArray.mk_append_mk _ [c]
    have Y3 : (⟨([66] ++ (c :: D') ++ [c]).toArray⟩ : ByteArray) ++ ⟨#[47, 83]⟩ = ⟨([66] ++ (c :: D') ++ [c] ++ [47, 83]).toArray⟩ := ByteArray.mk_append_mk _ [47, 83]
    have Y4 : (⟨([66] ++ (c :: D') ++ [c] ++ [47, 83]).toArray⟩ : ByteArray) ++ ⟨S.toArray⟩ = ⟨([66] ++ (c :: D') ++ [c] ++ [47, 83] ++ S).toArray⟩ := ByteArray.mk_append_mk _ S
    have Y5 : (⟨([66] ++ (c :: D') ++ [c] ++ [47, 83] ++ S).toArray⟩ : ByteArray) ++ ⟨#[118]⟩ = ⟨(66 :: ((c :: D') ++ c :: (47 :: 83 :: (S ++ [118])))).toArray⟩ := by
      refine (ByteArray.mk_append_mk _ [118]).trans ?_
      congr 2
      simp
    have v1 := mkz ([66] ++ (c :: D'))
    have v2 := mkz ([66] ++ (c :: D') ++ [c])
    have v3 := mkz ([66] ++ (c :: D') ++ [c] ++ [47, 83])
    have v4 := mkz ([66] ++ (c :: D') ++ [c] ++ [47, 83] ++ S)
    have v0 := mkz [c]
    have h9 := d1.2.2
    have h8 := d2.2.2
    simp only [List.length_append, List.length_cons, List.length_nil] at v0 v1 v2 v3 v4 zD h9
    have c1 := addW _ _ _ Y1 (by decide) (by omega)
    have c2 := addW _ _ _ Y2 (by omega) (by omega)
    have c3 := addW _ _ _ Y3 (by omega) (by decide)
    have c4 := addW _ _ _ Y4 (by omega) (by omega)
    have c5 := addW _ _ _ Y5 (by omega) (by decide)
    have hE : (⟨(c :: D').toArray⟩ : ByteArray).extract 0 1 = ⟨[c].toArray⟩ := by
      apply ByteArray.ext
      rw [ByteArray.data_extract]
      simp
    have hsz : (⟨(c :: D').toArray⟩ : ByteArray).size = D'.length + 1 := zD
    have hq2 : ∀ w, Hid (Hv w) → Calls Tryd.prog 8 #[.string ⟨(66 :: ((c :: D') ++ c :: (47 :: 83 :: (S ++ [118])))).toArray⟩] w fun e w' => e = .returned (.tuple #[.agg #[.int .u8 0, .int .u16 0, .int .u16 0], .int .i64 (1 + (((⟨(c :: D').toArray⟩ : ByteArray).size : Nat) : Int)), .int .i64 81]) ∧ w.grownBy w' none := fun w hv => by
      have := hq1 w hv
      simp only [List.length_cons] at this
      rw [hsz]
      rw [show (1 + ((D'.length + 1 : Nat) : Int)) = ((1 + (D'.length + 1) : Nat) : Int) by omega]
      exact this
    exact spells2b x b t q hq B T _ _ _ _ _ _ hm hb ht0 a1 a2 a3 a4 hp1 _ _ _ _ _ _ (by rw [hsz]; omega) hE c1 c2 c3 c4 c5 hq2 (by rw [Lib.toList_data]; rfl) (by rw [hsz]; omega) w hv

set_option maxHeartbeats 1000000 in
theorem spells3 (x b t q B T : Nat) (hq : q < 18446744073709551616) (hB : B < 2 ^ (Lf.mo 3 + 1)) (hT : T < 2 ^ (Lf.mo 3 + 1)) (hm : ∀ w, Calls Tryd.prog 6 #[.int .u8 x, .int .u16 b, .int .u16 t] w fun e w' => e = .returned (.agg #[.int .u8 3, .int .u16 (B : Nat), .int .u16 (T : Nat)]) ∧ w.grownBy w' none) (w : World) (hv : Hid (Hv w)) : Calls Tryd.prog 3 #[.int .u8 x, .int .u16 b, .int .u16 t, .int .u64 q] w fun e w' => e = .returned (.bool true) ∧ w.grownBy w' none := by
  have hp : 2 ^ (Lf.mo 3 + 1) ≤ 512 := by decide
  have d1 := Lf.shd_is (v := B) q (by omega)
  have d2 := Lf.shd_is (v := T) (q / 7) (by omega)
  have hb := fun w => shuffledC B q (by omega) hq w
  have ht0 := fun w => shuffledC T (q / 7) (by omega) (by omega) w
  have e7 : ((q / 7 : Nat) : Int) = (q : Int) / 7 := by omega
  rw [e7] at ht0
  have hL : Lf.Tail 3 [72] := .inr (.inr ⟨rfl, 72, rfl, by decide⟩)
  generalize Lf.shd B q = D at *
  generalize Lf.shd T (q / 7) = S at *
  have zD := mkz D
  have zS := mkz S
  have hTl : ([72] : List UInt8).length ≤ 1 := by decide
  have hlen : (Lf.txt 98 83 D S [72]).length ≤ 1048576 := by
    have h9 := d1.2.2
    have h8 := d2.2.2
    rw [Lf.txt_len]
    omega
  have hp1 := fun w hv => parseC ⟨(Lf.txt 98 83 D S [72]).toArray⟩ w hv
  rw [Lf.parse_list 98 83 D S [72] 3 (by decide) (by decide) hL d1.1 d2.1 (by rw [d1.2.1]; exact hB) (by rw [d2.2.1]; exact hT) hlen, d1.2.1, d2.2.1] at hp1
  have X1 : (⟨#[98]⟩ : ByteArray) ++ ⟨D.toArray⟩ = ⟨([98] ++ D).toArray⟩ := ByteArray.mk_append_mk [98] D
  have X2 : (⟨([98] ++ D).toArray⟩ : ByteArray) ++ ⟨#[47, 83]⟩ = ⟨([98] ++ D ++ [47, 83]).toArray⟩ := ByteArray.mk_append_mk _ [47, 83]
  have X3 : (⟨([98] ++ D ++ [47, 83]).toArray⟩ : ByteArray) ++ ⟨S.toArray⟩ = ⟨([98] ++ D ++ [47, 83] ++ S).toArray⟩ := ByteArray.mk_append_mk _ S
  have X4 : (⟨([98] ++ D ++ [47, 83] ++ S).toArray⟩ : ByteArray) ++ ⟨#[72]⟩ = ⟨(Lf.txt 98 83 D S [72]).toArray⟩ := by
    refine (ByteArray.mk_append_mk _ [72]).trans ?_
    congr 2
    unfold Lf.txt
    simp
  have y1 := mkz ([98] ++ D)
  have y2 := mkz ([98] ++ D ++ [47, 83])
  have y3 := mkz ([98] ++ D ++ [47, 83] ++ S)
  simp only [List.length_append, List.length_cons, List.length_nil] at y1 y2 y3
  have a1 := addW _ _ _ X1 (by decide) (by omega)
  have a2 := addW _ _ _ X2 (by omega) (by decide)
  have a3 := addW _ _ _ X3 (by omega) (by omega)
  have a4 := addW _ _ _ X4 (by omega) (by decide)
  cases D with
  | nil => exact spells3a x b t q hq B T _ _ _ _ _ _ hm hb ht0 a1 a2 a3 a4 hp1 rfl w hv
  | cons c D' =>
    have hl2 : (66 :: ((c :: D') ++ c :: (47 :: 83 :: (S ++ [72])))).length ≤ 1048576 := by
      have h9 := d1.2.2
      have h8 := d2.2.2
      simp only [List.length_append, List.length_cons, List.length_nil] at h9 h8 ⊢
      omega
    have hq1 := fun w hv => parseC ⟨(66 :: ((c :: D') ++ c :: (47 :: 83 :: (S ++ [72])))).toArray⟩ w hv
    rw [Lf.parse_twice 66 (c :: D') (47 :: 83 :: (S ++ [72])) c (by decide) d1.1 List.mem_cons_self hl2] at hq1
    have Y1 : (⟨#[66]⟩ : ByteArray) ++ ⟨(c :: D').toArray⟩ = ⟨([66] ++ (c :: D')).toArray⟩ := ByteArray.mk_append_mk [66] (c :: D')
    have Y2 : (⟨([66] ++ (c :: D')).toArray⟩ : ByteArray) ++ ⟨[c].toArray⟩ = ⟨([66] ++ (c :: D') ++ [c]).toArray⟩ := ByteArray.mk_append_mk _ [c]
    have Y3 : (⟨([66] ++ (c :: D') ++ [c]).toArray⟩ : ByteArray) ++ ⟨#[47, 83]⟩ = ⟨([66] ++ (c :: D') ++ [c] ++ [47, 83]).toArray⟩ := ByteArray.mk_append_mk _ [47, 83]
    have Y4 : (⟨([66] ++ (c :: D') ++ [c] ++ [47, 83]).toArray⟩ : ByteArray) ++ ⟨S.toArray⟩ = ⟨([66] ++ (c :: D') ++ [c] ++ [47, 83] ++ S).toArray⟩ := ByteArray.mk_append_mk _ S
    have Y5 : (⟨([66] ++ (c :: D') ++ [c] ++ [47, 83] ++ S).toArray⟩ : ByteArray) ++ ⟨#[72]⟩ = ⟨(66 :: ((c :: D') ++ c :: (47 :: 83 :: (S ++ [72])))).toArray⟩ := by
      refine (ByteArray.mk_append_mk _ [72]).trans ?_
      congr 2
      simp
    have v1 := mkz ([66] ++ (c :: D'))
    have v2 := mkz ([66] ++ (c :: D') ++ [c])
    have v3 := mkz ([66] ++ (c :: D') ++ [c] ++ [47, 83])
    have v4 := mkz ([66] ++ (c :: D') ++ [c] ++ [47, 83] ++ S)
    have v0 := mkz [c]
    have h9 := d1.2.2
    have h8 := d2.2.2
    simp only [List.length_append, List.length_cons, List.length_nil] at v0 v1 v2 v3 v4 zD h9
    have c1 := addW _ _ _ Y1 (by decide) (by omega)
    have c2 := addW _ _ _ Y2 (by omega) (by omega)
    have c3 := addW _ _ _ Y3 (by omega) (by decide)
    have c4 := addW _ _ _ Y4 (by omega) (by omega)
    have c5 := addW _ _ _ Y5 (by omega) (by decide)
    have hE : (⟨(c :: D').toArray⟩ : ByteArray).extract 0 1 = ⟨[c].toArray⟩ := by
      apply ByteArray.ext
      rw [ByteArray.data_extract]
      simp
    have hsz : (⟨(c :: D').toArray⟩ : ByteArray).size = D'.length + 1 := zD
    have hq2 : ∀ w, Hid (Hv w) → Calls Tryd.prog 8 #[.string ⟨(66 :: ((c :: D') ++ c :: (47 :: 83 :: (S ++ [72])))).toArray⟩] w fun e w' => e = .returned (.tuple #[.agg #[.int .u8 0, .int .u16 0, .int .u16 0], .int .i64 (1 + (((⟨(c :: D').toArray⟩ : ByteArray).size : Nat) : Int)), .int .i64 81]) ∧ w.grownBy w' none := fun w hv => by
      have := hq1 w hv
      simp only [List.length_cons] at this
      rw [hsz]
      rw [show (1 + ((D'.length + 1 : Nat) : Int)) = ((1 + (D'.length + 1) : Nat) : Int) by omega]
      exact this
    exact spells3b x b t q hq B T _ _ _ _ _ _ hm hb ht0 a1 a2 a3 a4 hp1 _ _ _ _ _ _ (by rw [hsz]; omega) hE c1 c2 c3 c4 c5 hq2 (by rw [Lib.toList_data]; rfl) (by rw [hsz]; omega) w hv

theorem spells_walk (x b t q : Int) (w : World) (h1 : 0 ≤ x) (h1' : x ≤ 255) (h2 : 0 ≤ b) (h2' : b ≤ 65535) (h3 : 0 ≤ t) (h3' : t ≤ 65535) (h4 : 0 ≤ q) (h4' : q ≤ 18446744073709551615) (hv : Hv w) : Calls Tryd.prog 3 #[.int .u8 x, .int .u16 b, .int .u16 t, .int .u64 q] w fun e w' => e = .returned (.bool true) ∧ Below w.heap.size w w' := by
  obtain ⟨x, rfl⟩ := Int.eq_ofNat_of_zero_le h1
  obtain ⟨b, rfl⟩ := Int.eq_ofNat_of_zero_le h2
  obtain ⟨t, rfl⟩ := Int.eq_ofNat_of_zero_le h3
  obtain ⟨q, rfl⟩ := Int.eq_ofNat_of_zero_le h4
  refine Calls.mono (R := fun e w' => e = .returned (.bool true) ∧ w.grownBy w' none) ?_ (fun e w' h => ⟨h.1, gb_below h.2⟩)
  have hm := fun w => madeC x b t (by omega) (by omega) w
  have i1 := Lf.mdB_lt x b
  have i2 := Lf.mdB_lt x t
  have m1 := Lf.mdH_in x
  revert hm i1 i2 m1
  generalize Lf.mdH x = H
  generalize Lf.mdB x b = B
  generalize Lf.mdB x t = T
  intro hm i1 i2 m1
  obtain rfl | rfl | rfl : H = 1 ∨ H = 2 ∨ H = 3 := by omega
  · exact spells1 x b t q B T (by omega) i1 i2 hm w hv
  · exact spells2 x b t q B T (by omega) i1 i2 hm w hv
  · exact spells3 x b t q B T (by omega) i1 i2 hm w hv
end Go.Proofs.YtnedofaobhmloabDoor
