/- The walk of LifePrints. -/
import Derived.Test.YtnedofaobhmloaaDoorL15
namespace Go.Proofs.YtnedofaobhmloaaDoor
open Go.RowKit
set_option linter.unusedVariables false
set_option linter.unusedSimpArgs false
set_option maxRecDepth 100000

theorem Lf.nm_ex (c : Nat) {m : Nat} (hm : m ≤ 8) : Lf.nm (tq c m (m + 1)) 10 = Lf.ex c m := by
  apply Nat.eq_of_testBit_eq
  intro j
  rw [Lf.nm_bit, Lf.ex_bit c hm]
  unfold tq
  by_cases h : j ≤ m
  · have h2 : j < 10 := by omega
    have h3 : j < m + 1 := by omega
    simp [h, h2, h3]
  · have h3 : ¬ j < m + 1 := by omega
    simp [h, h3]
theorem turnedD (ho bo st : Nat) (hh : ho < 256) (hb : bo < 65536) (hs : st < 65536) (w : World) : Calls Tryd.prog 15 #[.agg #[.int .u8 ho, .int .u16 bo, .int .u16 st]] w fun e w' => e = .returned (.tuple #[.agg #[.int .u8 ((Lf.tuH ho bo st : Nat) : Int), .int .u16 ((Lf.tuB ho bo st : Nat) : Int), .int .u16 ((Lf.tuS ho bo st : Nat) : Int)], .int .i64 (Lf.ck ho bo st : Nat)]) ∧ w.grownBy w' none := by
  unfold Lf.tuH Lf.tuB Lf.tuS
  by_cases hc : Lf.ck ho bo st = 0
  · rw [if_pos hc, if_pos hc, if_pos hc, hc, ← Lf.nm_ex st (Lf.mo_le ho), ← Lf.nm_ex bo (Lf.mo_le ho)]
    exact turnedDfine ho bo st hh hb hs w hc
  · rw [if_neg hc, if_neg hc, if_neg hc]
    exact turnedDbad ho bo st hh hb hs w (by omega)
set_option maxHeartbeats 2000000 in
theorem prints_nat (ho bo st : Nat) (hh : ho < 256) (hb : bo < 65536) (hs : st < 65536) (w : World) (hv : Hid (Hv w)) : Calls Tryd.prog 5 #[.agg #[.int .u8 ho, .int .u16 bo, .int .u16 st]] w fun e w' => e = .returned (.bool true) ∧ w.grownBy w' none := by
  have hp := fun w hv => printC ho bo st hh hb hs w hv
  have hq := fun w => printD ho bo st hh hb hs w
  have ht := fun w hv => turnedC ho bo st hh hb hs w hv
  have hu := fun w => turnedD ho bo st hh hb hs w
  have hk := fun w hv => checkC ho bo st hh hb hs w hv
  have hl := fun w => checkD ho bo st hh hb hs w
  generalize Lf.pr ho bo st = X at hp hq
  generalize Lf.tuH ho bo st = H at ht hu
  generalize Lf.tuB ho bo st = B at ht hu
  generalize Lf.tuS ho bo st = T at ht hu
  generalize Lf.ck ho bo st = E at hp hq ht hu hk hl
  obtain ⟨W1, hW1, sz1, g1, B1⟩ := boxn w #[.int .u8 ho, .int .u16 bo, .int .u16 st] 26
  have hv1 := hvK hv g1
  have b1_1_0 := B1.cell 0 (v := .int .u8 ho) rfl
  have b1_1_1 := B1.cell 1 (v := .int .u16 bo) rfl
  have b1_1_2 := B1.cell 2 (v := .int .u16 st) rfl
  go_enter Tryd.func5, Tryd.ntmps5
  go_wp2_with (first | (go_at_call 9; (fail_if_success (guard_hyp g2)); refine (aliveC _ hv1).mono ?_; rintro e w2 ⟨rfl, g2⟩; have G2 := gb_trans g1 g2; have hv2 := hvK hv G2; have B1x := B1.kept g2 (by simp); clear b1_1_0 b1_1_1 b1_1_2; have b1_2_0 := B1x.cell 0 (v := .int .u8 ho) rfl; have b1_2_1 := B1x.cell 1 (v := .int .u16 bo) rfl; have b1_2_2 := B1x.cell 2 (v := .int .u16 st) rfl) | (go_at_call 12; (fail_if_success (guard_hyp g3)); refine (hp _ hv2).mono ?_; rintro e w3 ⟨rfl, g3⟩; have G3 := gb_trans G2 g3; have hv3 := hvK hv G3; have B1xx := B1x.kept g3 (by simp); clear b1_2_0 b1_2_1 b1_2_2; have b1_3_0 := B1xx.cell 0 (v := .int .u8 ho) rfl; have b1_3_1 := B1xx.cell 1 (v := .int .u16 bo) rfl; have b1_3_2 := B1xx.cell 2 (v := .int .u16 st) rfl) | (go_at_call 13; (fail_if_success (guard_hyp g4)); refine (hq _).mono ?_; rintro e w4 ⟨rfl, g4⟩; have G4 := gb_trans G3 g4; have hv4 := hvK hv G4; have B1xxx := B1xx.kept g4 (by simp); clear b1_3_0 b1_3_1 b1_3_2; have b1_4_0 := B1xxx.cell 0 (v := .int .u8 ho) rfl; have b1_4_1 := B1xxx.cell 1 (v := .int .u16 bo) rfl; have b1_4_2 := B1xxx.cell 2 (v := .int .u16 st) rfl) | (go_at_call 14; (fail_if_success (guard_hyp g5)); refine (ht _ hv4).mono ?_; rintro e w5 ⟨rfl, g5⟩; have G5 := gb_trans G4 g5; have hv5 := hvK hv G5; have B1xxxx := B1xxx.kept g5 (by simp); obtain ⟨W6, hW6, sz6, g6, B6⟩ := boxn w5 #[.int .u8 (H : Nat), .int .u16 (B : Nat), .int .u16 (T : Nat)] 26; have G6 := gb_trans G5 g6; have hv6 := hvK hv G6; have B1xxxxx := B1xxxx.kept g6 (by simp); clear b1_4_0 b1_4_1 b1_4_2; have b1_6_0 := B1xxxxx.cell 0 (v := .int .u8 ho) rfl; have b1_6_1 := B1xxxxx.cell 1 (v := .int .u16 bo) rfl; have b1_6_2 := B1xxxxx.cell 2 (v := .int .u16 st) rfl; have b6_6_0 := B6.cell 0 (v := .int .u8 (H : Nat)) rfl; have b6_6_1 := B6.cell 1 (v := .int .u16 (B : Nat)) rfl; have b6_6_2 := B6.cell 2 (v := .int .u16 (T : Nat)) rfl) | (go_at_call 15; (fail_if_success (guard_hyp g7)); refine (hu _).mono ?_; rintro e w7 ⟨rfl, g7⟩; have G7 := gb_trans G6 g7; have hv7 := hvK hv G7; have B1xxxxxx := B1xxxxx.kept g7 (by simp); have B6x := B6.kept g7 (by simp); obtain ⟨W8, hW8, sz8, g8, B8⟩ := boxn w7 #[.int .u8 (H : Nat), .int .u16 (B : Nat), .int .u16 (T : Nat)] 26; have G8 := gb_trans G7 g8; have hv8 := hvK hv G8; have B1xxxxxxx := B1xxxxxx.kept g8 (by simp); have B6xx := B6x.kept g8 (by simp); clear b1_6_0 b1_6_1 b1_6_2 b6_6_0 b6_6_1 b6_6_2; have b1_8_0 := B1xxxxxxx.cell 0 (v := .int .u8 ho) rfl; have b1_8_1 := B1xxxxxxx.cell 1 (v := .int .u16 bo) rfl; have b1_8_2 := B1xxxxxxx.cell 2 (v := .int .u16 st) rfl; have b6_8_0 := B6xx.cell 0 (v := .int .u8 (H : Nat)) rfl; have b6_8_1 := B6xx.cell 1 (v := .int .u16 (B : Nat)) rfl; have b6_8_2 := B6xx.cell 2 (v := .int .u16 (T : Nat)) rfl; have b8_8_0 := B8.cell 0 (v := .int .u8 (H : Nat)) rfl; have b8_8_1 := B8.cell 1 (v := .int .u16 (B : Nat)) rfl; have b8_8_2 := B8.cell 2 (v := .int .u16 (T : Nat)) rfl))
  go_region_held2 (fun w' => w'.cell? ⟨w.heap.size, 0, none⟩ = some (.int .u8 ho) ∧ w'.cell? ⟨w.heap.size, 1, none⟩ = some (.int .u16 bo) ∧ w'.cell? ⟨w.heap.size, 2, none⟩ = some (.int .u16 st) ∧ w'.cell? ⟨w5.heap.size, 0, none⟩ = some (.int .u8 (H : Nat)) ∧ w'.cell? ⟨w5.heap.size, 1, none⟩ = some (.int .u16 (B : Nat)) ∧ w'.cell? ⟨w5.heap.size, 2, none⟩ = some (.int .u16 (T : Nat)) ∧ w'.cell? ⟨w7.heap.size, 0, none⟩ = some (.int .u8 (H : Nat)) ∧ w'.cell? ⟨w7.heap.size, 1, none⟩ = some (.int .u16 (B : Nat)) ∧ w'.cell? ⟨w7.heap.size, 2, none⟩ = some (.int .u16 (T : Nat))) (go_keep) (first | (go_at_call 16; (fail_if_success (guard_hyp g9)); refine (hk _ (hvK hv (gb_drew G8))).mono ?_; rintro e w9 ⟨rfl, g9⟩; have G9 := gb_trans (gb_drew G8) g9; have B1xxxxxxxr := B1xxxxxxx.dr.kept g9 (by simp); have B6xxr := B6xx.dr.kept g9 (by simp); have B8r := B8.dr.kept g9 (by simp); have b1_9_0 := B1xxxxxxxr.cell 0 (v := .int .u8 ho) rfl; have b1_9_1 := B1xxxxxxxr.cell 1 (v := .int .u16 bo) rfl; have b1_9_2 := B1xxxxxxxr.cell 2 (v := .int .u16 st) rfl; have b6_9_0 := B6xxr.cell 0 (v := .int .u8 (H : Nat)) rfl; have b6_9_1 := B6xxr.cell 1 (v := .int .u16 (B : Nat)) rfl; have b6_9_2 := B6xxr.cell 2 (v := .int .u16 (T : Nat)) rfl; have b8_9_0 := B8r.cell 0 (v := .int .u8 (H : Nat)) rfl; have b8_9_1 := B8r.cell 1 (v := .int .u16 (B : Nat)) rfl; have b8_9_2 := B8r.cell 2 (v := .int .u16 (T : Nat)) rfl) | (go_at_call 17; (fail_if_success (guard_hyp g10)); refine (hl _).mono ?_; rintro e w10 ⟨rfl, g10⟩; have G10 := gb_trans G9 g10; have B1xxxxxxxrr := B1xxxxxxxr.kept g10 (by simp); have B6xxrr := B6xxr.kept g10 (by simp); have B8rr := B8r.kept g10 (by simp); have b1_10_0 := B1xxxxxxxrr.cell 0 (v := .int .u8 ho) rfl; have b1_10_1 := B1xxxxxxxrr.cell 1 (v := .int .u16 bo) rfl; have b1_10_2 := B1xxxxxxxrr.cell 2 (v := .int .u16 st) rfl; have b6_10_0 := B6xxrr.cell 0 (v := .int .u8 (H : Nat)) rfl; have b6_10_1 := B6xxrr.cell 1 (v := .int .u16 (B : Nat)) rfl; have b6_10_2 := B6xxrr.cell 2 (v := .int .u16 (T : Nat)) rfl; have b8_10_0 := B8rr.cell 0 (v := .int .u8 (H : Nat)) rfl; have b8_10_1 := B8rr.cell 1 (v := .int .u16 (B : Nat)) rfl; have b8_10_2 := B8rr.cell 2 (v := .int .u16 (T : Nat)) rfl))
  all_goals go_wp2
  all_goals go_ret
  all_goals exact ⟨rfl, G10⟩
theorem prints_walk (ho bo st : Int) (w : World) (h1 : 0 ≤ ho ∧ ho ≤ 255) (h2 : 0 ≤ bo ∧ bo ≤ 65535) (h3 : 0 ≤ st ∧ st ≤ 65535) (hv : Hv w) : Calls Tryd.prog 5 #[.agg #[.int .u8 ho, .int .u16 bo, .int .u16 st]] w fun e w' => e = .returned (.bool true) ∧ Below w.heap.size w w' := by
  obtain ⟨ho, rfl⟩ := Int.eq_ofNat_of_zero_le h1.1
  obtain ⟨bo, rfl⟩ := Int.eq_ofNat_of_zero_le h2.1
  obtain ⟨st, rfl⟩ := Int.eq_ofNat_of_zero_le h3.1
  exact (prints_nat ho bo st (by omega) (by omega) (by omega) w hv).mono fun e w' ⟨a, b⟩ => ⟨a, gb_below b⟩
end Go.Proofs.YtnedofaobhmloaaDoor
