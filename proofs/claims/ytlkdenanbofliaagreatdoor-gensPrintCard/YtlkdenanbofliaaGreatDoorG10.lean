/- What tens and Print of the document answer; the walk of GensPrint. -/
import Derived.Test.YtlkdenanbofliaaGreatDoorG9
import Derived.Test.YtlkdenanbofliaaGreatDoorL14
namespace Go.Proofs.YtlkdenanbofliaaGreatDoor
open Go.RowKit
set_option linter.unusedVariables false
set_option linter.unusedSimpArgs false
set_option maxRecDepth 100000

namespace Gn
def dd (m : Nat) : List UInt8 := if m = 0 then [] else Lib.decDigits m
theorem dd_step {m : Nat} (h : 0 < m) : dd m = dd (m / 10) ++ [UInt8.ofNat (48 + m % 10)] := by
  unfold dd
  rw [if_neg (by omega)]
  by_cases h1 : m < 10
  · rw [if_pos (by omega), Lib.decDigits_one h1, show m % 10 = m by omega]; rfl
  · rw [if_neg (by omega)]
    conv => lhs; rw [Lib.decDigits, dif_neg h1]
end Gn
set_option maxHeartbeats 1000000 in
theorem tensC (n : Nat) (h0 : 0 < n) (hn : n ≤ 256) (w : World) : Calls Tryz.prog 30 #[.int .i64 n] w fun e w' => e = .returned (.string (Gn.tn n)) ∧ w.grownBy w' none := by
  have hI : Hid (Lib.itoa (n : Int) = Gn.dd n) := by
    unfold Hid Lib.itoa Gn.dd
    rw [if_neg (by omega), if_neg (by omega), Int.toNat_natCast]
  have hlen : (Gn.dd n).length ≤ 21 := by
    have := Lib.itoa_length_le (n : Int) (by omega) (by omega)
    rw [hI.out] at this
    exact this
  go_enter Tryz.func30, Tryz.ntmps30
  go_wp2
  go_loopw [0, 3] (fun vn vs wr => ∃ (m : Nat) (t : List UInt8), m ≤ 256 ∧ vn = .int .i64 m ∧ vs = .string ⟨t.toArray⟩ ∧ w.grownBy wr none ∧ Hid (Gn.dd n = Gn.dd m ++ t)) (fun vn _ _ => (intOf vn).toNat)
  case atStart => exact ⟨n, [], hn, rfl, rfl, World.grownBy.refl _ _, by unfold Hid; simp⟩
  case round =>
    obtain ⟨m, t, hm, rfl, rfl, hG, hT⟩ := hrel
    by_cases h1 : 0 < m
    · have hlt' : (0 : Int) < (m : Int) := by omega
      have hst : Hid (Gn.dd n = Gn.dd (m / 10) ++ (UInt8.ofNat (48 + m % 10) :: t)) := by
        unfold Hid
        rw [hT.out, Gn.dd_step h1, List.append_assoc]; rfl
      have htl : t.length ≤ 21 := by
        have := congrArg List.length hT.out
        rw [List.length_append] at this
        omega
      have w1 : IntKind.u8.wrap (48 + (m : Int) % 10) = 48 + (m : Int) % 10 := by rw [IntKind.wrap_u8]; omega
      have hq : IntKind.i64.wrap ((m : Int) / 10) = ((m / 10 : Nat) : Int) := by rw [IntKind.wrap_i64]; omega
      have hY : (⟨#[UInt8.ofNat (48 + (m : Int) % 10).toNat]⟩ : ByteArray) = ⟨#[UInt8.ofNat (48 + m % 10)]⟩ := by
        rw [show (48 + (m : Int) % 10).toNat = 48 + m % 10 by omega]
      have a1 : ∀ w : World, (Op.stringOp .add ⟨#[UInt8.ofNat (48 + m % 10)]⟩ ⟨t.toArray⟩).run Tryz.prog w = .ok (.string ⟨(UInt8.ofNat (48 + m % 10) :: t).toArray⟩) w := fun w => by
        have := run_string_add_sum (P := Tryz.prog) w (⟨#[UInt8.ofNat (48 + m % 10)]⟩ : ByteArray) ⟨t.toArray⟩ (by show 1 + t.toArray.size ≤ _; rw [List.size_toArray]; omega)
        rw [this]
        congr 2
      obtain ⟨W3, hW3, sz3, g3, B3⟩ := boxn wr #[.int .u8 (48 + (m : Int) % 10)] 5
      have HC : (convert 86 9 (.slice (some ⟨wr.heap.size, 0, none⟩) 1 1)).run Tryz.prog W3 = .ok (.string ⟨#[UInt8.ofNat (48 + m % 10)]⟩) W3 := by rw [← hW3, ← hY]; exact conv1 wr _
      have G3 := gb_trans hG g3
      generalize hX : (⟨(UInt8.ofNat (48 + m % 10) :: t).toArray⟩ : ByteArray) = X at a1
      generalize hY : (⟨#[UInt8.ofNat (48 + m % 10)]⟩ : ByteArray) = Y at a1 HC
      clear hT B3 htl
      go_wp2
      exact ⟨⟨m / 10, UInt8.ofNat (48 + m % 10) :: t, by omega, by simp, by rw [hX], G3, hst⟩, by simp [intOf]; omega⟩
    · obtain rfl : m = 0 := by omega
      have HT : Hid (Gn.tn n = ⟨t.toArray⟩) := by
        unfold Hid Gn.tn
        rw [hI.out, hT.out]; rfl
      clear hT
      go_wp2
      go_ret
      exact ⟨by rw [HT.out]; rfl, hG⟩
set_option maxHeartbeats 1000000 in
theorem gprintDbad (ho bo st : Nat) (n : Int) (hh : ho < 256) (hb : bo < 65536) (hs : st < 65536) (w : World) (hc : ¬ ((Gn.ck ho bo st n : Nat) : Int) = 0) : Calls Tryz.prog 12 #[.agg #[.int .u8 ho, .int .u16 bo, .int .u16 st, .int .i64 n]] w fun e w' => e = .returned (.tuple #[.string ⟨#[]⟩, .int .i64 (Gn.ck ho bo st n : Nat)]) ∧ w.grownBy w' none := by
  have hk := fun w => gcheckD ho bo st n hh hb hs w
  generalize Gn.ck ho bo st n = q at hk hc ⊢
  obtain ⟨W1, hW1, sz1, g1, B1⟩ := boxn w #[.int .u8 ho, .int .u16 bo, .int .u16 st, .int .i64 n] 27
  have b1_1_0 := B1.cell 0 (v := .int .u8 ho) rfl
  have b1_1_1 := B1.cell 1 (v := .int .u16 bo) rfl
  have b1_1_2 := B1.cell 2 (v := .int .u16 st) rfl
  have b1_1_3 := B1.cell 3 (v := .int .i64 n) rfl
  go_enter Tryz.func12, Tryz.ntmps12
  go_wp2_with (first | (go_at_call 14; (fail_if_success (guard_hyp g2)); refine (hk _).mono ?_; rintro e w2 ⟨rfl, g2⟩; have G2 := gb_trans g1 g2; have B1x := B1.kept g2 (by simp); clear b1_1_0 b1_1_1 b1_1_2 b1_1_3; have b1_2_0 := B1x.cell 0 (v := .int .u8 ho) rfl; have b1_2_1 := B1x.cell 1 (v := .int .u16 bo) rfl; have b1_2_2 := B1x.cell 2 (v := .int .u16 st) rfl; have b1_2_3 := B1x.cell 3 (v := .int .i64 n) rfl))
  go_ret2
  exact ⟨rfl, G2⟩
set_option maxHeartbeats 1000000 in
theorem gprintDfine (ho bo st : Nat) (n : Int) (hh : ho < 256) (hb : bo < 65536) (hs : st < 65536) (w : World) (hc : Gn.ck ho bo st n = 0) : Calls Tryz.prog 12 #[.agg #[.int .u8 ho, .int .u16 bo, .int .u16 st, .int .i64 n]] w fun e w' => e = .returned (.tuple #[.string (Lf.pr ho bo st ++ (⟨#[47, 67]⟩ : ByteArray) ++ Gn.tn n), .int .i64 0]) ∧ w.grownBy w' none := by
  have hk := fun w => gcheckD ho bo st n hh hb hs w
  have hp := fun w => printD ho bo st hh hb hs w
  have hn := Gn.ck_in hc
  have z2 := Gn.tn_size (n := n) (by omega) (by omega)
  obtain ⟨n, rfl⟩ := Int.eq_ofNat_of_zero_le (a := n) (by omega)
  have hi := fun w => tensC n (by omega) (by omega) w
  rw [hc] at hk
  rw [hn.1] at hp
  have z1 := Lf.pr_le ho bo st
  generalize Lf.pr ho bo st = x at hp z1 ⊢
  generalize Gn.tn n = y at hi z2 ⊢
  have y1 : (x ++ (⟨#[47, 67]⟩ : ByteArray)).size ≤ 26 := by rw [ByteArray.size_append]; show _ + 2 ≤ _; omega
  have a1 : ∀ w : World, (Op.stringOp .add x ⟨#[47, 67]⟩).run Tryz.prog w = .ok (.string (x ++ (⟨#[47, 67]⟩ : ByteArray))) w := fun w => run_string_add_sum w _ _ (by show _ + 2 ≤ _; omega)
  generalize x ++ (⟨#[47, 67]⟩ : ByteArray) = z at a1 y1 ⊢
  have a2 : ∀ w : World, (Op.stringOp .add z y).run Tryz.prog w = .ok (.string (z ++ y)) w := fun w => run_string_add_sum w _ _ (by omega)
  generalize z ++ y = v at a2 ⊢
  clear y1 z1 z2 hc hn
  obtain ⟨W1, hW1, sz1, g1, B1⟩ := boxn w #[.int .u8 ho, .int .u16 bo, .int .u16 st, .int .i64 n] 27
  have b1_1_0 := B1.cell 0 (v := .int .u8 ho) rfl
  have b1_1_1 := B1.cell 1 (v := .int .u16 bo) rfl
  have b1_1_2 := B1.cell 2 (v := .int .u16 st) rfl
  have b1_1_3 := B1.cell 3 (v := .int .i64 n) rfl
  go_enter Tryz.func12, Tryz.ntmps12
  go_wp2_with (first | (go_at_call 14; (fail_if_success (guard_hyp g2)); refine (hk _).mono ?_; rintro e w2 ⟨rfl, g2⟩; have G2 := gb_trans g1 g2; have B1x := B1.kept g2 (by simp); clear b1_1_0 b1_1_1 b1_1_2 b1_1_3; have b1_2_0 := B1x.cell 0 (v := .int .u8 ho) rfl; have b1_2_1 := B1x.cell 1 (v := .int .u16 bo) rfl; have b1_2_2 := B1x.cell 2 (v := .int .u16 st) rfl; have b1_2_3 := B1x.cell 3 (v := .int .i64 n) rfl) | (go_at_call 29; (fail_if_success (guard_hyp g3)); refine (hp _).mono ?_; rintro e w3 ⟨rfl, g3⟩; have G3 := gb_trans G2 g3; have B1xx := B1x.kept g3 (by simp); clear b1_2_0 b1_2_1 b1_2_2 b1_2_3; have b1_3_0 := B1xx.cell 0 (v := .int .u8 ho) rfl; have b1_3_1 := B1xx.cell 1 (v := .int .u16 bo) rfl; have b1_3_2 := B1xx.cell 2 (v := .int .u16 st) rfl; have b1_3_3 := B1xx.cell 3 (v := .int .i64 n) rfl) | (go_at_call 30; (fail_if_success (guard_hyp g4)); refine (hi _).mono ?_; rintro e w4 ⟨rfl, g4⟩; have G4 := gb_trans G3 g4; have B1xxx := B1xx.kept g4 (by simp); clear b1_3_0 b1_3_1 b1_3_2 b1_3_3; have b1_4_0 := B1xxx.cell 0 (v := .int .u8 ho) rfl; have b1_4_1 := B1xxx.cell 1 (v := .int .u16 bo) rfl; have b1_4_2 := B1xxx.cell 2 (v := .int .u16 st) rfl; have b1_4_3 := B1xxx.cell 3 (v := .int .i64 n) rfl))
  go_ret2
  exact ⟨rfl, G4⟩
theorem gprintD (ho bo st : Nat) (n : Int) (hh : ho < 256) (hb : bo < 65536) (hs : st < 65536) (w : World) : Calls Tryz.prog 12 #[.agg #[.int .u8 ho, .int .u16 bo, .int .u16 st, .int .i64 n]] w fun e w' => e = .returned (.tuple #[.string (Gn.pr ho bo st n), .int .i64 (Gn.ck ho bo st n : Nat)]) ∧ w.grownBy w' none := by
  unfold Gn.pr
  by_cases hc : Gn.ck ho bo st n = 0
  · rw [if_pos hc, hc]
    exact gprintDfine ho bo st n hh hb hs w hc
  · rw [if_neg hc]
    exact gprintDbad ho bo st n hh hb hs w (by omega)

set_option maxHeartbeats 2000000 in
theorem print_nat (ho bo st : Nat) (n : Int) (hh : ho < 256) (hb : bo < 65536) (hs : st < 65536) (w : World) (en : Hid (En w)) : Calls Tryz.prog 4 #[.agg #[.int .u8 ho, .int .u16 bo, .int .u16 st, .int .i64 n]] w fun e w' => e = .returned (.bool true) ∧ w.grownBy w' none := by
  have hv := enH en
  have hp := fun w en => gprintC ho bo st n hh hb hs w en
  have hq := fun w => gprintD ho bo st n hh hb hs w
  have hk := fun w hv => gcheckC ho bo st n hh hb hs w hv
  have hl := fun w => gcheckD ho bo st n hh hb hs w
  generalize Gn.pr ho bo st n = X at hp hq
  generalize Gn.ck ho bo st n = E at hp hq hk hl
  obtain ⟨W1, hW1, sz1, g1, B1⟩ := boxn w #[.int .u8 ho, .int .u16 bo, .int .u16 st, .int .i64 n] 27
  have hv1 := hvK hv g1
  have b1_1_0 := B1.cell 0 (v := .int .u8 ho) rfl
  have b1_1_1 := B1.cell 1 (v := .int .u16 bo) rfl
  have b1_1_2 := B1.cell 2 (v := .int .u16 st) rfl
  have b1_1_3 := B1.cell 3 (v := .int .i64 n) rfl
  go_enter Tryz.func4, Tryz.ntmps4
  go_wp2_with (first | (go_at_call 8; (fail_if_success (guard_hyp g2)); refine (awakeC _ (enK en g1)).mono ?_; rintro e w2 ⟨rfl, g2⟩; have G2 := gb_trans g1 g2; have hv2 := hvK hv G2; have B1x := B1.kept g2 (by simp); clear b1_1_0 b1_1_1 b1_1_2 b1_1_3; have b1_2_0 := B1x.cell 0 (v := .int .u8 ho) rfl; have b1_2_1 := B1x.cell 1 (v := .int .u16 bo) rfl; have b1_2_2 := B1x.cell 2 (v := .int .u16 st) rfl; have b1_2_3 := B1x.cell 3 (v := .int .i64 n) rfl) | (go_at_call 11; (fail_if_success (guard_hyp g3)); refine (hp _ (enK en G2)).mono ?_; rintro e w3 ⟨rfl, g3⟩; have G3 := gb_trans G2 g3; have hv3 := hvK hv G3; have B1xx := B1x.kept g3 (by simp); clear b1_2_0 b1_2_1 b1_2_2 b1_2_3; have b1_3_0 := B1xx.cell 0 (v := .int .u8 ho) rfl; have b1_3_1 := B1xx.cell 1 (v := .int .u16 bo) rfl; have b1_3_2 := B1xx.cell 2 (v := .int .u16 st) rfl; have b1_3_3 := B1xx.cell 3 (v := .int .i64 n) rfl) | (go_at_call 12; (fail_if_success (guard_hyp g4)); refine (hq _).mono ?_; rintro e w4 ⟨rfl, g4⟩; have G4 := gb_trans G3 g4; have hv4 := hvK hv G4; have B1xxx := B1xx.kept g4 (by simp); clear b1_3_0 b1_3_1 b1_3_2 b1_3_3; have b1_4_0 := B1xxx.cell 0 (v := .int .u8 ho) rfl; have b1_4_1 := B1xxx.cell 1 (v := .int .u16 bo) rfl; have b1_4_2 := B1xxx.cell 2 (v := .int .u16 st) rfl; have b1_4_3 := B1xxx.cell 3 (v := .int .i64 n) rfl))
  go_region_held2 (fun w' => w'.cell? ⟨w.heap.size, 0, none⟩ = some (.int .u8 ho) ∧ w'.cell? ⟨w.heap.size, 1, none⟩ = some (.int .u16 bo) ∧ w'.cell? ⟨w.heap.size, 2, none⟩ = some (.int .u16 st) ∧ w'.cell? ⟨w.heap.size, 3, none⟩ = some (.int .i64 n)) (go_keep) (first | (go_at_call 13; (fail_if_success (guard_hyp g5)); refine (hk _ (hvK hv (gb_drew G4))).mono ?_; rintro e w5 ⟨rfl, g5⟩; have G5 := gb_trans (gb_drew G4) g5; have B1xxxr := B1xxx.dr.kept g5 (by simp); have b1_5_0 := B1xxxr.cell 0 (v := .int .u8 ho) rfl; have b1_5_1 := B1xxxr.cell 1 (v := .int .u16 bo) rfl; have b1_5_2 := B1xxxr.cell 2 (v := .int .u16 st) rfl; have b1_5_3 := B1xxxr.cell 3 (v := .int .i64 n) rfl) | (go_at_call 14; (fail_if_success (guard_hyp g6)); refine (hl _).mono ?_; rintro e w6 ⟨rfl, g6⟩; have G6 := gb_trans G5 g6; have B1xxxrr := B1xxxr.kept g6 (by simp); have b1_6_0 := B1xxxrr.cell 0 (v := .int .u8 ho) rfl; have b1_6_1 := B1xxxrr.cell 1 (v := .int .u16 bo) rfl; have b1_6_2 := B1xxxrr.cell 2 (v := .int .u16 st) rfl; have b1_6_3 := B1xxxrr.cell 3 (v := .int .i64 n) rfl))
  all_goals go_wp2
  all_goals go_ret
  all_goals exact ⟨rfl, G6⟩
theorem print_walk (ho bo st n : Int) (w : World) (h1 : 0 ≤ ho ∧ ho ≤ 255) (h2 : 0 ≤ bo ∧ bo ≤ 65535) (h3 : 0 ≤ st ∧ st ≤ 65535) (hn : -9223372036854775808 ≤ n ∧ n ≤ 9223372036854775807) (en : En w) : Calls Tryz.prog 4 #[.agg #[.int .u8 ho, .int .u16 bo, .int .u16 st, .int .i64 n]] w fun e w' => e = .returned (.bool true) ∧ Below w.heap.size w w' := by
  obtain ⟨ho, rfl⟩ := Int.eq_ofNat_of_zero_le h1.1
  obtain ⟨bo, rfl⟩ := Int.eq_ofNat_of_zero_le h2.1
  obtain ⟨st, rfl⟩ := Int.eq_ofNat_of_zero_le h3.1
  exact (print_nat ho bo st n (by omega) (by omega) (by omega) w en).mono fun e w' ⟨a, b⟩ => ⟨a, gb_below b⟩
end Go.Proofs.YtlkdenanbofliaaGreatDoor
