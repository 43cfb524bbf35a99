/- What Print of package gens, and brain and awake of the statements answer. -/
import Derived.Test.YtlkdenanbofliaaGreatDoorG6
import Derived.Test.YtlkdenanbofliaaGreatDoorG7
import Derived.Lib.ItoaLen
import Derived.Lib.AppendIntMem
namespace Go.Proofs.YtlkdenanbofliaaGreatDoor
open Go.RowKit
set_option linter.unusedVariables false
set_option linter.unusedSimpArgs false
set_option maxRecDepth 100000

namespace Gn
/-- A number's text. -/
def tn (n : Int) : ByteArray := ⟨(Lib.itoa n).toArray⟩
def pr (ho bo st : Nat) (n : Int) : ByteArray := if ck ho bo st n = 0 then Lf.pr ho bo st ++ (⟨#[47, 67]⟩ : ByteArray) ++ tn n else ⟨#[]⟩
theorem tn_size {n : Int} (h0 : -9223372036854775808 ≤ n) (h1 : n ≤ 9223372036854775807) : (tn n).size ≤ 21 := by
  have := Lib.itoa_length_le n h0 h1
  unfold tn
  show ((Lib.itoa n).toArray).size ≤ 21
  simp; omega
end Gn
theorem Lf.pr_le (ho bo st : Nat) : (Lf.pr ho bo st).size ≤ 24 := by
  unfold Lf.pr
  split
  · have z1 := Lf.td_size bo
    have z2 := Lf.td_size st
    have z3 : (Lf.lt ho).size ≤ 1 := by unfold Lf.lt; split; decide; split <;> decide
    simp only [ByteArray.size_append]
    have e1 : (ByteArray.mk #[66]).size = 1 := rfl
    have e2 : (ByteArray.mk #[47, 83]).size = 2 := rfl
    omega
  · decide
theorem itoaC (n : Int) (h0 : -9223372036854775808 ≤ n) (h1 : n ≤ 9223372036854775807) (w : World) (en : Hid (En w)) : Calls Tryz.prog 28 #[.int .i64 n] w fun e w' => e = .returned (.string (Gn.tn n)) ∧ w.grownBy w' none := by
  refine (Tryz.strconv_Itoa n h0 h1 w en.out.tab).mono ?_
  rintro e w' ⟨rfl, k, os, rfl⟩
  exact ⟨rfl, of_below (Lib.below_grow _ _ (Nat.le_refl _) _ _)⟩
set_option maxHeartbeats 1000000 in
theorem gprintBad (ho bo st : Nat) (n : Int) (hh : ho < 256) (hb : bo < 65536) (hs : st < 65536) (w : World) (hv : Hid (Hv w)) (hc : ¬ ((Gn.ck ho bo st n : Nat) : Int) = 0) : Calls Tryz.prog 11 #[.agg #[.int .u8 ho, .int .u16 bo, .int .u16 st, .int .i64 n]] w fun e w' => e = .returned (.tuple #[.string ⟨#[]⟩, .int .i64 (Gn.ck ho bo st n : Nat)]) ∧ w.grownBy w' none := by
  have hk := fun w hv => gcheckC ho bo st n hh hb hs w hv
  generalize Gn.ck ho bo st n = q at hk hc ⊢
  obtain ⟨W1, hW1, sz1, g1, B1⟩ := boxn w #[.int .u8 ho, .int .u16 bo, .int .u16 st, .int .i64 n] 27
  have hv1 := hvK hv g1
  have b1_1_0 := B1.cell 0 (v := .int .u8 ho) rfl
  have b1_1_1 := B1.cell 1 (v := .int .u16 bo) rfl
  have b1_1_2 := B1.cell 2 (v := .int .u16 st) rfl
  have b1_1_3 := B1.cell 3 (v := .int .i64 n) rfl
  go_enter Tryz.func11, Tryz.ntmps11
  go_wp2_with (first | (go_at_call 13; (fail_if_success (guard_hyp g2)); refine (hk _ hv1).mono ?_; rintro e w2 ⟨rfl, g2⟩; have G2 := gb_trans g1 g2; have hv2 := hvK hv G2; have B1x := B1.kept g2 (by simp); clear b1_1_0 b1_1_1 b1_1_2 b1_1_3; have b1_2_0 := B1x.cell 0 (v := .int .u8 ho) rfl; have b1_2_1 := B1x.cell 1 (v := .int .u16 bo) rfl; have b1_2_2 := B1x.cell 2 (v := .int .u16 st) rfl; have b1_2_3 := B1x.cell 3 (v := .int .i64 n) rfl))
  go_ret2
  exact ⟨rfl, G2⟩
set_option maxHeartbeats 1000000 in
theorem gprintFine (ho bo st : Nat) (n : Int) (hh : ho < 256) (hb : bo < 65536) (hs : st < 65536) (w : World) (en : Hid (En w)) (hc : Gn.ck ho bo st n = 0) : Calls Tryz.prog 11 #[.agg #[.int .u8 ho, .int .u16 bo, .int .u16 st, .int .i64 n]] w fun e w' => e = .returned (.tuple #[.string (Lf.pr ho bo st ++ (⟨#[47, 67]⟩ : ByteArray) ++ Gn.tn n), .int .i64 0]) ∧ w.grownBy w' none := by
  have hv := enH en
  have hk := fun w hv => gcheckC ho bo st n hh hb hs w hv
  have hp := fun w hv => printC ho bo st hh hb hs w hv
  have hn := Gn.ck_in hc
  have hi := fun w en => itoaC n (by omega) (by omega) w en
  have z2 := Gn.tn_size (n := n) (by omega) (by omega)
  rw [hc] at hk
  rw [hn.1] at hp
  have z1 := Lf.pr_le ho bo st
  generalize Lf.pr ho bo st = x at hp z1 ⊢
  generalize Gn.tn n = y at hi z2 ⊢
  have y1 : (x ++ (⟨#[47, 67]⟩ : ByteArray)).size ≤ 26 := by rw [ByteArray.size_append]; show _ + 2 ≤ _; omega
  have a1 : ∀ w : World, (Op.stringOp .add x ⟨#[47, 67]⟩).run Tryz.prog w = .ok (.string (x ++ (⟨#[47, 67]⟩ : ByteArray))) w := fun w => run_string_add_sum w _ _ (by show _ + 2 ≤ _; omega)
  generalize x ++ (⟨#[47, 67]⟩ : ByteArray) = z at a1 y1 ⊢
  have a2 : ∀ w : World, (Op.stringOp .add z y).run Tryz.prog w = .ok (.string (z ++ y)) w := fun w => run_string_add_sum w _ _ (by omega)
  generalize z ++ y = v at a2 ⊢
  clear y1 z1 z2 hc hn
  obtain ⟨W1, hW1, sz1, g1, B1⟩ := boxn w #[.int .u8 ho, .int .u16 bo, .int .u16 st, .int .i64 n] 27
  have hv1 := hvK hv g1
  have b1_1_0 := B1.cell 0 (v := .int .u8 ho) rfl
  have b1_1_1 := B1.cell 1 (v := .int .u16 bo) rfl
  have b1_1_2 := B1.cell 2 (v := .int .u16 st) rfl
  have b1_1_3 := B1.cell 3 (v := .int .i64 n) rfl
  go_enter Tryz.func11, Tryz.ntmps11
  go_wp2_with (first | (go_at_call 13; (fail_if_success (guard_hyp g2)); refine (hk _ hv1).mono ?_; rintro e w2 ⟨rfl, g2⟩; have G2 := gb_trans g1 g2; have hv2 := hvK hv G2; have B1x := B1.kept g2 (by simp); clear b1_1_0 b1_1_1 b1_1_2 b1_1_3; have b1_2_0 := B1x.cell 0 (v := .int .u8 ho) rfl; have b1_2_1 := B1x.cell 1 (v := .int .u16 bo) rfl; have b1_2_2 := B1x.cell 2 (v := .int .u16 st) rfl; have b1_2_3 := B1x.cell 3 (v := .int .i64 n) rfl) | (go_at_call 27; (fail_if_success (guard_hyp g3)); refine (hp _ hv2).mono ?_; rintro e w3 ⟨rfl, g3⟩; have G3 := gb_trans G2 g3; have hv3 := hvK hv G3; have B1xx := B1x.kept g3 (by simp); clear b1_2_0 b1_2_1 b1_2_2 b1_2_3; have b1_3_0 := B1xx.cell 0 (v := .int .u8 ho) rfl; have b1_3_1 := B1xx.cell 1 (v := .int .u16 bo) rfl; have b1_3_2 := B1xx.cell 2 (v := .int .u16 st) rfl; have b1_3_3 := B1xx.cell 3 (v := .int .i64 n) rfl) | (go_at_call 28; (fail_if_success (guard_hyp g4)); refine (hi _ (enK en G3)).mono ?_; rintro e w4 ⟨rfl, g4⟩; have G4 := gb_trans G3 g4; have hv4 := hvK hv G4; have B1xxx := B1xx.kept g4 (by simp); clear b1_3_0 b1_3_1 b1_3_2 b1_3_3; have b1_4_0 := B1xxx.cell 0 (v := .int .u8 ho) rfl; have b1_4_1 := B1xxx.cell 1 (v := .int .u16 bo) rfl; have b1_4_2 := B1xxx.cell 2 (v := .int .u16 st) rfl; have b1_4_3 := B1xxx.cell 3 (v := .int .i64 n) rfl))
  go_ret2
  exact ⟨rfl, G4⟩
theorem gprintC (ho bo st : Nat) (n : Int) (hh : ho < 256) (hb : bo < 65536) (hs : st < 65536) (w : World) (en : Hid (En w)) : Calls Tryz.prog 11 #[.agg #[.int .u8 ho, .int .u16 bo, .int .u16 st, .int .i64 n]] w fun e w' => e = .returned (.tuple #[.string (Gn.pr ho bo st n), .int .i64 (Gn.ck ho bo st n : Nat)]) ∧ w.grownBy w' none := by
  unfold Gn.pr
  by_cases hc : Gn.ck ho bo st n = 0
  · rw [if_pos hc, hc]
    exact gprintFine ho bo st n hh hb hs w en hc
  · rw [if_neg hc]
    exact gprintBad ho bo st n hh hb hs w (enH en) (by omega)
set_option maxHeartbeats 1000000 in
theorem brainC (w : World) : Calls Tryz.prog 18 #[] w fun e w' => e = .returned (.agg #[.int .u8 1, .int .u16 4, .int .u16 56, .int .i64 4]) ∧ w.grownBy w' none := by
  obtain ⟨fs, hfs'⟩ := underGs
  have hfs : Hid (Tryz.prog.underlying 27 = some (.struct fs)) := hfs'
  clear hfs'
  obtain ⟨W1, hW1, sz1, g1, B1⟩ := boxn w #[.int .u8 0, .int .u16 0, .int .u16 0, .int .i64 0] 27
  go_enter Tryz.func18, Tryz.ntmps18
  go_wp2_with (first | (refine wpList_st (op := ⟨_, .store 27 _ _, _, _, _, _⟩) rfl 27 _ _ rfl w.heap.size #[.int .u8 1, .int .u16 4, .int .u16 56, .int .i64 4] rfl rfl B1 infoGs rfl (by simp [Value.oneCell']) ?_; intro W9 hW9 B9))
  refine ret_c1 (g := w.heap.size) (cs := #[.int .u8 1, .int .u16 4, .int .u16 56, .int .i64 4]) rfl hfs.out infoGs rfl B9 rfl ⟨rfl, hW9 ▸ gb_row2 g1 (by omega)⟩
theorem gpa1 : Gn.parseR ⟨#[51, 52, 53, 47, 50, 47, 52]⟩ = ⟨1, 4, 56, 4, 0, 0⟩ := by kernel_rfl
theorem gpa2 : Gn.parseR ⟨#[66, 50, 47, 83, 51, 52, 53, 47, 67, 49]⟩ = ⟨0, 0, 0, 0, 9, 90⟩ := by kernel_rfl
theorem gpp1 : Gn.pr 1 4 56 4 = ⟨#[66, 50, 47, 83, 51, 52, 53, 47, 67, 52]⟩ := by kernel_rfl
theorem gck11 : Gn.ck 1 4 56 4 = 0 := by decide +kernel
theorem gnx11 : Gn.nxV 1 4 56 4 1 2 = 2 ∧ Gn.nxE 1 4 56 4 1 2 = 0 := by decide +kernel
theorem wParse1 (w : World) (en : Hid (En w)) : Calls Tryz.prog 10 #[.string ⟨#[51, 52, 53, 47, 50, 47, 52]⟩] w fun e w' => e = .returned (.tuple #[.agg #[.int .u8 1, .int .u16 4, .int .u16 56, .int .i64 4], .int .i64 0, .int .i64 0]) ∧ w.grownBy w' none := by
  have := gparseC ⟨#[51, 52, 53, 47, 50, 47, 52]⟩ w en
  rw [gpa1] at this
  exact this
theorem wParse2 (w : World) (en : Hid (En w)) : Calls Tryz.prog 10 #[.string ⟨#[66, 50, 47, 83, 51, 52, 53, 47, 67, 49]⟩] w fun e w' => e = .returned (.tuple #[.agg #[.int .u8 0, .int .u16 0, .int .u16 0, .int .i64 0], .int .i64 9, .int .i64 90]) ∧ w.grownBy w' none := by
  have := gparseC ⟨#[66, 50, 47, 83, 51, 52, 53, 47, 67, 49]⟩ w en
  rw [gpa2] at this
  exact this
theorem wPrint (w : World) (en : Hid (En w)) : Calls Tryz.prog 11 #[.agg #[.int .u8 1, .int .u16 4, .int .u16 56, .int .i64 4]] w fun e w' => e = .returned (.tuple #[.string ⟨#[66, 50, 47, 83, 51, 52, 53, 47, 67, 52]⟩, .int .i64 0]) ∧ w.grownBy w' none := by
  have := gprintC 1 4 56 4 (by decide) (by decide) (by decide) w en
  rw [gpp1, gck11] at this
  exact this
theorem wNext (w : World) (hv : Hid (Hv w)) : Calls Tryz.prog 15 #[.agg #[.int .u8 1, .int .u16 4, .int .u16 56, .int .i64 4], .int .u8 1, .int .i64 2] w fun e w' => e = .returned (.tuple #[.int .u8 2, .int .i64 0]) ∧ w.grownBy w' none := by
  have := gnextC 1 4 56 4 (by decide) (by decide) (by decide) 1 (by decide) 2 w hv
  rw [gnx11.1, gnx11.2] at this
  exact this
theorem Bo.same {w : World} {g : Nat} {t : TypeId} {cs : Array Value} (h : Bo w g t cs) (i : Nat) {v : Value} (hi : cs[i]? = some v) : w.setCell ⟨g, i, none⟩ v = w := by
  have hcs : cs.setIfInBounds i v = cs := by
    obtain ⟨h1, h2⟩ := Array.getElem?_eq_some_iff.1 hi
    subst h2
    apply Array.ext
    · simp
    · intro j h3 h4
      rw [Array.getElem_setIfInBounds]
      split
      · subst_vars; rfl
      · rfl
  have h2 := h.set i v
  rw [hcs] at h2
  have hh : (w.setCell ⟨g, i, none⟩ v).heap = w.heap := by
    apply Array.ext_getElem?
    intro j
    by_cases hj : j = g
    · subst hj; rw [show (w.setCell ⟨j, i, none⟩ v).heap[j]? = _ from h2, show w.heap[j]? = _ from h]
    · simp [World.setCell, Array.getElem?_modify, Ne.symm hj]
  show { w with heap := _ } = w
  exact congrArg (fun x => { w with heap := x }) hh
set_option maxHeartbeats 2000000 in
theorem awakeC (w : World) (en : Hid (En w)) : Calls Tryz.prog 8 #[] w fun e w' => e = .returned (.bool true) ∧ w.grownBy w' none := by
  have hv := enH en
  go_enter Tryz.func8, Tryz.ntmps8
  go_wp2_with (first | (go_at_call 10; (fail_if_success (guard_hyp g1)); refine (wParse1 _ en).mono ?_; rintro e w1 ⟨rfl, g1⟩; have hv1 := hvK hv g1; obtain ⟨W2, hW2, sz2, g2, B2⟩ := boxn w1 #[.int .u8 1, .int .u16 4, .int .u16 56, .int .i64 4] 27; have G2 := gb_trans g1 g2; have hv2 := hvK hv G2; have b2_2_0 := B2.cell 0 (v := .int .u8 1) rfl; have b2_2_1 := B2.cell 1 (v := .int .u16 4) rfl; have b2_2_2 := B2.cell 2 (v := .int .u16 56) rfl; have b2_2_3 := B2.cell 3 (v := .int .i64 4) rfl) | (go_at_call 10; (fail_if_success (guard_hyp g3)); refine (wParse2 _ (enK en G2)).mono ?_; rintro e w3 ⟨rfl, g3⟩; have G3 := gb_trans G2 g3; have hv3 := hvK hv G3; have B2x := B2.kept g3 (by simp); obtain ⟨W4, hW4, sz4, g4, B4⟩ := boxn w3 #[.int .u8 0, .int .u16 0, .int .u16 0, .int .i64 0] 27; have G4 := gb_trans G3 g4; have hv4 := hvK hv G4; have B2xx := B2x.kept g4 (by simp); have sm4_0 := Bo.same B4 0 (v := .int .u8 0) rfl; have sm4_1 := Bo.same B4 1 (v := .int .u16 0) rfl; have sm4_2 := Bo.same B4 2 (v := .int .u16 0) rfl; have sm4_3 := Bo.same B4 3 (v := .int .i64 0) rfl; have fz4_0 := B4.frozen 0; have fz4_1 := B4.frozen 1; have fz4_2 := B4.frozen 2; have fz4_3 := B4.frozen 3; clear b2_2_0 b2_2_1 b2_2_2 b2_2_3; have b2_4_0 := B2xx.cell 0 (v := .int .u8 1) rfl; have b2_4_1 := B2xx.cell 1 (v := .int .u16 4) rfl; have b2_4_2 := B2xx.cell 2 (v := .int .u16 56) rfl; have b2_4_3 := B2xx.cell 3 (v := .int .i64 4) rfl; have b4_4_0 := B4.cell 0 (v := .int .u8 0) rfl; have b4_4_1 := B4.cell 1 (v := .int .u16 0) rfl; have b4_4_2 := B4.cell 2 (v := .int .u16 0) rfl; have b4_4_3 := B4.cell 3 (v := .int .i64 0) rfl) | (go_at_call 18; (fail_if_success (guard_hyp g5)); refine (brainC _).mono ?_; rintro e w5 ⟨rfl, g5⟩; have G5 := gb_trans G4 g5; have hv5 := hvK hv G5; have B2xxx := B2xx.kept g5 (by simp); have B4x := B4.kept g5 (by simp); clear b2_4_0 b2_4_1 b2_4_2 b2_4_3 b4_4_0 b4_4_1 b4_4_2 b4_4_3; have b2_5_0 := B2xxx.cell 0 (v := .int .u8 1) rfl; have b2_5_1 := B2xxx.cell 1 (v := .int .u16 4) rfl; have b2_5_2 := B2xxx.cell 2 (v := .int .u16 56) rfl; have b2_5_3 := B2xxx.cell 3 (v := .int .i64 4) rfl; have b4_5_0 := B4x.cell 0 (v := .int .u8 0) rfl; have b4_5_1 := B4x.cell 1 (v := .int .u16 0) rfl; have b4_5_2 := B4x.cell 2 (v := .int .u16 0) rfl; have b4_5_3 := B4x.cell 3 (v := .int .i64 0) rfl) | (go_at_call 11; (fail_if_success (guard_hyp g6)); refine (wPrint _ (enK en G5)).mono ?_; rintro e w6 ⟨rfl, g6⟩; have G6 := gb_trans G5 g6; have hv6 := hvK hv G6; have B2xxxx := B2xxx.kept g6 (by simp); have B4xx := B4x.kept g6 (by simp); clear b2_5_0 b2_5_1 b2_5_2 b2_5_3 b4_5_0 b4_5_1 b4_5_2 b4_5_3; have b2_6_0 := B2xxxx.cell 0 (v := .int .u8 1) rfl; have b2_6_1 := B2xxxx.cell 1 (v := .int .u16 4) rfl; have b2_6_2 := B2xxxx.cell 2 (v := .int .u16 56) rfl; have b2_6_3 := B2xxxx.cell 3 (v := .int .i64 4) rfl; have b4_6_0 := B4xx.cell 0 (v := .int .u8 0) rfl; have b4_6_1 := B4xx.cell 1 (v := .int .u16 0) rfl; have b4_6_2 := B4xx.cell 2 (v := .int .u16 0) rfl; have b4_6_3 := B4xx.cell 3 (v := .int .i64 0) rfl) | (go_at_call 18; (fail_if_success (guard_hyp g7)); refine (brainC _).mono ?_; rintro e w7 ⟨rfl, g7⟩; have G7 := gb_trans G6 g7; have hv7 := hvK hv G7; have B2xxxxx := B2xxxx.kept g7 (by simp); have B4xxx := B4xx.kept g7 (by simp); clear b2_6_0 b2_6_1 b2_6_2 b2_6_3 b4_6_0 b4_6_1 b4_6_2 b4_6_3; have b2_7_0 := B2xxxxx.cell 0 (v := .int .u8 1) rfl; have b2_7_1 := B2xxxxx.cell 1 (v := .int .u16 4) rfl; have b2_7_2 := B2xxxxx.cell 2 (v := .int .u16 56) rfl; have b2_7_3 := B2xxxxx.cell 3 (v := .int .i64 4) rfl; have b4_7_0 := B4xxx.cell 0 (v := .int .u8 0) rfl; have b4_7_1 := B4xxx.cell 1 (v := .int .u16 0) rfl; have b4_7_2 := B4xxx.cell 2 (v := .int .u16 0) rfl; have b4_7_3 := B4xxx.cell 3 (v := .int .i64 0) rfl) | (go_at_call 15; (fail_if_success (guard_hyp g8)); refine (wNext _ hv7).mono ?_; rintro e w8 ⟨rfl, g8⟩; have G8 := gb_trans G7 g8; have hv8 := hvK hv G8; have B2xxxxxx := B2xxxxx.kept g8 (by simp); have B4xxxx := B4xxx.kept g8 (by simp); clear b2_7_0 b2_7_1 b2_7_2 b2_7_3 b4_7_0 b4_7_1 b4_7_2 b4_7_3; have b2_8_0 := B2xxxxxx.cell 0 (v := .int .u8 1) rfl; have b2_8_1 := B2xxxxxx.cell 1 (v := .int .u16 4) rfl; have b2_8_2 := B2xxxxxx.cell 2 (v := .int .u16 56) rfl; have b2_8_3 := B2xxxxxx.cell 3 (v := .int .i64 4) rfl; have b4_8_0 := B4xxxx.cell 0 (v := .int .u8 0) rfl; have b4_8_1 := B4xxxx.cell 1 (v := .int .u16 0) rfl; have b4_8_2 := B4xxxx.cell 2 (v := .int .u16 0) rfl; have b4_8_3 := B4xxxx.cell 3 (v := .int .i64 0) rfl))
  go_region_held2 (fun w' => w'.cell? ⟨w1.heap.size, 0, none⟩ = some (.int .u8 1) ∧ w'.cell? ⟨w1.heap.size, 1, none⟩ = some (.int .u16 4) ∧ w'.cell? ⟨w1.heap.size, 2, none⟩ = some (.int .u16 56) ∧ w'.cell? ⟨w1.heap.size, 3, none⟩ = some (.int .i64 4) ∧ w'.cell? ⟨w3.heap.size, 0, none⟩ = some (.int .u8 0) ∧ w'.cell? ⟨w3.heap.size, 1, none⟩ = some (.int .u16 0) ∧ w'.cell? ⟨w3.heap.size, 2, none⟩ = some (.int .u16 0) ∧ w'.cell? ⟨w3.heap.size, 3, none⟩ = some (.int .i64 0)) (go_keep) (first | (go_at_call 18; (fail_if_success (guard_hyp g9)); refine (brainC _).mono ?_; rintro e w9 ⟨rfl, g9⟩; have G9 := gb_trans (gb_drew G8) g9; have B2xxxxxxr := B2xxxxxx.dr.kept g9 (by simp); have B4xxxxr := B4xxxx.dr.kept g9 (by simp); have b2_9_0 := B2xxxxxxr.cell 0 (v := .int .u8 1) rfl; have b2_9_1 := B2xxxxxxr.cell 1 (v := .int .u16 4) rfl; have b2_9_2 := B2xxxxxxr.cell 2 (v := .int .u16 56) rfl; have b2_9_3 := B2xxxxxxr.cell 3 (v := .int .i64 4) rfl; have b4_9_0 := B4xxxxr.cell 0 (v := .int .u8 0) rfl; have b4_9_1 := B4xxxxr.cell 1 (v := .int .u16 0) rfl; have b4_9_2 := B4xxxxr.cell 2 (v := .int .u16 0) rfl; have b4_9_3 := B4xxxxr.cell 3 (v := .int .i64 0) rfl))
  all_goals go_wp2
  all_goals go_ret
  all_goals exact ⟨rfl, G9⟩
end Go.Proofs.YtlkdenanbofliaaGreatDoor
