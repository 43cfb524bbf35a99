/- What Check and Next of the document answer; the walk of GensNext. -/
import Derived.Test.YtlkdenanbofliaaGreatDoorG8
import Derived.Test.YtlkdenanbofliaaGreatDoorL11
namespace Go.Proofs.YtlkdenanbofliaaGreatDoor
open Go.RowKit
set_option linter.unusedVariables false
set_option linter.unusedSimpArgs false
set_option maxRecDepth 100000

theorem Lf.ck_lt (ho bo st : Nat) : Lf.ck ho bo st < 256 := by
  unfold Lf.ck
  split
  · split <;> decide
  · decide
set_option maxHeartbeats 1000000 in
theorem gckD1 (ho bo st : Nat) (n : Int) (hh : ho < 256) (hb : bo < 65536) (hs : st < 65536) (w : World) (hc : ¬ ((Lf.ck ho bo st : Nat) : Int) = 0) : Calls Tryz.prog 14 #[.agg #[.int .u8 ho, .int .u16 bo, .int .u16 st, .int .i64 n]] w fun e w' => e = .returned (.int .i64 ((Lf.ck ho bo st : Nat) : Int)) ∧ w.grownBy w' none := by
  have hk := fun w => checkD ho bo st hh hb hs w
  have hlt := Lf.ck_lt ho bo st
  generalize Lf.ck ho bo st = q at hk hc hlt ⊢
  have hlt2 : (q : Int) < 256 := by omega
  have hw : IntKind.i64.wrap (q : Int) = (q : Int) := by rw [IntKind.wrap_i64]; omega
  obtain ⟨W1, hW1, sz1, g1, B1⟩ := boxn w #[.int .u8 ho, .int .u16 bo, .int .u16 st, .int .i64 n] 27
  have b1_1_0 := B1.cell 0 (v := .int .u8 ho) rfl
  have b1_1_1 := B1.cell 1 (v := .int .u16 bo) rfl
  have b1_1_2 := B1.cell 2 (v := .int .u16 st) rfl
  have b1_1_3 := B1.cell 3 (v := .int .i64 n) rfl
  go_enter Tryz.func14, Tryz.ntmps14
  go_wp2_with (first | (go_at_call 33; (fail_if_success (guard_hyp g2)); refine (hk _).mono ?_; rintro e w2 ⟨rfl, g2⟩; have G2 := gb_trans g1 g2; have B1x := B1.kept g2 (by simp); clear b1_1_0 b1_1_1 b1_1_2 b1_1_3; have b1_2_0 := B1x.cell 0 (v := .int .u8 ho) rfl; have b1_2_1 := B1x.cell 1 (v := .int .u16 bo) rfl; have b1_2_2 := B1x.cell 2 (v := .int .u16 st) rfl; have b1_2_3 := B1x.cell 3 (v := .int .i64 n) rfl))
  go_ret
  exact ⟨rfl, G2⟩
set_option maxHeartbeats 1000000 in
theorem gckD2 (ho bo st : Nat) (n : Int) (hh : ho < 256) (hb : bo < 65536) (hs : st < 65536) (w : World) (hc : Lf.ck ho bo st = 0) (hn : n < 2) : Calls Tryz.prog 14 #[.agg #[.int .u8 ho, .int .u16 bo, .int .u16 st, .int .i64 n]] w fun e w' => e = .returned (.int .i64 90) ∧ w.grownBy w' none := by
  have hk := fun w => checkD ho bo st hh hb hs w
  rw [hc] at hk
  clear hc
  obtain ⟨W1, hW1, sz1, g1, B1⟩ := boxn w #[.int .u8 ho, .int .u16 bo, .int .u16 st, .int .i64 n] 27
  have b1_1_0 := B1.cell 0 (v := .int .u8 ho) rfl
  have b1_1_1 := B1.cell 1 (v := .int .u16 bo) rfl
  have b1_1_2 := B1.cell 2 (v := .int .u16 st) rfl
  have b1_1_3 := B1.cell 3 (v := .int .i64 n) rfl
  go_enter Tryz.func14, Tryz.ntmps14
  go_wp2_with (first | (go_at_call 33; (fail_if_success (guard_hyp g2)); refine (hk _).mono ?_; rintro e w2 ⟨rfl, g2⟩; have G2 := gb_trans g1 g2; have B1x := B1.kept g2 (by simp); clear b1_1_0 b1_1_1 b1_1_2 b1_1_3; have b1_2_0 := B1x.cell 0 (v := .int .u8 ho) rfl; have b1_2_1 := B1x.cell 1 (v := .int .u16 bo) rfl; have b1_2_2 := B1x.cell 2 (v := .int .u16 st) rfl; have b1_2_3 := B1x.cell 3 (v := .int .i64 n) rfl))
  go_ret
  exact ⟨rfl, G2⟩
set_option maxHeartbeats 1000000 in
theorem gckD3 (ho bo st : Nat) (n : Int) (hh : ho < 256) (hb : bo < 65536) (hs : st < 65536) (w : World) (hc : Lf.ck ho bo st = 0) (hn : ¬ n < 2) (hn2 : 256 < n) : Calls Tryz.prog 14 #[.agg #[.int .u8 ho, .int .u16 bo, .int .u16 st, .int .i64 n]] w fun e w' => e = .returned (.int .i64 90) ∧ w.grownBy w' none := by
  have hk := fun w => checkD ho bo st hh hb hs w
  rw [hc] at hk
  clear hc
  obtain ⟨W1, hW1, sz1, g1, B1⟩ := boxn w #[.int .u8 ho, .int .u16 bo, .int .u16 st, .int .i64 n] 27
  have b1_1_0 := B1.cell 0 (v := .int .u8 ho) rfl
  have b1_1_1 := B1.cell 1 (v := .int .u16 bo) rfl
  have b1_1_2 := B1.cell 2 (v := .int .u16 st) rfl
  have b1_1_3 := B1.cell 3 (v := .int .i64 n) rfl
  go_enter Tryz.func14, Tryz.ntmps14
  go_wp2_with (first | (go_at_call 33; (fail_if_success (guard_hyp g2)); refine (hk _).mono ?_; rintro e w2 ⟨rfl, g2⟩; have G2 := gb_trans g1 g2; have B1x := B1.kept g2 (by simp); clear b1_1_0 b1_1_1 b1_1_2 b1_1_3; have b1_2_0 := B1x.cell 0 (v := .int .u8 ho) rfl; have b1_2_1 := B1x.cell 1 (v := .int .u16 bo) rfl; have b1_2_2 := B1x.cell 2 (v := .int .u16 st) rfl; have b1_2_3 := B1x.cell 3 (v := .int .i64 n) rfl))
  go_ret
  exact ⟨rfl, G2⟩
set_option maxHeartbeats 1000000 in
theorem gckD4 (ho bo st : Nat) (n : Int) (hh : ho < 256) (hb : bo < 65536) (hs : st < 65536) (w : World) (hc : Lf.ck ho bo st = 0) (hn : ¬ n < 2) (hn2 : ¬ 256 < n) : Calls Tryz.prog 14 #[.agg #[.int .u8 ho, .int .u16 bo, .int .u16 st, .int .i64 n]] w fun e w' => e = .returned (.int .i64 0) ∧ w.grownBy w' none := by
  have hk := fun w => checkD ho bo st hh hb hs w
  rw [hc] at hk
  clear hc
  obtain ⟨W1, hW1, sz1, g1, B1⟩ := boxn w #[.int .u8 ho, .int .u16 bo, .int .u16 st, .int .i64 n] 27
  have b1_1_0 := B1.cell 0 (v := .int .u8 ho) rfl
  have b1_1_1 := B1.cell 1 (v := .int .u16 bo) rfl
  have b1_1_2 := B1.cell 2 (v := .int .u16 st) rfl
  have b1_1_3 := B1.cell 3 (v := .int .i64 n) rfl
  go_enter Tryz.func14, Tryz.ntmps14
  go_wp2_with (first | (go_at_call 33; (fail_if_success (guard_hyp g2)); refine (hk _).mono ?_; rintro e w2 ⟨rfl, g2⟩; have G2 := gb_trans g1 g2; have B1x := B1.kept g2 (by simp); clear b1_1_0 b1_1_1 b1_1_2 b1_1_3; have b1_2_0 := B1x.cell 0 (v := .int .u8 ho) rfl; have b1_2_1 := B1x.cell 1 (v := .int .u16 bo) rfl; have b1_2_2 := B1x.cell 2 (v := .int .u16 st) rfl; have b1_2_3 := B1x.cell 3 (v := .int .i64 n) rfl))
  go_ret
  exact ⟨rfl, G2⟩
theorem gcheckD (ho bo st : Nat) (n : Int) (hh : ho < 256) (hb : bo < 65536) (hs : st < 65536) (w : World) : Calls Tryz.prog 14 #[.agg #[.int .u8 ho, .int .u16 bo, .int .u16 st, .int .i64 n]] w fun e w' => e = .returned (.int .i64 ((Gn.ck ho bo st n : Nat) : Int)) ∧ w.grownBy w' none := by
  unfold Gn.ck
  by_cases hc : Lf.ck ho bo st = 0
  · rw [if_pos hc]
    by_cases h1 : n < 2
    · rw [if_neg (by unfold Gn.may; simp; omega)]
      exact gckD2 ho bo st n hh hb hs w hc h1
    · by_cases h2 : 256 < n
      · rw [if_neg (by unfold Gn.may; simp; omega)]
        exact gckD3 ho bo st n hh hb hs w hc h1 h2
      · rw [if_pos (by unfold Gn.may; simp; omega)]
        exact gckD4 ho bo st n hh hb hs w hc h1 h2
  · rw [if_neg hc]
    exact gckD1 ho bo st n hh hb hs w (by omega)
set_option maxHeartbeats 1000000 in
theorem nxD0 (ho bo st : Nat) (n : Int) (t : Nat) (l : Int) (hh : ho < 256) (hb : bo < 65536) (hs : st < 65536) (w : World) (hc : ¬ ((Gn.ck ho bo st n : Nat) : Int) = 0) : Calls Tryz.prog 16 #[.agg #[.int .u8 ho, .int .u16 bo, .int .u16 st, .int .i64 n], .int .u8 t, .int .i64 l] w fun e w' => e = .returned (.tuple #[.int .u8 0, .int .i64 (Gn.ck ho bo st n : Nat)]) ∧ w.grownBy w' none := by
  have hk := fun w => gcheckD ho bo st n hh hb hs w
  generalize Gn.ck ho bo st n = q at hk hc ⊢
  obtain ⟨W1, hW1, sz1, g1, B1⟩ := boxn w #[.int .u8 ho, .int .u16 bo, .int .u16 st, .int .i64 n] 27
  have b1_1_0 := B1.cell 0 (v := .int .u8 ho) rfl
  have b1_1_1 := B1.cell 1 (v := .int .u16 bo) rfl
  have b1_1_2 := B1.cell 2 (v := .int .u16 st) rfl
  have b1_1_3 := B1.cell 3 (v := .int .i64 n) rfl
  go_enter Tryz.func16, Tryz.ntmps16
  go_wp2_with (first | (go_at_call 14; (fail_if_success (guard_hyp g2)); refine (hk _).mono ?_; rintro e w2 ⟨rfl, g2⟩; have G2 := gb_trans g1 g2; have B1x := B1.kept g2 (by simp); clear b1_1_0 b1_1_1 b1_1_2 b1_1_3; have b1_2_0 := B1x.cell 0 (v := .int .u8 ho) rfl; have b1_2_1 := B1x.cell 1 (v := .int .u16 bo) rfl; have b1_2_2 := B1x.cell 2 (v := .int .u16 st) rfl; have b1_2_3 := B1x.cell 3 (v := .int .i64 n) rfl))
  go_ret2
  exact ⟨rfl, G2⟩
set_option maxHeartbeats 1000000 in
theorem nxD2 (ho bo st : Nat) (n : Int) (t : Nat) (h8 : (t : Int) < 256) (l : Int) (hh : ho < 256) (hb : bo < 65536) (hs : st < 65536) (w : World) (hc : Gn.ck ho bo st n = 0) (ht : n ≤ (t : Int)) : Calls Tryz.prog 16 #[.agg #[.int .u8 ho, .int .u16 bo, .int .u16 st, .int .i64 n], .int .u8 t, .int .i64 l] w fun e w' => e = .returned (.tuple #[.int .u8 0, .int .i64 7]) ∧ w.grownBy w' none := by
  have hk := fun w => gcheckD ho bo st n hh hb hs w
  rw [hc] at hk
  clear hc
  obtain ⟨W1, hW1, sz1, g1, B1⟩ := boxn w #[.int .u8 ho, .int .u16 bo, .int .u16 st, .int .i64 n] 27
  have b1_1_0 := B1.cell 0 (v := .int .u8 ho) rfl
  have b1_1_1 := B1.cell 1 (v := .int .u16 bo) rfl
  have b1_1_2 := B1.cell 2 (v := .int .u16 st) rfl
  have b1_1_3 := B1.cell 3 (v := .int .i64 n) rfl
  go_enter Tryz.func16, Tryz.ntmps16
  go_wp2_with (first | (go_at_call 14; (fail_if_success (guard_hyp g2)); refine (hk _).mono ?_; rintro e w2 ⟨rfl, g2⟩; have G2 := gb_trans g1 g2; have B1x := B1.kept g2 (by simp); clear b1_1_0 b1_1_1 b1_1_2 b1_1_3; have b1_2_0 := B1x.cell 0 (v := .int .u8 ho) rfl; have b1_2_1 := B1x.cell 1 (v := .int .u16 bo) rfl; have b1_2_2 := B1x.cell 2 (v := .int .u16 st) rfl; have b1_2_3 := B1x.cell 3 (v := .int .i64 n) rfl))
  go_ret2
  exact ⟨rfl, G2⟩
set_option maxHeartbeats 1000000 in
theorem nxD31 (bo st : Nat) (n : Int) (t : Nat) (h8 : (t : Int) < 256) (l : Int) (hb : bo < 65536) (hs : st < 65536) (w : World) (hc : Gn.ck 1 bo st n = 0) (ht : ¬ n ≤ (t : Int)) (hl : l < 0) : Calls Tryz.prog 16 #[.agg #[.int .u8 1, .int .u16 bo, .int .u16 st, .int .i64 n], .int .u8 t, .int .i64 l] w fun e w' => e = .returned (.tuple #[.int .u8 0, .int .i64 2]) ∧ w.grownBy w' none := by
  have hk := fun w => gcheckD 1 bo st n (by decide) hb hs w
  rw [hc] at hk
  clear hc
  obtain ⟨W1, hW1, sz1, g1, B1⟩ := boxn w #[.int .u8 1, .int .u16 bo, .int .u16 st, .int .i64 n] 27
  have b1_1_0 := B1.cell 0 (v := .int .u8 1) rfl
  have b1_1_1 := B1.cell 1 (v := .int .u16 bo) rfl
  have b1_1_2 := B1.cell 2 (v := .int .u16 st) rfl
  have b1_1_3 := B1.cell 3 (v := .int .i64 n) rfl
  go_enter Tryz.func16, Tryz.ntmps16
  go_wp2_with (first | (go_at_call 14; (fail_if_success (guard_hyp g2)); refine (hk _).mono ?_; rintro e w2 ⟨rfl, g2⟩; have G2 := gb_trans g1 g2; have B1x := B1.kept g2 (by simp); clear b1_1_0 b1_1_1 b1_1_2 b1_1_3; have b1_2_0 := B1x.cell 0 (v := .int .u8 1) rfl; have b1_2_1 := B1x.cell 1 (v := .int .u16 bo) rfl; have b1_2_2 := B1x.cell 2 (v := .int .u16 st) rfl; have b1_2_3 := B1x.cell 3 (v := .int .i64 n) rfl))
  go_ret2
  exact ⟨rfl, G2⟩
set_option maxHeartbeats 1000000 in
theorem nxD41 (bo st : Nat) (n : Int) (t : Nat) (h8 : (t : Int) < 256) (l : Int) (hb : bo < 65536) (hs : st < 65536) (w : World) (hc : Gn.ck 1 bo st n = 0) (ht : ¬ n ≤ (t : Int)) (hl : ¬ l < 0) (hm : 8 < l) : Calls Tryz.prog 16 #[.agg #[.int .u8 1, .int .u16 bo, .int .u16 st, .int .i64 n], .int .u8 t, .int .i64 l] w fun e w' => e = .returned (.tuple #[.int .u8 0, .int .i64 2]) ∧ w.grownBy w' none := by
  have hk := fun w => gcheckD 1 bo st n (by decide) hb hs w
  rw [hc] at hk
  clear hc
  obtain ⟨W1, hW1, sz1, g1, B1⟩ := boxn w #[.int .u8 1, .int .u16 bo, .int .u16 st, .int .i64 n] 27
  have b1_1_0 := B1.cell 0 (v := .int .u8 1) rfl
  have b1_1_1 := B1.cell 1 (v := .int .u16 bo) rfl
  have b1_1_2 := B1.cell 2 (v := .int .u16 st) rfl
  have b1_1_3 := B1.cell 3 (v := .int .i64 n) rfl
  go_enter Tryz.func16, Tryz.ntmps16
  go_wp2_with (first | (go_at_call 14; (fail_if_success (guard_hyp g2)); refine (hk _).mono ?_; rintro e w2 ⟨rfl, g2⟩; have G2 := gb_trans g1 g2; have B1x := B1.kept g2 (by simp); clear b1_1_0 b1_1_1 b1_1_2 b1_1_3; have b1_2_0 := B1x.cell 0 (v := .int .u8 1) rfl; have b1_2_1 := B1x.cell 1 (v := .int .u16 bo) rfl; have b1_2_2 := B1x.cell 2 (v := .int .u16 st) rfl; have b1_2_3 := B1x.cell 3 (v := .int .i64 n) rfl))
  go_ret2
  exact ⟨rfl, G2⟩
set_option maxHeartbeats 1000000 in
theorem nxD501 (bo st : Nat) (n : Int) (t l : Nat) (h8 : (t : Int) < 256) (hb : bo < 65536) (hs : st < 65536) (w : World) (hc : Gn.ck 1 bo st n = 0) (ht : ¬ n ≤ (t : Int)) (hl : l ≤ 8) (ht0 : t = 0) (hq : bo.testBit l = true) : Calls Tryz.prog 16 #[.agg #[.int .u8 1, .int .u16 bo, .int .u16 st, .int .i64 n], .int .u8 t, .int .i64 l] w fun e w' => e = .returned (.tuple #[.int .u8 1, .int .i64 0]) ∧ w.grownBy w' none := by
  subst ht0
  have hk := fun w => gcheckD 1 bo st n (by decide) hb hs w
  rw [hc] at hk
  have hi := Gn.ck_in hc
  have hn2 : 2 ≤ n := hi.2.1
  have hn3 : n ≤ 256 := hi.2.2
  clear hc hi
  have hl' : (l : Int) ≤ 8 := by omega
  have hp16 := shl16 (n := l) (by omega)
  have ha := and16 bo (2 ^ l) hb (Lf.p16 (by omega))
  have hz : ¬ ((bo &&& 2 ^ l : Nat) : Int) = 0 := by
    have h1 := @Lf.and_one bo l
    intro e; have h2 := h1.1 (by omega); rw [hq] at h2; cases h2
  generalize bo &&& 2 ^ l = y at ha hz
  generalize 2 ^ l = q at hp16 ha
  clear hq
  obtain ⟨W1, hW1, sz1, g1, B1⟩ := boxn w #[.int .u8 1, .int .u16 bo, .int .u16 st, .int .i64 n] 27
  have b1_1_0 := B1.cell 0 (v := .int .u8 1) rfl
  have b1_1_1 := B1.cell 1 (v := .int .u16 bo) rfl
  have b1_1_2 := B1.cell 2 (v := .int .u16 st) rfl
  have b1_1_3 := B1.cell 3 (v := .int .i64 n) rfl
  go_enter Tryz.func16, Tryz.ntmps16
  go_wp2_with (first | (go_at_call 14; (fail_if_success (guard_hyp g2)); refine (hk _).mono ?_; rintro e w2 ⟨rfl, g2⟩; have G2 := gb_trans g1 g2; have B1x := B1.kept g2 (by simp); clear b1_1_0 b1_1_1 b1_1_2 b1_1_3; have b1_2_0 := B1x.cell 0 (v := .int .u8 1) rfl; have b1_2_1 := B1x.cell 1 (v := .int .u16 bo) rfl; have b1_2_2 := B1x.cell 2 (v := .int .u16 st) rfl; have b1_2_3 := B1x.cell 3 (v := .int .i64 n) rfl))
  go_ret2
  exact ⟨rfl, G2⟩
set_option maxHeartbeats 1000000 in
theorem nxD511 (bo st : Nat) (n : Int) (t l : Nat) (h8 : (t : Int) < 256) (hb : bo < 65536) (hs : st < 65536) (w : World) (hc : Gn.ck 1 bo st n = 0) (ht : ¬ n ≤ (t : Int)) (hl : l ≤ 8) (ht0 : t = 0) (hq : bo.testBit l = false) : Calls Tryz.prog 16 #[.agg #[.int .u8 1, .int .u16 bo, .int .u16 st, .int .i64 n], .int .u8 t, .int .i64 l] w fun e w' => e = .returned (.tuple #[.int .u8 0, .int .i64 0]) ∧ w.grownBy w' none := by
  subst ht0
  have hk := fun w => gcheckD 1 bo st n (by decide) hb hs w
  rw [hc] at hk
  have hi := Gn.ck_in hc
  have hn2 : 2 ≤ n := hi.2.1
  have hn3 : n ≤ 256 := hi.2.2
  clear hc hi
  have hl' : (l : Int) ≤ 8 := by omega
  have hp16 := shl16 (n := l) (by omega)
  have ha := and16 bo (2 ^ l) hb (Lf.p16 (by omega))
  have hz : ((bo &&& 2 ^ l : Nat) : Int) = 0 := by
    have h1 := @Lf.and_one bo l
    rw [h1.2 hq]; rfl
  generalize bo &&& 2 ^ l = y at ha hz
  generalize 2 ^ l = q at hp16 ha
  clear hq
  obtain ⟨W1, hW1, sz1, g1, B1⟩ := boxn w #[.int .u8 1, .int .u16 bo, .int .u16 st, .int .i64 n] 27
  have b1_1_0 := B1.cell 0 (v := .int .u8 1) rfl
  have b1_1_1 := B1.cell 1 (v := .int .u16 bo) rfl
  have b1_1_2 := B1.cell 2 (v := .int .u16 st) rfl
  have b1_1_3 := B1.cell 3 (v := .int .i64 n) rfl
  go_enter Tryz.func16, Tryz.ntmps16
  go_wp2_with (first | (go_at_call 14; (fail_if_success (guard_hyp g2)); refine (hk _).mono ?_; rintro e w2 ⟨rfl, g2⟩; have G2 := gb_trans g1 g2; have B1x := B1.kept g2 (by simp); clear b1_1_0 b1_1_1 b1_1_2 b1_1_3; have b1_2_0 := B1x.cell 0 (v := .int .u8 1) rfl; have b1_2_1 := B1x.cell 1 (v := .int .u16 bo) rfl; have b1_2_2 := B1x.cell 2 (v := .int .u16 st) rfl; have b1_2_3 := B1x.cell 3 (v := .int .i64 n) rfl))
  go_ret2
  exact ⟨rfl, G2⟩
set_option maxHeartbeats 1000000 in
theorem nxD601 (bo st : Nat) (n : Int) (t l : Nat) (h8 : (t : Int) < 256) (hb : bo < 65536) (hs : st < 65536) (w : World) (hc : Gn.ck 1 bo st n = 0) (ht : ¬ n ≤ (t : Int)) (hl : l ≤ 8) (ht0 : t = 1) (hq : st.testBit l = true) : Calls Tryz.prog 16 #[.agg #[.int .u8 1, .int .u16 bo, .int .u16 st, .int .i64 n], .int .u8 t, .int .i64 l] w fun e w' => e = .returned (.tuple #[.int .u8 1, .int .i64 0]) ∧ w.grownBy w' none := by
  subst ht0
  have hk := fun w => gcheckD 1 bo st n (by decide) hb hs w
  rw [hc] at hk
  have hi := Gn.ck_in hc
  have hn2 : 2 ≤ n := hi.2.1
  have hn3 : n ≤ 256 := hi.2.2
  clear hc hi
  have hl' : (l : Int) ≤ 8 := by omega
  have hp16 := shl16 (n := l) (by omega)
  have ha := and16 st (2 ^ l) hs (Lf.p16 (by omega))
  have hz : ¬ ((st &&& 2 ^ l : Nat) : Int) = 0 := by
    have h1 := @Lf.and_one st l
    intro e; have h2 := h1.1 (by omega); rw [hq] at h2; cases h2
  generalize st &&& 2 ^ l = y at ha hz
  generalize 2 ^ l = q at hp16 ha
  clear hq
  obtain ⟨W1, hW1, sz1, g1, B1⟩ := boxn w #[.int .u8 1, .int .u16 bo, .int .u16 st, .int .i64 n] 27
  have b1_1_0 := B1.cell 0 (v := .int .u8 1) rfl
  have b1_1_1 := B1.cell 1 (v := .int .u16 bo) rfl
  have b1_1_2 := B1.cell 2 (v := .int .u16 st) rfl
  have b1_1_3 := B1.cell 3 (v := .int .i64 n) rfl
  go_enter Tryz.func16, Tryz.ntmps16
  go_wp2_with (first | (go_at_call 14; (fail_if_success (guard_hyp g2)); refine (hk _).mono ?_; rintro e w2 ⟨rfl, g2⟩; have G2 := gb_trans g1 g2; have B1x := B1.kept g2 (by simp); clear b1_1_0 b1_1_1 b1_1_2 b1_1_3; have b1_2_0 := B1x.cell 0 (v := .int .u8 1) rfl; have b1_2_1 := B1x.cell 1 (v := .int .u16 bo) rfl; have b1_2_2 := B1x.cell 2 (v := .int .u16 st) rfl; have b1_2_3 := B1x.cell 3 (v := .int .i64 n) rfl))
  go_ret2
  exact ⟨rfl, G2⟩
set_option maxHeartbeats 1000000 in
theorem nxD611 (bo st : Nat) (n : Int) (t l : Nat) (h8 : (t : Int) < 256) (hb : bo < 65536) (hs : st < 65536) (w : World) (hc : Gn.ck 1 bo st n = 0) (ht : ¬ n ≤ (t : Int)) (hl : l ≤ 8) (ht0 : t = 1) (hq : st.testBit l = false) (hn : n ≤ 2) : Calls Tryz.prog 16 #[.agg #[.int .u8 1, .int .u16 bo, .int .u16 st, .int .i64 n], .int .u8 t, .int .i64 l] w fun e w' => e = .returned (.tuple #[.int .u8 0, .int .i64 0]) ∧ w.grownBy w' none := by
  subst ht0
  have hk := fun w => gcheckD 1 bo st n (by decide) hb hs w
  rw [hc] at hk
  have hi := Gn.ck_in hc
  have hn2 : 2 ≤ n := hi.2.1
  have hn3 : n ≤ 256 := hi.2.2
  clear hc hi
  have hl' : (l : Int) ≤ 8 := by omega
  have hp16 := shl16 (n := l) (by omega)
  have ha := and16 st (2 ^ l) hs (Lf.p16 (by omega))
  have hz : ((st &&& 2 ^ l : Nat) : Int) = 0 := by
    have h1 := @Lf.and_one st l
    rw [h1.2 hq]; rfl
  generalize st &&& 2 ^ l = y at ha hz
  generalize 2 ^ l = q at hp16 ha
  clear hq
  obtain ⟨W1, hW1, sz1, g1, B1⟩ := boxn w #[.int .u8 1, .int .u16 bo, .int .u16 st, .int .i64 n] 27
  have b1_1_0 := B1.cell 0 (v := .int .u8 1) rfl
  have b1_1_1 := B1.cell 1 (v := .int .u16 bo) rfl
  have b1_1_2 := B1.cell 2 (v := .int .u16 st) rfl
  have b1_1_3 := B1.cell 3 (v := .int .i64 n) rfl
  go_enter Tryz.func16, Tryz.ntmps16
  go_wp2_with (first | (go_at_call 14; (fail_if_success (guard_hyp g2)); refine (hk _).mono ?_; rintro e w2 ⟨rfl, g2⟩; have G2 := gb_trans g1 g2; have B1x := B1.kept g2 (by simp); clear b1_1_0 b1_1_1 b1_1_2 b1_1_3; have b1_2_0 := B1x.cell 0 (v := .int .u8 1) rfl; have b1_2_1 := B1x.cell 1 (v := .int .u16 bo) rfl; have b1_2_2 := B1x.cell 2 (v := .int .u16 st) rfl; have b1_2_3 := B1x.cell 3 (v := .int .i64 n) rfl))
  go_ret2
  exact ⟨rfl, G2⟩
set_option maxHeartbeats 1000000 in
theorem nxD621 (bo st : Nat) (n : Int) (t l : Nat) (h8 : (t : Int) < 256) (hb : bo < 65536) (hs : st < 65536) (w : World) (hc : Gn.ck 1 bo st n = 0) (ht : ¬ n ≤ (t : Int)) (hl : l ≤ 8) (ht0 : t = 1) (hq : st.testBit l = false) (hn : ¬ n ≤ 2) : Calls Tryz.prog 16 #[.agg #[.int .u8 1, .int .u16 bo, .int .u16 st, .int .i64 n], .int .u8 t, .int .i64 l] w fun e w' => e = .returned (.tuple #[.int .u8 2, .int .i64 0]) ∧ w.grownBy w' none := by
  subst ht0
  have hk := fun w => gcheckD 1 bo st n (by decide) hb hs w
  rw [hc] at hk
  have hi := Gn.ck_in hc
  have hn2 : 2 ≤ n := hi.2.1
  have hn3 : n ≤ 256 := hi.2.2
  clear hc hi
  have hl' : (l : Int) ≤ 8 := by omega
  have hp16 := shl16 (n := l) (by omega)
  have ha := and16 st (2 ^ l) hs (Lf.p16 (by omega))
  have hz : ((st &&& 2 ^ l : Nat) : Int) = 0 := by
    have h1 := @Lf.and_one st l
    rw [h1.2 hq]; rfl
  generalize st &&& 2 ^ l = y at ha hz
  generalize 2 ^ l = q at hp16 ha
  clear hq
  obtain ⟨W1, hW1, sz1, g1, B1⟩ := boxn w #[.int .u8 1, .int .u16 bo, .int .u16 st, .int .i64 n] 27
  have b1_1_0 := B1.cell 0 (v := .int .u8 1) rfl
  have b1_1_1 := B1.cell 1 (v := .int .u16 bo) rfl
  have b1_1_2 := B1.cell 2 (v := .int .u16 st) rfl
  have b1_1_3 := B1.cell 3 (v := .int .i64 n) rfl
  go_enter Tryz.func16, Tryz.ntmps16
  go_wp2_with (first | (go_at_call 14; (fail_if_success (guard_hyp g2)); refine (hk _).mono ?_; rintro e w2 ⟨rfl, g2⟩; have G2 := gb_trans g1 g2; have B1x := B1.kept g2 (by simp); clear b1_1_0 b1_1_1 b1_1_2 b1_1_3; have b1_2_0 := B1x.cell 0 (v := .int .u8 1) rfl; have b1_2_1 := B1x.cell 1 (v := .int .u16 bo) rfl; have b1_2_2 := B1x.cell 2 (v := .int .u16 st) rfl; have b1_2_3 := B1x.cell 3 (v := .int .i64 n) rfl))
  go_ret2
  exact ⟨rfl, G2⟩
set_option maxHeartbeats 1000000 in
theorem nxD701 (bo st : Nat) (n : Int) (t l : Nat) (h8 : (t : Int) < 256) (hb : bo < 65536) (hs : st < 65536) (w : World) (hc : Gn.ck 1 bo st n = 0) (ht : ¬ n ≤ (t : Int)) (hl : l ≤ 8) (ht0 : 2 ≤ t) (hn : n ≤ (t : Int) + 1) : Calls Tryz.prog 16 #[.agg #[.int .u8 1, .int .u16 bo, .int .u16 st, .int .i64 n], .int .u8 t, .int .i64 l] w fun e w' => e = .returned (.tuple #[.int .u8 0, .int .i64 0]) ∧ w.grownBy w' none := by
  have hk := fun w => gcheckD 1 bo st n (by decide) hb hs w
  rw [hc] at hk
  clear hc
  have hp16 := shl16 (n := l) (by omega)
  generalize 2 ^ l = q at hp16
  have hl' : (l : Int) ≤ 8 := by omega
  have t0 : ¬ (t : Int) = 0 := by omega
  have t1 : ¬ (t : Int) = 1 := by omega
  have t0' : ((t : Int) == 0) = false := by simp; omega
  have t1' : ((t : Int) == 1) = false := by simp; omega
  have hw : IntKind.i64.wrap ((t : Int) + 1) = (t : Int) + 1 := by rw [IntKind.wrap_i64]; omega
  obtain ⟨W1, hW1, sz1, g1, B1⟩ := boxn w #[.int .u8 1, .int .u16 bo, .int .u16 st, .int .i64 n] 27
  have b1_1_0 := B1.cell 0 (v := .int .u8 1) rfl
  have b1_1_1 := B1.cell 1 (v := .int .u16 bo) rfl
  have b1_1_2 := B1.cell 2 (v := .int .u16 st) rfl
  have b1_1_3 := B1.cell 3 (v := .int .i64 n) rfl
  go_enter Tryz.func16, Tryz.ntmps16
  go_wp2_with (first | (go_at_call 14; (fail_if_success (guard_hyp g2)); refine (hk _).mono ?_; rintro e w2 ⟨rfl, g2⟩; have G2 := gb_trans g1 g2; have B1x := B1.kept g2 (by simp); clear b1_1_0 b1_1_1 b1_1_2 b1_1_3; have b1_2_0 := B1x.cell 0 (v := .int .u8 1) rfl; have b1_2_1 := B1x.cell 1 (v := .int .u16 bo) rfl; have b1_2_2 := B1x.cell 2 (v := .int .u16 st) rfl; have b1_2_3 := B1x.cell 3 (v := .int .i64 n) rfl))
  go_ret2
  exact ⟨rfl, G2⟩
set_option maxHeartbeats 1000000 in
theorem nxD711 (bo st : Nat) (n : Int) (t l : Nat) (h8 : (t : Int) < 256) (hb : bo < 65536) (hs : st < 65536) (w : World) (hc : Gn.ck 1 bo st n = 0) (ht : ¬ n ≤ (t : Int)) (hl : l ≤ 8) (ht0 : 2 ≤ t) (hn : ¬ n ≤ (t : Int) + 1) : Calls Tryz.prog 16 #[.agg #[.int .u8 1, .int .u16 bo, .int .u16 st, .int .i64 n], .int .u8 t, .int .i64 l] w fun e w' => e = .returned (.tuple #[.int .u8 ((t + 1 : Nat) : Int), .int .i64 0]) ∧ w.grownBy w' none := by
  have hn3 := (Gn.ck_in hc).2.2
  have hk := fun w => gcheckD 1 bo st n (by decide) hb hs w
  rw [hc] at hk
  clear hc
  have hp16 := shl16 (n := l) (by omega)
  generalize 2 ^ l = q at hp16
  have hl' : (l : Int) ≤ 8 := by omega
  have t0 : ¬ (t : Int) = 0 := by omega
  have t1 : ¬ (t : Int) = 1 := by omega
  have t0' : ((t : Int) == 0) = false := by simp; omega
  have t1' : ((t : Int) == 1) = false := by simp; omega
  have hw : IntKind.i64.wrap ((t : Int) + 1) = (t : Int) + 1 := by rw [IntKind.wrap_i64]; omega
  have hw8 : IntKind.u8.wrap ((t : Int) + 1) = ((t + 1 : Nat) : Int) := by rw [IntKind.wrap_u8]; omega
  obtain ⟨W1, hW1, sz1, g1, B1⟩ := boxn w #[.int .u8 1, .int .u16 bo, .int .u16 st, .int .i64 n] 27
  have b1_1_0 := B1.cell 0 (v := .int .u8 1) rfl
  have b1_1_1 := B1.cell 1 (v := .int .u16 bo) rfl
  have b1_1_2 := B1.cell 2 (v := .int .u16 st) rfl
  have b1_1_3 := B1.cell 3 (v := .int .i64 n) rfl
  go_enter Tryz.func16, Tryz.ntmps16
  go_wp2_with (first | (go_at_call 14; (fail_if_success (guard_hyp g2)); refine (hk _).mono ?_; rintro e w2 ⟨rfl, g2⟩; have G2 := gb_trans g1 g2; have B1x := B1.kept g2 (by simp); clear b1_1_0 b1_1_1 b1_1_2 b1_1_3; have b1_2_0 := B1x.cell 0 (v := .int .u8 1) rfl; have b1_2_1 := B1x.cell 1 (v := .int .u16 bo) rfl; have b1_2_2 := B1x.cell 2 (v := .int .u16 st) rfl; have b1_2_3 := B1x.cell 3 (v := .int .i64 n) rfl))
  go_ret2
  exact ⟨rfl, G2⟩
theorem nxD1 (bo st : Nat) (n : Int) (t : Nat) (h8 : (t : Int) < 256) (l : Int) (hb : bo < 65536) (hs : st < 65536) (w : World) (hc : Gn.ck 1 bo st n = 0) (ht : ¬ n ≤ (t : Int)) : Calls Tryz.prog 16 #[.agg #[.int .u8 1, .int .u16 bo, .int .u16 st, .int .i64 n], .int .u8 t, .int .i64 l] w fun e w' => e = .returned (.tuple #[.int .u8 (Gn.nxV 1 bo st n t l : Nat), .int .i64 (Gn.nxE 1 bo st n t l : Nat)]) ∧ w.grownBy w' none := by
  have hi := Gn.ck_in hc
  have hE : Gn.nxE 1 bo st n t l = if l < 0 ∨ (8 : Int) < l then 2 else 0 := by
    unfold Gn.nxE
    rw [if_neg (by simp [hc]), if_neg ht]; rfl
  unfold Gn.nxV
  rw [hE]
  by_cases hl : l < 0
  · rw [if_pos (Or.inl hl)]
    exact nxD31 bo st n t h8 l hb hs w hc ht hl
  by_cases hm : (8 : Int) < l
  · rw [if_pos (Or.inr hm)]
    exact nxD41 bo st n t h8 l hb hs w hc ht hl hm
  have hno : ¬ (l < 0 ∨ (8 : Int) < l) := by omega
  rw [if_neg hno]
  clear hno hE
  obtain ⟨l, rfl⟩ := Int.eq_ofNat_of_zero_le (a := l) (by omega)
  have hl' : l ≤ 8 := by omega
  rw [if_pos rfl]
  simp only [Int.toNat_natCast]
  by_cases t0 : t = 0
  · rw [if_pos t0]
    by_cases hq : bo.testBit l = true
    · rw [if_pos hq]
      exact nxD501 bo st n t l h8 hb hs w hc ht hl' t0 hq
    · rw [if_neg hq]
      exact nxD511 bo st n t l h8 hb hs w hc ht hl' t0 (by simpa using hq)
  · rw [if_neg t0]
    by_cases t1 : t = 1
    · by_cases hq' : st.testBit l = true
      · rw [if_pos ⟨t1, hq'⟩]
        exact nxD601 bo st n t l h8 hb hs w hc ht hl' t1 hq'
      · rw [if_neg (by simp [hq'])]
        have hq : st.testBit l = false := by simpa using hq'
        unfold Gn.old
        by_cases hn : n ≤ 2
        · rw [if_pos (by omega)]
          exact nxD611 bo st n t l h8 hb hs w hc ht hl' t1 hq hn
        · rw [if_neg (by omega)]
          subst t1
          exact nxD621 bo st n 1 l h8 hb hs w hc ht hl' rfl hq hn
    · rw [if_neg (by simp [t1])]
      unfold Gn.old
      by_cases hn : n ≤ (t : Int) + 1
      · rw [if_pos (by omega)]
        exact nxD701 bo st n t l h8 hb hs w hc ht hl' (by omega) hn
      · rw [if_neg (by omega)]
        exact nxD711 bo st n t l h8 hb hs w hc ht hl' (by omega) hn
set_option maxHeartbeats 1000000 in
theorem nxD32 (bo st : Nat) (n : Int) (t : Nat) (h8 : (t : Int) < 256) (l : Int) (hb : bo < 65536) (hs : st < 65536) (w : World) (hc : Gn.ck 2 bo st n = 0) (ht : ¬ n ≤ (t : Int)) (hl : l < 0) : Calls Tryz.prog 16 #[.agg #[.int .u8 2, .int .u16 bo, .int .u16 st, .int .i64 n], .int .u8 t, .int .i64 l] w fun e w' => e = .returned (.tuple #[.int .u8 0, .int .i64 2]) ∧ w.grownBy w' none := by
  have hk := fun w => gcheckD 2 bo st n (by decide) hb hs w
  rw [hc] at hk
  clear hc
  obtain ⟨W1, hW1, sz1, g1, B1⟩ := boxn w #[.int .u8 2, .int .u16 bo, .int .u16 st, .int .i64 n] 27
  have b1_1_0 := B1.cell 0 (v := .int .u8 2) rfl
  have b1_1_1 := B1.cell 1 (v := .int .u16 bo) rfl
  have b1_1_2 := B1.cell 2 (v := .int .u16 st) rfl
  have b1_1_3 := B1.cell 3 (v := .int .i64 n) rfl
  go_enter Tryz.func16, Tryz.ntmps16
  go_wp2_with (first | (go_at_call 14; (fail_if_success (guard_hyp g2)); refine (hk _).mono ?_; rintro e w2 ⟨rfl, g2⟩; have G2 := gb_trans g1 g2; have B1x := B1.kept g2 (by simp); clear b1_1_0 b1_1_1 b1_1_2 b1_1_3; have b1_2_0 := B1x.cell 0 (v := .int .u8 2) rfl; have b1_2_1 := B1x.cell 1 (v := .int .u16 bo) rfl; have b1_2_2 := B1x.cell 2 (v := .int .u16 st) rfl; have b1_2_3 := B1x.cell 3 (v := .int .i64 n) rfl))
  go_ret2
  exact ⟨rfl, G2⟩
set_option maxHeartbeats 1000000 in
theorem nxD42 (bo st : Nat) (n : Int) (t : Nat) (h8 : (t : Int) < 256) (l : Int) (hb : bo < 65536) (hs : st < 65536) (w : World) (hc : Gn.ck 2 bo st n = 0) (ht : ¬ n ≤ (t : Int)) (hl : ¬ l < 0) (hm : 4 < l) : Calls Tryz.prog 16 #[.agg #[.int .u8 2, .int .u16 bo, .int .u16 st, .int .i64 n], .int .u8 t, .int .i64 l] w fun e w' => e = .returned (.tuple #[.int .u8 0, .int .i64 2]) ∧ w.grownBy w' none := by
  have hk := fun w => gcheckD 2 bo st n (by decide) hb hs w
  rw [hc] at hk
  clear hc
  obtain ⟨W1, hW1, sz1, g1, B1⟩ := boxn w #[.int .u8 2, .int .u16 bo, .int .u16 st, .int .i64 n] 27
  have b1_1_0 := B1.cell 0 (v := .int .u8 2) rfl
  have b1_1_1 := B1.cell 1 (v := .int .u16 bo) rfl
  have b1_1_2 := B1.cell 2 (v := .int .u16 st) rfl
  have b1_1_3 := B1.cell 3 (v := .int .i64 n) rfl
  go_enter Tryz.func16, Tryz.ntmps16
  go_wp2_with (first | (go_at_call 14; (fail_if_success (guard_hyp g2)); refine (hk _).mono ?_; rintro e w2 ⟨rfl, g2⟩; have G2 := gb_trans g1 g2; have B1x := B1.kept g2 (by simp); clear b1_1_0 b1_1_1 b1_1_2 b1_1_3; have b1_2_0 := B1x.cell 0 (v := .int .u8 2) rfl; have b1_2_1 := B1x.cell 1 (v := .int .u16 bo) rfl; have b1_2_2 := B1x.cell 2 (v := .int .u16 st) rfl; have b1_2_3 := B1x.cell 3 (v := .int .i64 n) rfl))
  go_ret2
  exact ⟨rfl, G2⟩
set_option maxHeartbeats 1000000 in
theorem nxD502 (bo st : Nat) (n : Int) (t l : Nat) (h8 : (t : Int) < 256) (hb : bo < 65536) (hs : st < 65536) (w : World) (hc : Gn.ck 2 bo st n = 0) (ht : ¬ n ≤ (t : Int)) (hl : l ≤ 4) (ht0 : t = 0) (hq : bo.testBit l = true) : Calls Tryz.prog 16 #[.agg #[.int .u8 2, .int .u16 bo, .int .u16 st, .int .i64 n], .int .u8 t, .int .i64 l] w fun e w' => e = .returned (.tuple #[.int .u8 1, .int .i64 0]) ∧ w.grownBy w' none := by
  subst ht0
  have hk := fun w => gcheckD 2 bo st n (by decide) hb hs w
  rw [hc] at hk
  have hi := Gn.ck_in hc
  have hn2 : 2 ≤ n := hi.2.1
  have hn3 : n ≤ 256 := hi.2.2
  clear hc hi
  have hl' : (l : Int) ≤ 4 := by omega
  have hp16 := shl16 (n := l) (by omega)
  have ha := and16 bo (2 ^ l) hb (Lf.p16 (by omega))
  have hz : ¬ ((bo &&& 2 ^ l : Nat) : Int) = 0 := by
    have h1 := @Lf.and_one bo l
    intro e; have h2 := h1.1 (by omega); rw [hq] at h2; cases h2
  generalize bo &&& 2 ^ l = y at ha hz
  generalize 2 ^ l = q at hp16 ha
  clear hq
  obtain ⟨W1, hW1, sz1, g1, B1⟩ := boxn w #[.int .u8 2, .int .u16 bo, .int .u16 st, .int .i64 n] 27
  have b1_1_0 := B1.cell 0 (v := .int .u8 2) rfl
  have b1_1_1 := B1.cell 1 (v := .int .u16 bo) rfl
  have b1_1_2 := B1.cell 2 (v := .int .u16 st) rfl
  have b1_1_3 := B1.cell 3 (v := .int .i64 n) rfl
  go_enter Tryz.func16, Tryz.ntmps16
  go_wp2_with (first | (go_at_call 14; (fail_if_success (guard_hyp g2)); refine (hk _).mono ?_; rintro e w2 ⟨rfl, g2⟩; have G2 := gb_trans g1 g2; have B1x := B1.kept g2 (by simp); clear b1_1_0 b1_1_1 b1_1_2 b1_1_3; have b1_2_0 := B1x.cell 0 (v := .int .u8 2) rfl; have b1_2_1 := B1x.cell 1 (v := .int .u16 bo) rfl; have b1_2_2 := B1x.cell 2 (v := .int .u16 st) rfl; have b1_2_3 := B1x.cell 3 (v := .int .i64 n) rfl))
  go_ret2
  exact ⟨rfl, G2⟩
set_option maxHeartbeats 1000000 in
theorem nxD512 (bo st : Nat) (n : Int) (t l : Nat) (h8 : (t : Int) < 256) (hb : bo < 65536) (hs : st < 65536) (w : World) (hc : Gn.ck 2 bo st n = 0) (ht : ¬ n ≤ (t : Int)) (hl : l ≤ 4) (ht0 : t = 0) (hq : bo.testBit l = false) : Calls Tryz.prog 16 #[.agg #[.int .u8 2, .int .u16 bo, .int .u16 st, .int .i64 n], .int .u8 t, .int .i64 l] w fun e w' => e = .returned (.tuple #[.int .u8 0, .int .i64 0]) ∧ w.grownBy w' none := by
  subst ht0
  have hk := fun w => gcheckD 2 bo st n (by decide) hb hs w
  rw [hc] at hk
  have hi := Gn.ck_in hc
  have hn2 : 2 ≤ n := hi.2.1
  have hn3 : n ≤ 256 := hi.2.2
  clear hc hi
  have hl' : (l : Int) ≤ 4 := by omega
  have hp16 := shl16 (n := l) (by omega)
  have ha := and16 bo (2 ^ l) hb (Lf.p16 (by omega))
  have hz : ((bo &&& 2 ^ l : Nat) : Int) = 0 := by
    have h1 := @Lf.and_one bo l
    rw [h1.2 hq]; rfl
  generalize bo &&& 2 ^ l = y at ha hz
  generalize 2 ^ l = q at hp16 ha
  clear hq
  obtain ⟨W1, hW1, sz1, g1, B1⟩ := boxn w #[.int .u8 2, .int .u16 bo, .int .u16 st, .int .i64 n] 27
  have b1_1_0 := B1.cell 0 (v := .int .u8 2) rfl
  have b1_1_1 := B1.cell 1 (v := .int .u16 bo) rfl
  have b1_1_2 := B1.cell 2 (v := .int .u16 st) rfl
  have b1_1_3 := B1.cell 3 (v := .int .i64 n) rfl
  go_enter Tryz.func16, Tryz.ntmps16
  go_wp2_with (first | (go_at_call 14; (fail_if_success (guard_hyp g2)); refine (hk _).mono ?_; rintro e w2 ⟨rfl, g2⟩; have G2 := gb_trans g1 g2; have B1x := B1.kept g2 (by simp); clear b1_1_0 b1_1_1 b1_1_2 b1_1_3; have b1_2_0 := B1x.cell 0 (v := .int .u8 2) rfl; have b1_2_1 := B1x.cell 1 (v := .int .u16 bo) rfl; have b1_2_2 := B1x.cell 2 (v := .int .u16 st) rfl; have b1_2_3 := B1x.cell 3 (v := .int .i64 n) rfl))
  go_ret2
  exact ⟨rfl, G2⟩
set_option maxHeartbeats 1000000 in
theorem nxD602 (bo st : Nat) (n : Int) (t l : Nat) (h8 : (t : Int) < 256) (hb : bo < 65536) (hs : st < 65536) (w : World) (hc : Gn.ck 2 bo st n = 0) (ht : ¬ n ≤ (t : Int)) (hl : l ≤ 4) (ht0 : t = 1) (hq : st.testBit l = true) : Calls Tryz.prog 16 #[.agg #[.int .u8 2, .int .u16 bo, .int .u16 st, .int .i64 n], .int .u8 t, .int .i64 l] w fun e w' => e = .returned (.tuple #[.int .u8 1, .int .i64 0]) ∧ w.grownBy w' none := by
  subst ht0
  have hk := fun w => gcheckD 2 bo st n (by decide) hb hs w
  rw [hc] at hk
  have hi := Gn.ck_in hc
  have hn2 : 2 ≤ n := hi.2.1
  have hn3 : n ≤ 256 := hi.2.2
  clear hc hi
  have hl' : (l : Int) ≤ 4 := by omega
  have hp16 := shl16 (n := l) (by omega)
  have ha := and16 st (2 ^ l) hs (Lf.p16 (by omega))
  have hz : ¬ ((st &&& 2 ^ l : Nat) : Int) = 0 := by
    have h1 := @Lf.and_one st l
    intro e; have h2 := h1.1 (by omega); rw [hq] at h2; cases h2
  generalize st &&& 2 ^ l = y at ha hz
  generalize 2 ^ l = q at hp16 ha
  clear hq
  obtain ⟨W1, hW1, sz1, g1, B1⟩ := boxn w #[.int .u8 2, .int .u16 bo, .int .u16 st, .int .i64 n] 27
  have b1_1_0 := B1.cell 0 (v := .int .u8 2) rfl
  have b1_1_1 := B1.cell 1 (v := .int .u16 bo) rfl
  have b1_1_2 := B1.cell 2 (v := .int .u16 st) rfl
  have b1_1_3 := B1.cell 3 (v := .int .i64 n) rfl
  go_enter Tryz.func16, Tryz.ntmps16
  go_wp2_with (first | (go_at_call 14; (fail_if_success (guard_hyp g2)); refine (hk _).mono ?_; rintro e w2 ⟨rfl, g2⟩; have G2 := gb_trans g1 g2; have B1x := B1.kept g2 (by simp); clear b1_1_0 b1_1_1 b1_1_2 b1_1_3; have b1_2_0 := B1x.cell 0 (v := .int .u8 2) rfl; have b1_2_1 := B1x.cell 1 (v := .int .u16 bo) rfl; have b1_2_2 := B1x.cell 2 (v := .int .u16 st) rfl; have b1_2_3 := B1x.cell 3 (v := .int .i64 n) rfl))
  go_ret2
  exact ⟨rfl, G2⟩
set_option maxHeartbeats 1000000 in
theorem nxD612 (bo st : Nat) (n : Int) (t l : Nat) (h8 : (t : Int) < 256) (hb : bo < 65536) (hs : st < 65536) (w : World) (hc : Gn.ck 2 bo st n = 0) (ht : ¬ n ≤ (t : Int)) (hl : l ≤ 4) (ht0 : t = 1) (hq : st.testBit l = false) (hn : n ≤ 2) : Calls Tryz.prog 16 #[.agg #[.int .u8 2, .int .u16 bo, .int .u16 st, .int .i64 n], .int .u8 t, .int .i64 l] w fun e w' => e = .returned (.tuple #[.int .u8 0, .int .i64 0]) ∧ w.grownBy w' none := by
  subst ht0
  have hk := fun w => gcheckD 2 bo st n (by decide) hb hs w
  rw [hc] at hk
  have hi := Gn.ck_in hc
  have hn2 : 2 ≤ n := hi.2.1
  have hn3 : n ≤ 256 := hi.2.2
  clear hc hi
  have hl' : (l : Int) ≤ 4 := by omega
  have hp16 := shl16 (n := l) (by omega)
  have ha := and16 st (2 ^ l) hs (Lf.p16 (by omega))
  have hz : ((st &&& 2 ^ l : Nat) : Int) = 0 := by
    have h1 := @Lf.and_one st l
    rw [h1.2 hq]; rfl
  generalize st &&& 2 ^ l = y at ha hz
  generalize 2 ^ l = q at hp16 ha
  clear hq
  obtain ⟨W1, hW1, sz1, g1, B1⟩ := boxn w #[.int .u8 2, .int .u16 bo, .int .u16 st, .int .i64 n] 27
  have b1_1_0 := B1.cell 0 (v := .int .u8 2) rfl
  have b1_1_1 := B1.cell 1 (v := .int .u16 bo) rfl
  have b1_1_2 := B1.cell 2 (v := .int .u16 st) rfl
  have b1_1_3 := B1.cell 3 (v := .int .i64 n) rfl
  go_enter Tryz.func16, Tryz.ntmps16
  go_wp2_with (first | (go_at_call 14; (fail_if_success (guard_hyp g2)); refine (hk _).mono ?_; rintro e w2 ⟨rfl, g2⟩; have G2 := gb_trans g1 g2; have B1x := B1.kept g2 (by simp); clear b1_1_0 b1_1_1 b1_1_2 b1_1_3; have b1_2_0 := B1x.cell 0 (v := .int .u8 2) rfl; have b1_2_1 := B1x.cell 1 (v := .int .u16 bo) rfl; have b1_2_2 := B1x.cell 2 (v := .int .u16 st) rfl; have b1_2_3 := B1x.cell 3 (v := .int .i64 n) rfl))
  go_ret2
  exact ⟨rfl, G2⟩
set_option maxHeartbeats 1000000 in
theorem nxD622 (bo st : Nat) (n : Int) (t l : Nat) (h8 : (t : Int) < 256) (hb : bo < 65536) (hs : st < 65536) (w : World) (hc : Gn.ck 2 bo st n = 0) (ht : ¬ n ≤ (t : Int)) (hl : l ≤ 4) (ht0 : t = 1) (hq : st.testBit l = false) (hn : ¬ n ≤ 2) : Calls Tryz.prog 16 #[.agg #[.int .u8 2, .int .u16 bo, .int .u16 st, .int .i64 n], .int .u8 t, .int .i64 l] w fun e w' => e = .returned (.tuple #[.int .u8 2, .int .i64 0]) ∧ w.grownBy w' none := by
  subst ht0
  have hk := fun w => gcheckD 2 bo st n (by decide) hb hs w
  rw [hc] at hk
  have hi := Gn.ck_in hc
  have hn2 : 2 ≤ n := hi.2.1
  have hn3 : n ≤ 256 := hi.2.2
  clear hc hi
  have hl' : (l : Int) ≤ 4 := by omega
  have hp16 := shl16 (n := l) (by omega)
  have ha := and16 st (2 ^ l) hs (Lf.p16 (by omega))
  have hz : ((st &&& 2 ^ l : Nat) : Int) = 0 := by
    have h1 := @Lf.and_one st l
    rw [h1.2 hq]; rfl
  generalize st &&& 2 ^ l = y at ha hz
  generalize 2 ^ l = q at hp16 ha
  clear hq
  obtain ⟨W1, hW1, sz1, g1, B1⟩ := boxn w #[.int .u8 2, .int .u16 bo, .int .u16 st, .int .i64 n] 27
  have b1_1_0 := B1.cell 0 (v := .int .u8 2) rfl
  have b1_1_1 := B1.cell 1 (v := .int .u16 bo) rfl
  have b1_1_2 := B1.cell 2 (v := .int .u16 st) rfl
  have b1_1_3 := B1.cell 3 (v := .int .i64 n) rfl
  go_enter Tryz.func16, Tryz.ntmps16
  go_wp2_with (first | (go_at_call 14; (fail_if_success (guard_hyp g2)); refine (hk _).mono ?_; rintro e w2 ⟨rfl, g2⟩; have G2 := gb_trans g1 g2; have B1x := B1.kept g2 (by simp); clear b1_1_0 b1_1_1 b1_1_2 b1_1_3; have b1_2_0 := B1x.cell 0 (v := .int .u8 2) rfl; have b1_2_1 := B1x.cell 1 (v := .int .u16 bo) rfl; have b1_2_2 := B1x.cell 2 (v := .int .u16 st) rfl; have b1_2_3 := B1x.cell 3 (v := .int .i64 n) rfl))
  go_ret2
  exact ⟨rfl, G2⟩
set_option maxHeartbeats 1000000 in
theorem nxD702 (bo st : Nat) (n : Int) (t l : Nat) (h8 : (t : Int) < 256) (hb : bo < 65536) (hs : st < 65536) (w : World) (hc : Gn.ck 2 bo st n = 0) (ht : ¬ n ≤ (t : Int)) (hl : l ≤ 4) (ht0 : 2 ≤ t) (hn : n ≤ (t : Int) + 1) : Calls Tryz.prog 16 #[.agg #[.int .u8 2, .int .u16 bo, .int .u16 st, .int .i64 n], .int .u8 t, .int .i64 l] w fun e w' => e = .returned (.tuple #[.int .u8 0, .int .i64 0]) ∧ w.grownBy w' none := by
  have hk := fun w => gcheckD 2 bo st n (by decide) hb hs w
  rw [hc] at hk
  clear hc
  have hp16 := shl16 (n := l) (by omega)
  generalize 2 ^ l = q at hp16
  have hl' : (l : Int) ≤ 4 := by omega
  have t0 : ¬ (t : Int) = 0 := by omega
  have t1 : ¬ (t : Int) = 1 := by omega
  have t0' : ((t : Int) == 0) = false := by simp; omega
  have t1' : ((t : Int) == 1) = false := by simp; omega
  have hw : IntKind.i64.wrap ((t : Int) + 1) = (t : Int) + 1 := by rw [IntKind.wrap_i64]; omega
  obtain ⟨W1, hW1, sz1, g1, B1⟩ := boxn w #[.int .u8 2, .int .u16 bo, .int .u16 st, .int .i64 n] 27
  have b1_1_0 := B1.cell 0 (v := .int .u8 2) rfl
  have b1_1_1 := B1.cell 1 (v := .int .u16 bo) rfl
  have b1_1_2 := B1.cell 2 (v := .int .u16 st) rfl
  have b1_1_3 := B1.cell 3 (v := .int .i64 n) rfl
  go_enter Tryz.func16, Tryz.ntmps16
  go_wp2_with (first | (go_at_call 14; (fail_if_success (guard_hyp g2)); refine (hk _).mono ?_; rintro e w2 ⟨rfl, g2⟩; have G2 := gb_trans g1 g2; have B1x := B1.kept g2 (by simp); clear b1_1_0 b1_1_1 b1_1_2 b1_1_3; have b1_2_0 := B1x.cell 0 (v := .int .u8 2) rfl; have b1_2_1 := B1x.cell 1 (v := .int .u16 bo) rfl; have b1_2_2 := B1x.cell 2 (v := .int .u16 st) rfl; have b1_2_3 := B1x.cell 3 (v := .int .i64 n) rfl))
  go_ret2
  exact ⟨rfl, G2⟩
set_option maxHeartbeats 1000000 in
theorem nxD712 (bo st : Nat) (n : Int) (t l : Nat) (h8 : (t : Int) < 256) (hb : bo < 65536) (hs : st < 65536) (w : World) (hc : Gn.ck 2 bo st n = 0) (ht : ¬ n ≤ (t : Int)) (hl : l ≤ 4) (ht0 : 2 ≤ t) (hn : ¬ n ≤ (t : Int) + 1) : Calls Tryz.prog 16 #[.agg #[.int .u8 2, .int .u16 bo, .int .u16 st, .int .i64 n], .int .u8 t, .int .i64 l] w fun e w' => e = .returned (.tuple #[.int .u8 ((t + 1 : Nat) : Int), .int .i64 0]) ∧ w.grownBy w' none := by
  have hn3 := (Gn.ck_in hc).2.2
  have hk := fun w => gcheckD 2 bo st n (by decide) hb hs w
  rw [hc] at hk
  clear hc
  have hp16 := shl16 (n := l) (by omega)
  generalize 2 ^ l = q at hp16
  have hl' : (l : Int) ≤ 4 := by omega
  have t0 : ¬ (t : Int) = 0 := by omega
  have t1 : ¬ (t : Int) = 1 := by omega
  have t0' : ((t : Int) == 0) = false := by simp; omega
  have t1' : ((t : Int) == 1) = false := by simp; omega
  have hw : IntKind.i64.wrap ((t : Int) + 1) = (t : Int) + 1 := by rw [IntKind.wrap_i64]; omega
  have hw8 : IntKind.u8.wrap ((t : Int) + 1) = ((t + 1 : Nat) : Int) := by rw [IntKind.wrap_u8]; omega
  obtain ⟨W1, hW1, sz1, g1, B1⟩ := boxn w #[.int .u8 2, .int .u16 bo, .int .u16 st, .int .i64 n] 27
  have b1_1_0 := B1.cell 0 (v := .int .u8 2) rfl
  have b1_1_1 := B1.cell 1 (v := .int .u16 bo) rfl
  have b1_1_2 := B1.cell 2 (v := .int .u16 st) rfl
  have b1_1_3 := B1.cell 3 (v := .int .i64 n) rfl
  go_enter Tryz.func16, Tryz.ntmps16
  go_wp2_with (first | (go_at_call 14; (fail_if_success (guard_hyp g2)); refine (hk _).mono ?_; rintro e w2 ⟨rfl, g2⟩; have G2 := gb_trans g1 g2; have B1x := B1.kept g2 (by simp); clear b1_1_0 b1_1_1 b1_1_2 b1_1_3; have b1_2_0 := B1x.cell 0 (v := .int .u8 2) rfl; have b1_2_1 := B1x.cell 1 (v := .int .u16 bo) rfl; have b1_2_2 := B1x.cell 2 (v := .int .u16 st) rfl; have b1_2_3 := B1x.cell 3 (v := .int .i64 n) rfl))
  go_ret2
  exact ⟨rfl, G2⟩
theorem nxD2' (bo st : Nat) (n : Int) (t : Nat) (h8 : (t : Int) < 256) (l : Int) (hb : bo < 65536) (hs : st < 65536) (w : World) (hc : Gn.ck 2 bo st n = 0) (ht : ¬ n ≤ (t : Int)) : Calls Tryz.prog 16 #[.agg #[.int .u8 2, .int .u16 bo, .int .u16 st, .int .i64 n], .int .u8 t, .int .i64 l] w fun e w' => e = .returned (.tuple #[.int .u8 (Gn.nxV 2 bo st n t l : Nat), .int .i64 (Gn.nxE 2 bo st n t l : Nat)]) ∧ w.grownBy w' none := by
  have hi := Gn.ck_in hc
  have hE : Gn.nxE 2 bo st n t l = if l < 0 ∨ (4 : Int) < l then 2 else 0 := by
    unfold Gn.nxE
    rw [if_neg (by simp [hc]), if_neg ht]; rfl
  unfold Gn.nxV
  rw [hE]
  by_cases hl : l < 0
  · rw [if_pos (Or.inl hl)]
    exact nxD32 bo st n t h8 l hb hs w hc ht hl
  by_cases hm : (4 : Int) < l
  · rw [if_pos (Or.inr hm)]
    exact nxD42 bo st n t h8 l hb hs w hc ht hl hm
  have hno : ¬ (l < 0 ∨ (4 : Int) < l) := by omega
  rw [if_neg hno]
  clear hno hE
  obtain ⟨l, rfl⟩ := Int.eq_ofNat_of_zero_le (a := l) (by omega)
  have hl' : l ≤ 4 := by omega
  rw [if_pos rfl]
  simp only [Int.toNat_natCast]
  by_cases t0 : t = 0
  · rw [if_pos t0]
    by_cases hq : bo.testBit l = true
    · rw [if_pos hq]
      exact nxD502 bo st n t l h8 hb hs w hc ht hl' t0 hq
    · rw [if_neg hq]
      exact nxD512 bo st n t l h8 hb hs w hc ht hl' t0 (by simpa using hq)
  · rw [if_neg t0]
    by_cases t1 : t = 1
    · by_cases hq' : st.testBit l = true
      · rw [if_pos ⟨t1, hq'⟩]
        exact nxD602 bo st n t l h8 hb hs w hc ht hl' t1 hq'
      · rw [if_neg (by simp [hq'])]
        have hq : st.testBit l = false := by simpa using hq'
        unfold Gn.old
        by_cases hn : n ≤ 2
        · rw [if_pos (by omega)]
          exact nxD612 bo st n t l h8 hb hs w hc ht hl' t1 hq hn
        · rw [if_neg (by omega)]
          subst t1
          exact nxD622 bo st n 1 l h8 hb hs w hc ht hl' rfl hq hn
    · rw [if_neg (by simp [t1])]
      unfold Gn.old
      by_cases hn : n ≤ (t : Int) + 1
      · rw [if_pos (by omega)]
        exact nxD702 bo st n t l h8 hb hs w hc ht hl' (by omega) hn
      · rw [if_neg (by omega)]
        exact nxD712 bo st n t l h8 hb hs w hc ht hl' (by omega) hn
set_option maxHeartbeats 1000000 in
theorem nxD33 (bo st : Nat) (n : Int) (t : Nat) (h8 : (t : Int) < 256) (l : Int) (hb : bo < 65536) (hs : st < 65536) (w : World) (hc : Gn.ck 3 bo st n = 0) (ht : ¬ n ≤ (t : Int)) (hl : l < 0) : Calls Tryz.prog 16 #[.agg #[.int .u8 3, .int .u16 bo, .int .u16 st, .int .i64 n], .int .u8 t, .int .i64 l] w fun e w' => e = .returned (.tuple #[.int .u8 0, .int .i64 2]) ∧ w.grownBy w' none := by
  have hk := fun w => gcheckD 3 bo st n (by decide) hb hs w
  rw [hc] at hk
  clear hc
  obtain ⟨W1, hW1, sz1, g1, B1⟩ := boxn w #[.int .u8 3, .int .u16 bo, .int .u16 st, .int .i64 n] 27
  have b1_1_0 := B1.cell 0 (v := .int .u8 3) rfl
  have b1_1_1 := B1.cell 1 (v := .int .u16 bo) rfl
  have b1_1_2 := B1.cell 2 (v := .int .u16 st) rfl
  have b1_1_3 := B1.cell 3 (v := .int .i64 n) rfl
  go_enter Tryz.func16, Tryz.ntmps16
  go_wp2_with (first | (go_at_call 14; (fail_if_success (guard_hyp g2)); refine (hk _).mono ?_; rintro e w2 ⟨rfl, g2⟩; have G2 := gb_trans g1 g2; have B1x := B1.kept g2 (by simp); clear b1_1_0 b1_1_1 b1_1_2 b1_1_3; have b1_2_0 := B1x.cell 0 (v := .int .u8 3) rfl; have b1_2_1 := B1x.cell 1 (v := .int .u16 bo) rfl; have b1_2_2 := B1x.cell 2 (v := .int .u16 st) rfl; have b1_2_3 := B1x.cell 3 (v := .int .i64 n) rfl))
  go_ret2
  exact ⟨rfl, G2⟩
set_option maxHeartbeats 1000000 in
theorem nxD43 (bo st : Nat) (n : Int) (t : Nat) (h8 : (t : Int) < 256) (l : Int) (hb : bo < 65536) (hs : st < 65536) (w : World) (hc : Gn.ck 3 bo st n = 0) (ht : ¬ n ≤ (t : Int)) (hl : ¬ l < 0) (hm : 6 < l) : Calls Tryz.prog 16 #[.agg #[.int .u8 3, .int .u16 bo, .int .u16 st, .int .i64 n], .int .u8 t, .int .i64 l] w fun e w' => e = .returned (.tuple #[.int .u8 0, .int .i64 2]) ∧ w.grownBy w' none := by
  have hk := fun w => gcheckD 3 bo st n (by decide) hb hs w
  rw [hc] at hk
  clear hc
  obtain ⟨W1, hW1, sz1, g1, B1⟩ := boxn w #[.int .u8 3, .int .u16 bo, .int .u16 st, .int .i64 n] 27
  have b1_1_0 := B1.cell 0 (v := .int .u8 3) rfl
  have b1_1_1 := B1.cell 1 (v := .int .u16 bo) rfl
  have b1_1_2 := B1.cell 2 (v := .int .u16 st) rfl
  have b1_1_3 := B1.cell 3 (v := .int .i64 n) rfl
  go_enter Tryz.func16, Tryz.ntmps16
  go_wp2_with (first | (go_at_call 14; (fail_if_success (guard_hyp g2)); refine (hk _).mono ?_; rintro e w2 ⟨rfl, g2⟩; have G2 := gb_trans g1 g2; have B1x := B1.kept g2 (by simp); clear b1_1_0 b1_1_1 b1_1_2 b1_1_3; have b1_2_0 := B1x.cell 0 (v := .int .u8 3) rfl; have b1_2_1 := B1x.cell 1 (v := .int .u16 bo) rfl; have b1_2_2 := B1x.cell 2 (v := .int .u16 st) rfl; have b1_2_3 := B1x.cell 3 (v := .int .i64 n) rfl))
  go_ret2
  exact ⟨rfl, G2⟩
set_option maxHeartbeats 1000000 in
theorem nxD503 (bo st : Nat) (n : Int) (t l : Nat) (h8 : (t : Int) < 256) (hb : bo < 65536) (hs : st < 65536) (w : World) (hc : Gn.ck 3 bo st n = 0) (ht : ¬ n ≤ (t : Int)) (hl : l ≤ 6) (ht0 : t = 0) (hq : bo.testBit l = true) : Calls Tryz.prog 16 #[.agg #[.int .u8 3, .int .u16 bo, .int .u16 st, .int .i64 n], .int .u8 t, .int .i64 l] w fun e w' => e = .returned (.tuple #[.int .u8 1, .int .i64 0]) ∧ w.grownBy w' none := by
  subst ht0
  have hk := fun w => gcheckD 3 bo st n (by decide) hb hs w
  rw [hc] at hk
  have hi := Gn.ck_in hc
  have hn2 : 2 ≤ n := hi.2.1
  have hn3 : n ≤ 256 := hi.2.2
  clear hc hi
  have hl' : (l : Int) ≤ 6 := by omega
  have hp16 := shl16 (n := l) (by omega)
  have ha := and16 bo (2 ^ l) hb (Lf.p16 (by omega))
  have hz : ¬ ((bo &&& 2 ^ l : Nat) : Int) = 0 := by
    have h1 := @Lf.and_one bo l
    intro e; have h2 := h1.1 (by omega); rw [hq] at h2; cases h2
  generalize bo &&& 2 ^ l = y at ha hz
  generalize 2 ^ l = q at hp16 ha
  clear hq
  obtain ⟨W1, hW1, sz1, g1, B1⟩ := boxn w #[.int .u8 3, .int .u16 bo, .int .u16 st, .int .i64 n] 27
  have b1_1_0 := B1.cell 0 (v := .int .u8 3) rfl
  have b1_1_1 := B1.cell 1 (v := .int .u16 bo) rfl
  have b1_1_2 := B1.cell 2 (v := .int .u16 st) rfl
  have b1_1_3 := B1.cell 3 (v := .int .i64 n) rfl
  go_enter Tryz.func16, Tryz.ntmps16
  go_wp2_with (first | (go_at_call 14; (fail_if_success (guard_hyp g2)); refine (hk _).mono ?_; rintro e w2 ⟨rfl, g2⟩; have G2 := gb_trans g1 g2; have B1x := B1.kept g2 (by simp); clear b1_1_0 b1_1_1 b1_1_2 b1_1_3; have b1_2_0 := B1x.cell 0 (v := .int .u8 3) rfl; have b1_2_1 := B1x.cell 1 (v := .int .u16 bo) rfl; have b1_2_2 := B1x.cell 2 (v := .int .u16 st) rfl; have b1_2_3 := B1x.cell 3 (v := .int .i64 n) rfl))
  go_ret2
  exact ⟨rfl, G2⟩
set_option maxHeartbeats 1000000 in
theorem nxD513 (bo st : Nat) (n : Int) (t l : Nat) (h8 : (t : Int) < 256) (hb : bo < 65536) (hs : st < 65536) (w : World) (hc : Gn.ck 3 bo st n = 0) (ht : ¬ n ≤ (t : Int)) (hl : l ≤ 6) (ht0 : t = 0) (hq : bo.testBit l = false) : Calls Tryz.prog 16 #[.agg #[.int .u8 3, .int .u16 bo, .int .u16 st, .int .i64 n], .int .u8 t, .int .i64 l] w fun e w' => e = .returned (.tuple #[.int .u8 0, .int .i64 0]) ∧ w.grownBy w' none := by
  subst ht0
  have hk := fun w => gcheckD 3 bo st n (by decide) hb hs w
  rw [hc] at hk
  have hi := Gn.ck_in hc
  have hn2 : 2 ≤ n := hi.2.1
  have hn3 : n ≤ 256 := hi.2.2
  clear hc hi
  have hl' : (l : Int) ≤ 6 := by omega
  have hp16 := shl16 (n := l) (by omega)
  have ha := and16 bo (2 ^ l) hb (Lf.p16 (by omega))
  have hz : ((bo &&& 2 ^ l : Nat) : Int) = 0 := by
    have h1 := @Lf.and_one bo l
    rw [h1.2 hq]; rfl
  generalize bo &&& 2 ^ l = y at ha hz
  generalize 2 ^ l = q at hp16 ha
  clear hq
  obtain ⟨W1, hW1, sz1, g1, B1⟩ := boxn w #[.int .u8 3, .int .u16 bo, .int .u16 st, .int .i64 n] 27
  have b1_1_0 := B1.cell 0 (v := .int .u8 3) rfl
  have b1_1_1 := B1.cell 1 (v := .int .u16 bo) rfl
  have b1_1_2 := B1.cell 2 (v := .int .u16 st) rfl
  have b1_1_3 := B1.cell 3 (v := .int .i64 n) rfl
  go_enter Tryz.func16, Tryz.ntmps16
  go_wp2_with (first | (go_at_call 14; (fail_if_success (guard_hyp g2)); refine (hk _).mono ?_; rintro e w2 ⟨rfl, g2⟩; have G2 := gb_trans g1 g2; have B1x := B1.kept g2 (by simp); clear b1_1_0 b1_1_1 b1_1_2 b1_1_3; have b1_2_0 := B1x.cell 0 (v := .int .u8 3) rfl; have b1_2_1 := B1x.cell 1 (v := .int .u16 bo) rfl; have b1_2_2 := B1x.cell 2 (v := .int .u16 st) rfl; have b1_2_3 := B1x.cell 3 (v := .int .i64 n) rfl))
  go_ret2
  exact ⟨rfl, G2⟩
set_option maxHeartbeats 1000000 in
theorem nxD603 (bo st : Nat) (n : Int) (t l : Nat) (h8 : (t : Int) < 256) (hb : bo < 65536) (hs : st < 65536) (w : World) (hc : Gn.ck 3 bo st n = 0) (ht : ¬ n ≤ (t : Int)) (hl : l ≤ 6) (ht0 : t = 1) (hq : st.testBit l = true) : Calls Tryz.prog 16 #[.agg #[.int .u8 3, .int .u16 bo, .int .u16 st, .int .i64 n], .int .u8 t, .int .i64 l] w fun e w' => e = .returned (.tuple #[.int .u8 1, .int .i64 0]) ∧ w.grownBy w' none := by
  subst ht0
  have hk := fun w => gcheckD 3 bo st n (by decide) hb hs w
  rw [hc] at hk
  have hi := Gn.ck_in hc
  have hn2 : 2 ≤ n := hi.2.1
  have hn3 : n ≤ 256 := hi.2.2
  clear hc hi
  have hl' : (l : Int) ≤ 6 := by omega
  have hp16 := shl16 (n := l) (by omega)
  have ha := and16 st (2 ^ l) hs (Lf.p16 (by omega))
  have hz : ¬ ((st &&& 2 ^ l : Nat) : Int) = 0 := by
    have h1 := @Lf.and_one st l
    intro e; have h2 := h1.1 (by omega); rw [hq] at h2; cases h2
  generalize st &&& 2 ^ l = y at ha hz
  generalize 2 ^ l = q at hp16 ha
  clear hq
  obtain ⟨W1, hW1, sz1, g1, B1⟩ := boxn w #[.int .u8 3, .int .u16 bo, .int .u16 st, .int .i64 n] 27
  have b1_1_0 := B1.cell 0 (v := .int .u8 3) rfl
  have b1_1_1 := B1.cell 1 (v := .int .u16 bo) rfl
  have b1_1_2 := B1.cell 2 (v := .int .u16 st) rfl
  have b1_1_3 := B1.cell 3 (v := .int .i64 n) rfl
  go_enter Tryz.func16, Tryz.ntmps16
  go_wp2_with (first | (go_at_call 14; (fail_if_success (guard_hyp g2)); refine (hk _).mono ?_; rintro e w2 ⟨rfl, g2⟩; have G2 := gb_trans g1 g2; have B1x := B1.kept g2 (by simp); clear b1_1_0 b1_1_1 b1_1_2 b1_1_3; have b1_2_0 := B1x.cell 0 (v := .int .u8 3) rfl; have b1_2_1 := B1x.cell 1 (v := .int .u16 bo) rfl; have b1_2_2 := B1x.cell 2 (v := .int .u16 st) rfl; have b1_2_3 := B1x.cell 3 (v := .int .i64 n) rfl))
  go_ret2
  exact ⟨rfl, G2⟩
set_option maxHeartbeats 1000000 in
theorem nxD613 (bo st : Nat) (n : Int) (t l : Nat) (h8 : (t : Int) < 256) (hb : bo < 65536) (hs : st < 65536) (w : World) (hc : Gn.ck 3 bo st n = 0) (ht : ¬ n ≤ (t : Int)) (hl : l ≤ 6) (ht0 : t = 1) (hq : st.testBit l = false) (hn : n ≤ 2) : Calls Tryz.prog 16 #[.agg #[.int .u8 3, .int .u16 bo, .int .u16 st, .int .i64 n], .int .u8 t, .int .i64 l] w fun e w' => e = .returned (.tuple #[.int .u8 0, .int .i64 0]) ∧ w.grownBy w' none := by
  subst ht0
  have hk := fun w => gcheckD 3 bo st n (by decide) hb hs w
  rw [hc] at hk
  have hi := Gn.ck_in hc
  have hn2 : 2 ≤ n := hi.2.1
  have hn3 : n ≤ 256 := hi.2.2
  clear hc hi
  have hl' : (l : Int) ≤ 6 := by omega
  have hp16 := shl16 (n := l) (by omega)
  have ha := and16 st (2 ^ l) hs (Lf.p16 (by omega))
  have hz : ((st &&& 2 ^ l : Nat) : Int) = 0 := by
    have h1 := @Lf.and_one st l
    rw [h1.2 hq]; rfl
  generalize st &&& 2 ^ l = y at ha hz
  generalize 2 ^ l = q at hp16 ha
  clear hq
  obtain ⟨W1, hW1, sz1, g1, B1⟩ := boxn w #[.int .u8 3, .int .u16 bo, .int .u16 st, .int .i64 n] 27
  have b1_1_0 := B1.cell 0 (v := .int .u8 3) rfl
  have b1_1_1 := B1.cell 1 (v := .int .u16 bo) rfl
  have b1_1_2 := B1.cell 2 (v := .int .u16 st) rfl
  have b1_1_3 := B1.cell 3 (v := .int .i64 n) rfl
  go_enter Tryz.func16, Tryz.ntmps16
  go_wp2_with (first | (go_at_call 14; (fail_if_success (guard_hyp g2)); refine (hk _).mono ?_; rintro e w2 ⟨rfl, g2⟩; have G2 := gb_trans g1 g2; have B1x := B1.kept g2 (by simp); clear b1_1_0 b1_1_1 b1_1_2 b1_1_3; have b1_2_0 := B1x.cell 0 (v := .int .u8 3) rfl; have b1_2_1 := B1x.cell 1 (v := .int .u16 bo) rfl; have b1_2_2 := B1x.cell 2 (v := .int .u16 st) rfl; have b1_2_3 := B1x.cell 3 (v := .int .i64 n) rfl))
  go_ret2
  exact ⟨rfl, G2⟩
set_option maxHeartbeats 1000000 in
theorem nxD623 (bo st : Nat) (n : Int) (t l : Nat) (h8 : (t : Int) < 256) (hb : bo < 65536) (hs : st < 65536) (w : World) (hc : Gn.ck 3 bo st n = 0) (ht : ¬ n ≤ (t : Int)) (hl : l ≤ 6) (ht0 : t = 1) (hq : st.testBit l = false) (hn : ¬ n ≤ 2) : Calls Tryz.prog 16 #[.agg #[.int .u8 3, .int .u16 bo, .int .u16 st, .int .i64 n], .int .u8 t, .int .i64 l] w fun e w' => e = .returned (.tuple #[.int .u8 2, .int .i64 0]) ∧ w.grownBy w' none := by
  subst ht0
  have hk := fun w => gcheckD 3 bo st n (by decide) hb hs w
  rw [hc] at hk
  have hi := Gn.ck_in hc
  have hn2 : 2 ≤ n := hi.2.1
  have hn3 : n ≤ 256 := hi.2.2
  clear hc hi
  have hl' : (l : Int) ≤ 6 := by omega
  have hp16 := shl16 (n := l) (by omega)
  have ha := and16 st (2 ^ l) hs (Lf.p16 (by omega))
  have hz : ((st &&& 2 ^ l : Nat) : Int) = 0 := by
    have h1 := @Lf.and_one st l
    rw [h1.2 hq]; rfl
  generalize st &&& 2 ^ l = y at ha hz
  generalize 2 ^ l = q at hp16 ha
  clear hq
  obtain ⟨W1, hW1, sz1, g1, B1⟩ := boxn w #[.int .u8 3, .int .u16 bo, .int .u16 st, .int .i64 n] 27
  have b1_1_0 := B1.cell 0 (v := .int .u8 3) rfl
  have b1_1_1 := B1.cell 1 (v := .int .u16 bo) rfl
  have b1_1_2 := B1.cell 2 (v := .int .u16 st) rfl
  have b1_1_3 := B1.cell 3 (v := .int .i64 n) rfl
  go_enter Tryz.func16, Tryz.ntmps16
  go_wp2_with (first | (go_at_call 14; (fail_if_success (guard_hyp g2)); refine (hk _).mono ?_; rintro e w2 ⟨rfl, g2⟩; have G2 := gb_trans g1 g2; have B1x := B1.kept g2 (by simp); clear b1_1_0 b1_1_1 b1_1_2 b1_1_3; have b1_2_0 := B1x.cell 0 (v := .int .u8 3) rfl; have b1_2_1 := B1x.cell 1 (v := .int .u16 bo) rfl; have b1_2_2 := B1x.cell 2 (v := .int .u16 st) rfl; have b1_2_3 := B1x.cell 3 (v := .int .i64 n) rfl))
  go_ret2
  exact ⟨rfl, G2⟩
set_option maxHeartbeats 1000000 in
theorem nxD703 (bo st : Nat) (n : Int) (t l : Nat) (h8 : (t : Int) < 256) (hb : bo < 65536) (hs : st < 65536) (w : World) (hc : Gn.ck 3 bo st n = 0) (ht : ¬ n ≤ (t : Int)) (hl : l ≤ 6) (ht0 : 2 ≤ t) (hn : n ≤ (t : Int) + 1) : Calls Tryz.prog 16 #[.agg #[.int .u8 3, .int .u16 bo, .int .u16 st, .int .i64 n], .int .u8 t, .int .i64 l] w fun e w' => e = .returned (.tuple #[.int .u8 0, .int .i64 0]) ∧ w.grownBy w' none := by
  have hk := fun w => gcheckD 3 bo st n (by decide) hb hs w
  rw [hc] at hk
  clear hc
  have hp16 := shl16 (n := l) (by omega)
  generalize 2 ^ l = q at hp16
  have hl' : (l : Int) ≤ 6 := by omega
  have t0 : ¬ (t : Int) = 0 := by omega
  have t1 : ¬ (t : Int) = 1 := by omega
  have t0' : ((t : Int) == 0) = false := by simp; omega
  have t1' : ((t : Int) == 1) = false := by simp; omega
  have hw : IntKind.i64.wrap ((t : Int) + 1) = (t : Int) + 1 := by rw [IntKind.wrap_i64]; omega
  obtain ⟨W1, hW1, sz1, g1, B1⟩ := boxn w #[.int .u8 3, .int .u16 bo, .int .u16 st, .int .i64 n] 27
  have b1_1_0 := B1.cell 0 (v := .int .u8 3) rfl
  have b1_1_1 := B1.cell 1 (v := .int .u16 bo) rfl
  have b1_1_2 := B1.cell 2 (v := .int .u16 st) rfl
  have b1_1_3 := B1.cell 3 (v := .int .i64 n) rfl
  go_enter Tryz.func16, Tryz.ntmps16
  go_wp2_with (first | (go_at_call 14; (fail_if_success (guard_hyp g2)); refine (hk _).mono ?_; rintro e w2 ⟨rfl, g2⟩; have G2 := gb_trans g1 g2; have B1x := B1.kept g2 (by simp); clear b1_1_0 b1_1_1 b1_1_2 b1_1_3; have b1_2_0 := B1x.cell 0 (v := .int .u8 3) rfl; have b1_2_1 := B1x.cell 1 (v := .int .u16 bo) rfl; have b1_2_2 := B1x.cell 2 (v := .int .u16 st) rfl; have b1_2_3 := B1x.cell 3 (v := .int .i64 n) rfl))
  go_ret2
  exact ⟨rfl, G2⟩
set_option maxHeartbeats 1000000 in
theorem nxD713 (bo st : Nat) (n : Int) (t l : Nat) (h8 : (t : Int) < 256) (hb : bo < 65536) (hs : st < 65536) (w : World) (hc : Gn.ck 3 bo st n = 0) (ht : ¬ n ≤ (t : Int)) (hl : l ≤ 6) (ht0 : 2 ≤ t) (hn : ¬ n ≤ (t : Int) + 1) : Calls Tryz.prog 16 #[.agg #[.int .u8 3, .int .u16 bo, .int .u16 st, .int .i64 n], .int .u8 t, .int .i64 l] w fun e w' => e = .returned (.tuple #[.int .u8 ((t + 1 : Nat) : Int), .int .i64 0]) ∧ w.grownBy w' none := by
  have hn3 := (Gn.ck_in hc).2.2
  have hk := fun w => gcheckD 3 bo st n (by decide) hb hs w
  rw [hc] at hk
  clear hc
  have hp16 := shl16 (n := l) (by omega)
  generalize 2 ^ l = q at hp16
  have hl' : (l : Int) ≤ 6 := by omega
  have t0 : ¬ (t : Int) = 0 := by omega
  have t1 : ¬ (t : Int) = 1 := by omega
  have t0' : ((t : Int) == 0) = false := by simp; omega
  have t1' : ((t : Int) == 1) = false := by simp; omega
  have hw : IntKind.i64.wrap ((t : Int) + 1) = (t : Int) + 1 := by rw [IntKind.wrap_i64]; omega
  have hw8 : IntKind.u8.wrap ((t : Int) + 1) = ((t + 1 : Nat) : Int) := by rw [IntKind.wrap_u8]; omega
  obtain ⟨W1, hW1, sz1, g1, B1⟩ := boxn w #[.int .u8 3, .int .u16 bo, .int .u16 st, .int .i64 n] 27
  have b1_1_0 := B1.cell 0 (v := .int .u8 3) rfl
  have b1_1_1 := B1.cell 1 (v := .int .u16 bo) rfl
  have b1_1_2 := B1.cell 2 (v := .int .u16 st) rfl
  have b1_1_3 := B1.cell 3 (v := .int .i64 n) rfl
  go_enter Tryz.func16, Tryz.ntmps16
  go_wp2_with (first | (go_at_call 14; (fail_if_success (guard_hyp g2)); refine (hk _).mono ?_; rintro e w2 ⟨rfl, g2⟩; have G2 := gb_trans g1 g2; have B1x := B1.kept g2 (by simp); clear b1_1_0 b1_1_1 b1_1_2 b1_1_3; have b1_2_0 := B1x.cell 0 (v := .int .u8 3) rfl; have b1_2_1 := B1x.cell 1 (v := .int .u16 bo) rfl; have b1_2_2 := B1x.cell 2 (v := .int .u16 st) rfl; have b1_2_3 := B1x.cell 3 (v := .int .i64 n) rfl))
  go_ret2
  exact ⟨rfl, G2⟩
theorem nxD3 (bo st : Nat) (n : Int) (t : Nat) (h8 : (t : Int) < 256) (l : Int) (hb : bo < 65536) (hs : st < 65536) (w : World) (hc : Gn.ck 3 bo st n = 0) (ht : ¬ n ≤ (t : Int)) : Calls Tryz.prog 16 #[.agg #[.int .u8 3, .int .u16 bo, .int .u16 st, .int .i64 n], .int .u8 t, .int .i64 l] w fun e w' => e = .returned (.tuple #[.int .u8 (Gn.nxV 3 bo st n t l : Nat), .int .i64 (Gn.nxE 3 bo st n t l : Nat)]) ∧ w.grownBy w' none := by
  have hi := Gn.ck_in hc
  have hE : Gn.nxE 3 bo st n t l = if l < 0 ∨ (6 : Int) < l then 2 else 0 := by
    unfold Gn.nxE
    rw [if_neg (by simp [hc]), if_neg ht]; rfl
  unfold Gn.nxV
  rw [hE]
  by_cases hl : l < 0
  · rw [if_pos (Or.inl hl)]
    exact nxD33 bo st n t h8 l hb hs w hc ht hl
  by_cases hm : (6 : Int) < l
  · rw [if_pos (Or.inr hm)]
    exact nxD43 bo st n t h8 l hb hs w hc ht hl hm
  have hno : ¬ (l < 0 ∨ (6 : Int) < l) := by omega
  rw [if_neg hno]
  clear hno hE
  obtain ⟨l, rfl⟩ := Int.eq_ofNat_of_zero_le (a := l) (by omega)
  have hl' : l ≤ 6 := by omega
  rw [if_pos rfl]
  simp only [Int.toNat_natCast]
  by_cases t0 : t = 0
  · rw [if_pos t0]
    by_cases hq : bo.testBit l = true
    · rw [if_pos hq]
      exact nxD503 bo st n t l h8 hb hs w hc ht hl' t0 hq
    · rw [if_neg hq]
      exact nxD513 bo st n t l h8 hb hs w hc ht hl' t0 (by simpa using hq)
  · rw [if_neg t0]
    by_cases t1 : t = 1
    · by_cases hq' : st.testBit l = true
      · rw [if_pos ⟨t1, hq'⟩]
        exact nxD603 bo st n t l h8 hb hs w hc ht hl' t1 hq'
      · rw [if_neg (by simp [hq'])]
        have hq : st.testBit l = false := by simpa using hq'
        unfold Gn.old
        by_cases hn : n ≤ 2
        · rw [if_pos (by omega)]
          exact nxD613 bo st n t l h8 hb hs w hc ht hl' t1 hq hn
        · rw [if_neg (by omega)]
          subst t1
          exact nxD623 bo st n 1 l h8 hb hs w hc ht hl' rfl hq hn
    · rw [if_neg (by simp [t1])]
      unfold Gn.old
      by_cases hn : n ≤ (t : Int) + 1
      · rw [if_pos (by omega)]
        exact nxD703 bo st n t l h8 hb hs w hc ht hl' (by omega) hn
      · rw [if_neg (by omega)]
        exact nxD713 bo st n t l h8 hb hs w hc ht hl' (by omega) hn
theorem gnextD (ho bo st : Nat) (n : Int) (hh : ho < 256) (hb : bo < 65536) (hs : st < 65536) (t : Nat) (h8 : t < 256) (l : Int) (w : World) : Calls Tryz.prog 16 #[.agg #[.int .u8 ho, .int .u16 bo, .int .u16 st, .int .i64 n], .int .u8 t, .int .i64 l] w fun e w' => e = .returned (.tuple #[.int .u8 (Gn.nxV ho bo st n t l : Nat), .int .i64 (Gn.nxE ho bo st n t l : Nat)]) ∧ w.grownBy w' none := by
  by_cases hc : Gn.ck ho bo st n = 0
  · by_cases ht : n ≤ (t : Int)
    · have e : Gn.nxE ho bo st n t l = 7 := by unfold Gn.nxE; rw [if_neg (by simp [hc]), if_pos ht]
      have v : Gn.nxV ho bo st n t l = 0 := by unfold Gn.nxV; rw [e, if_neg (by decide)]
      rw [e, v]
      exact nxD2 ho bo st n t (by omega) l hh hb hs w hc ht
    · have hi := Lf.ck_in (Gn.ck_in hc).1
      obtain rfl | rfl | rfl : ho = 1 ∨ ho = 2 ∨ ho = 3 := by omega
      · exact nxD1 bo st n t (by omega) l hb hs w hc ht
      · exact nxD2' bo st n t (by omega) l hb hs w hc ht
      · exact nxD3 bo st n t (by omega) l hb hs w hc ht
  · have e : Gn.nxE ho bo st n t l = Gn.ck ho bo st n := by unfold Gn.nxE; rw [if_pos hc]
    have v : Gn.nxV ho bo st n t l = 0 := by unfold Gn.nxV; rw [e, if_neg hc]
    rw [v, e]
    exact nxD0 ho bo st n t l hh hb hs w (by omega)

set_option maxHeartbeats 1000000 in
theorem next_nat (ho bo st : Nat) (n : Int) (hh : ho < 256) (hb : bo < 65536) (hs : st < 65536) (t : Nat) (h8 : t < 256) (l : Int) (w : World) (en : Hid (En w)) : Calls Tryz.prog 5 #[.agg #[.int .u8 ho, .int .u16 bo, .int .u16 st, .int .i64 n], .int .u8 t, .int .i64 l] w fun e w' => e = .returned (.bool true) ∧ w.grownBy w' none := by
  have hv := enH en
  have hn := fun w hv => gnextC ho bo st n hh hb hs t h8 l w hv
  have hd := fun w => gnextD ho bo st n hh hb hs t h8 l w
  generalize Gn.nxV ho bo st n t l = V at hn hd
  generalize Gn.nxE ho bo st n t l = E at hn hd
  obtain ⟨W1, hW1, sz1, g1, B1⟩ := boxn w #[.int .u8 ho, .int .u16 bo, .int .u16 st, .int .i64 n] 27
  have hv1 := hvK hv g1
  have b1_1_0 := B1.cell 0 (v := .int .u8 ho) rfl
  have b1_1_1 := B1.cell 1 (v := .int .u16 bo) rfl
  have b1_1_2 := B1.cell 2 (v := .int .u16 st) rfl
  have b1_1_3 := B1.cell 3 (v := .int .i64 n) rfl
  go_enter Tryz.func5, Tryz.ntmps5
  go_wp2_with (first | (go_at_call 8; (fail_if_success (guard_hyp g2)); refine (awakeC _ (enK en g1)).mono ?_; rintro e w2 ⟨rfl, g2⟩; have G2 := gb_trans g1 g2; have hv2 := hvK hv G2; have B1x := B1.kept g2 (by simp); clear b1_1_0 b1_1_1 b1_1_2 b1_1_3; have b1_2_0 := B1x.cell 0 (v := .int .u8 ho) rfl; have b1_2_1 := B1x.cell 1 (v := .int .u16 bo) rfl; have b1_2_2 := B1x.cell 2 (v := .int .u16 st) rfl; have b1_2_3 := B1x.cell 3 (v := .int .i64 n) rfl) | (go_at_call 15; (fail_if_success (guard_hyp g3)); refine (hn _ hv2).mono ?_; rintro e w3 ⟨rfl, g3⟩; have G3 := gb_trans G2 g3; have hv3 := hvK hv G3; have B1xx := B1x.kept g3 (by simp); clear b1_2_0 b1_2_1 b1_2_2 b1_2_3; have b1_3_0 := B1xx.cell 0 (v := .int .u8 ho) rfl; have b1_3_1 := B1xx.cell 1 (v := .int .u16 bo) rfl; have b1_3_2 := B1xx.cell 2 (v := .int .u16 st) rfl; have b1_3_3 := B1xx.cell 3 (v := .int .i64 n) rfl) | (go_at_call 16; (fail_if_success (guard_hyp g4)); refine (hd _).mono ?_; rintro e w4 ⟨rfl, g4⟩; have G4 := gb_trans G3 g4; have hv4 := hvK hv G4; have B1xxx := B1xx.kept g4 (by simp); clear b1_3_0 b1_3_1 b1_3_2 b1_3_3; have b1_4_0 := B1xxx.cell 0 (v := .int .u8 ho) rfl; have b1_4_1 := B1xxx.cell 1 (v := .int .u16 bo) rfl; have b1_4_2 := B1xxx.cell 2 (v := .int .u16 st) rfl; have b1_4_3 := B1xxx.cell 3 (v := .int .i64 n) rfl))
  go_ret
  exact ⟨rfl, G4⟩
theorem next_walk (ho bo st n t l : Int) (w : World) (h1 : 0 ≤ ho ∧ ho ≤ 255) (h2 : 0 ≤ bo ∧ bo ≤ 65535) (h3 : 0 ≤ st ∧ st ≤ 65535) (hn : -9223372036854775808 ≤ n ∧ n ≤ 9223372036854775807) (h4 : 0 ≤ t) (h4' : t ≤ 255) (h5 : -9223372036854775808 ≤ l) (h5' : l ≤ 9223372036854775807) (en : En w) : Calls Tryz.prog 5 #[.agg #[.int .u8 ho, .int .u16 bo, .int .u16 st, .int .i64 n], .int .u8 t, .int .i64 l] w fun e w' => e = .returned (.bool true) ∧ Below w.heap.size w w' := by
  obtain ⟨ho, rfl⟩ := Int.eq_ofNat_of_zero_le h1.1
  obtain ⟨bo, rfl⟩ := Int.eq_ofNat_of_zero_le h2.1
  obtain ⟨st, rfl⟩ := Int.eq_ofNat_of_zero_le h3.1
  obtain ⟨t, rfl⟩ := Int.eq_ofNat_of_zero_le h4
  exact (next_nat ho bo st n (by omega) (by omega) (by omega) t (by omega) l w en).mono fun e w' ⟨a, b⟩ => ⟨a, gb_below b⟩
end Go.Proofs.YtlkdenanbofliaaGreatDoor
