/- What Check and Next of package gens answer. -/
import Derived.Test.YtlkdenanbofliaaGreatDoorG4
import Derived.Test.YtlkdenanbofliaaGreatDoorL9
namespace Go.Proofs.YtlkdenanbofliaaGreatDoor
open Go.RowKit
set_option linter.unusedVariables false
set_option linter.unusedSimpArgs false
set_option maxRecDepth 100000

namespace Gn
/-- May the rule be? -/
def ck (ho bo st : Nat) (n : Int) : Nat := if Lf.ck ho bo st = 0 then (if may n then 0 else 90) else Lf.ck ho bo st
theorem ck_in {ho bo st : Nat} {n : Int} (h : ck ho bo st n = 0) : Lf.ck ho bo st = 0 ∧ 2 ≤ n ∧ n ≤ 256 := by
  unfold ck at h
  split at h
  · rename_i h1
    refine ⟨h1, ?_⟩
    split at h
    · rename_i h2; unfold may at h2; simpa using h2
    · cases h
  · rename_i h1; exact absurd h h1
/-- A state that fades on. -/
def old (n : Int) (t : Nat) : Nat := if (t : Int) + 1 = n then 0 else t + 1
def nxE (ho bo st : Nat) (n : Int) (t : Nat) (l : Int) : Nat := if ck ho bo st n ≠ 0 then ck ho bo st n else if n ≤ (t : Int) then 7 else if l < 0 ∨ (Lf.mo ho : Int) < l then 2 else 0
def nxV (ho bo st : Nat) (n : Int) (t : Nat) (l : Int) : Nat := if nxE ho bo st n t l = 0 then (if t = 0 then (if bo.testBit l.toNat then 1 else 0) else if t = 1 ∧ st.testBit l.toNat = true then 1 else old n t) else 0
end Gn
set_option maxHeartbeats 1000000 in
theorem gck1 (ho bo st : Nat) (n : Int) (hh : ho < 256) (hb : bo < 65536) (hs : st < 65536) (w : World) (hv : Hid (Hv w)) (hc : ¬ ((Lf.ck ho bo st : Nat) : Int) = 0) : Calls Tryz.prog 13 #[.agg #[.int .u8 ho, .int .u16 bo, .int .u16 st, .int .i64 n]] w fun e w' => e = .returned (.int .i64 ((Lf.ck ho bo st : Nat) : Int)) ∧ w.grownBy w' none := by
  have hk := fun w hv => checkC ho bo st hh hb hs w hv
  generalize Lf.ck ho bo st = q at hk hc ⊢
  obtain ⟨W1, hW1, sz1, g1, B1⟩ := boxn w #[.int .u8 ho, .int .u16 bo, .int .u16 st, .int .i64 n] 27
  have hv1 := hvK hv g1
  have b1_1_0 := B1.cell 0 (v := .int .u8 ho) rfl
  have b1_1_1 := B1.cell 1 (v := .int .u16 bo) rfl
  have b1_1_2 := B1.cell 2 (v := .int .u16 st) rfl
  have b1_1_3 := B1.cell 3 (v := .int .i64 n) rfl
  go_enter Tryz.func13, Tryz.ntmps13
  go_wp2_with (first | (go_at_call 31; (fail_if_success (guard_hyp g2)); refine (hk _ hv1).mono ?_; rintro e w2 ⟨rfl, g2⟩; have G2 := gb_trans g1 g2; have hv2 := hvK hv G2; have B1x := B1.kept g2 (by simp); clear b1_1_0 b1_1_1 b1_1_2 b1_1_3; have b1_2_0 := B1x.cell 0 (v := .int .u8 ho) rfl; have b1_2_1 := B1x.cell 1 (v := .int .u16 bo) rfl; have b1_2_2 := B1x.cell 2 (v := .int .u16 st) rfl; have b1_2_3 := B1x.cell 3 (v := .int .i64 n) rfl))
  go_ret
  exact ⟨rfl, G2⟩
set_option maxHeartbeats 1000000 in
theorem gck2 (ho bo st : Nat) (n : Int) (hh : ho < 256) (hb : bo < 65536) (hs : st < 65536) (w : World) (hv : Hid (Hv w)) (hc : Lf.ck ho bo st = 0) (hn : Gn.may n = false) : Calls Tryz.prog 13 #[.agg #[.int .u8 ho, .int .u16 bo, .int .u16 st, .int .i64 n]] w fun e w' => e = .returned (.int .i64 90) ∧ w.grownBy w' none := by
  have hk := fun w hv => checkC ho bo st hh hb hs w hv
  rw [hc] at hk
  have hm := fun w => mayBeC n w
  rw [hn] at hm
  clear hc hn
  obtain ⟨W1, hW1, sz1, g1, B1⟩ := boxn w #[.int .u8 ho, .int .u16 bo, .int .u16 st, .int .i64 n] 27
  have hv1 := hvK hv g1
  have b1_1_0 := B1.cell 0 (v := .int .u8 ho) rfl
  have b1_1_1 := B1.cell 1 (v := .int .u16 bo) rfl
  have b1_1_2 := B1.cell 2 (v := .int .u16 st) rfl
  have b1_1_3 := B1.cell 3 (v := .int .i64 n) rfl
  go_enter Tryz.func13, Tryz.ntmps13
  go_wp2_with (first | (go_at_call 31; (fail_if_success (guard_hyp g2)); refine (hk _ hv1).mono ?_; rintro e w2 ⟨rfl, g2⟩; have G2 := gb_trans g1 g2; have hv2 := hvK hv G2; have B1x := B1.kept g2 (by simp); clear b1_1_0 b1_1_1 b1_1_2 b1_1_3; have b1_2_0 := B1x.cell 0 (v := .int .u8 ho) rfl; have b1_2_1 := B1x.cell 1 (v := .int .u16 bo) rfl; have b1_2_2 := B1x.cell 2 (v := .int .u16 st) rfl; have b1_2_3 := B1x.cell 3 (v := .int .i64 n) rfl) | (go_at_call 32; (fail_if_success (guard_hyp mk3)); refine (hm _).mono ?_; rintro e w' ⟨rfl, hw'⟩; subst w'; have mk3 : True := trivial))
  go_ret
  exact ⟨rfl, G2⟩
set_option maxHeartbeats 1000000 in
theorem gck3 (ho bo st : Nat) (n : Int) (hh : ho < 256) (hb : bo < 65536) (hs : st < 65536) (w : World) (hv : Hid (Hv w)) (hc : Lf.ck ho bo st = 0) (hn : Gn.may n = true) : Calls Tryz.prog 13 #[.agg #[.int .u8 ho, .int .u16 bo, .int .u16 st, .int .i64 n]] w fun e w' => e = .returned (.int .i64 0) ∧ w.grownBy w' none := by
  have hk := fun w hv => checkC ho bo st hh hb hs w hv
  rw [hc] at hk
  have hm := fun w => mayBeC n w
  rw [hn] at hm
  clear hc hn
  obtain ⟨W1, hW1, sz1, g1, B1⟩ := boxn w #[.int .u8 ho, .int .u16 bo, .int .u16 st, .int .i64 n] 27
  have hv1 := hvK hv g1
  have b1_1_0 := B1.cell 0 (v := .int .u8 ho) rfl
  have b1_1_1 := B1.cell 1 (v := .int .u16 bo) rfl
  have b1_1_2 := B1.cell 2 (v := .int .u16 st) rfl
  have b1_1_3 := B1.cell 3 (v := .int .i64 n) rfl
  go_enter Tryz.func13, Tryz.ntmps13
  go_wp2_with (first | (go_at_call 31; (fail_if_success (guard_hyp g2)); refine (hk _ hv1).mono ?_; rintro e w2 ⟨rfl, g2⟩; have G2 := gb_trans g1 g2; have hv2 := hvK hv G2; have B1x := B1.kept g2 (by simp); clear b1_1_0 b1_1_1 b1_1_2 b1_1_3; have b1_2_0 := B1x.cell 0 (v := .int .u8 ho) rfl; have b1_2_1 := B1x.cell 1 (v := .int .u16 bo) rfl; have b1_2_2 := B1x.cell 2 (v := .int .u16 st) rfl; have b1_2_3 := B1x.cell 3 (v := .int .i64 n) rfl) | (go_at_call 32; (fail_if_success (guard_hyp mk3)); refine (hm _).mono ?_; rintro e w' ⟨rfl, hw'⟩; subst w'; have mk3 : True := trivial))
  go_ret
  exact ⟨rfl, G2⟩
theorem gcheckC (ho bo st : Nat) (n : Int) (hh : ho < 256) (hb : bo < 65536) (hs : st < 65536) (w : World) (hv : Hid (Hv w)) : Calls Tryz.prog 13 #[.agg #[.int .u8 ho, .int .u16 bo, .int .u16 st, .int .i64 n]] w fun e w' => e = .returned (.int .i64 ((Gn.ck ho bo st n : Nat) : Int)) ∧ w.grownBy w' none := by
  unfold Gn.ck
  by_cases hc : Lf.ck ho bo st = 0
  · rw [if_pos hc]
    cases hn : Gn.may n with
    | true => exact gck3 ho bo st n hh hb hs w hv hc hn
    | false => exact gck2 ho bo st n hh hb hs w hv hc hn
  · rw [if_neg hc]
    exact gck1 ho bo st n hh hb hs w hv (by omega)
set_option maxHeartbeats 1000000 in
theorem bnextC (ho bo st : Nat) (hh : ho < 256) (hb : bo < 65536) (hs : st < 65536) (t : Nat) (l : Int) (w : World) (hv : Hid (Hv w)) : Calls Tryz.prog 58 #[.agg #[.int .u8 ho, .int .u16 bo, .int .u16 st], .int .u8 t, .int .i64 l] w fun e w' => e = .returned (.tuple #[.int .u8 (Lf.nxV ho bo st t l : Nat), .int .i64 (Lf.nxE ho bo st t l : Nat)]) ∧ w.grownBy w' none := by
  have hn := fun w hv => nextC ho bo st hh hb hs t l w hv
  generalize Lf.nxV ho bo st t l = V at hn ⊢
  generalize Lf.nxE ho bo st t l = E at hn ⊢
  obtain ⟨W1, hW1, sz1, g1, B1⟩ := boxn w #[.int .u8 ho, .int .u16 bo, .int .u16 st] 60
  have hv1 := hvK hv g1
  have b1_1_0 := B1.cell 0 (v := .int .u8 ho) rfl
  have b1_1_1 := B1.cell 1 (v := .int .u16 bo) rfl
  have b1_1_2 := B1.cell 2 (v := .int .u16 st) rfl
  go_enter Tryz.func58, Tryz.ntmps58
  go_wp2_with (first | (go_at_call 17; (fail_if_success (guard_hyp g2)); refine (hn _ hv1).mono ?_; rintro e w2 ⟨rfl, g2⟩; have G2 := gb_trans g1 g2; have hv2 := hvK hv G2; have B1x := B1.kept g2 (by simp); clear b1_1_0 b1_1_1 b1_1_2; have b1_2_0 := B1x.cell 0 (v := .int .u8 ho) rfl; have b1_2_1 := B1x.cell 1 (v := .int .u16 bo) rfl; have b1_2_2 := B1x.cell 2 (v := .int .u16 st) rfl))
  go_ret2
  exact ⟨rfl, G2⟩
set_option maxHeartbeats 1000000 in
theorem olderC (ho bo st : Nat) (n : Int) (t : Nat) (ht : (t : Int) < n) (hn : n ≤ 256) (w : World) (hv : Hid (Hv w)) : Calls Tryz.prog 59 #[.agg #[.int .u8 ho, .int .u16 bo, .int .u16 st, .int .i64 n], .int .u8 t] w fun e w' => e = .returned (.int .u8 (Gn.old n t : Nat)) ∧ w.grownBy w' none := by
  have hw : IntKind.i64.wrap ((t : Int) + 1) = (t : Int) + 1 := by rw [IntKind.wrap_i64]; omega
  unfold Gn.old
  by_cases h : (t : Int) + 1 = n
  · rw [if_pos h]
    have h' : ((t : Int) + 1 == n) = true := by simp [h]
    clear h
    obtain ⟨W1, hW1, sz1, g1, B1⟩ := boxn w #[.int .u8 ho, .int .u16 bo, .int .u16 st, .int .i64 n] 62
    have hv1 := hvK hv g1
    have b1_1_0 := B1.cell 0 (v := .int .u8 ho) rfl
    have b1_1_1 := B1.cell 1 (v := .int .u16 bo) rfl
    have b1_1_2 := B1.cell 2 (v := .int .u16 st) rfl
    have b1_1_3 := B1.cell 3 (v := .int .i64 n) rfl
    go_enter Tryz.func59, Tryz.ntmps59
    go_wp2
    go_ret
    exact ⟨rfl, g1⟩
  · rw [if_neg h]
    have h' : ((t : Int) + 1 == n) = false := by simp [h]
    have hw8 : IntKind.u8.wrap ((t : Int) + 1) = ((t + 1 : Nat) : Int) := by rw [IntKind.wrap_u8]; omega
    clear h
    obtain ⟨W1, hW1, sz1, g1, B1⟩ := boxn w #[.int .u8 ho, .int .u16 bo, .int .u16 st, .int .i64 n] 62
    have hv1 := hvK hv g1
    have b1_1_0 := B1.cell 0 (v := .int .u8 ho) rfl
    have b1_1_1 := B1.cell 1 (v := .int .u16 bo) rfl
    have b1_1_2 := B1.cell 2 (v := .int .u16 st) rfl
    have b1_1_3 := B1.cell 3 (v := .int .i64 n) rfl
    go_enter Tryz.func59, Tryz.ntmps59
    go_wp2
    go_ret
    exact ⟨rfl, g1⟩
set_option maxHeartbeats 1000000 in
theorem bec0e (ho bo st : Nat) (n : Int) (hh : ho < 256) (hb : bo < 65536) (hs : st < 65536) (t : Nat) (l : Int) (w : World) (hv : Hid (Hv w)) (V E : Nat) (hV : Hid (Lf.nxV ho bo st 0 l = V)) (hE : Hid (Lf.nxE ho bo st 0 l = E)) (he : ¬ (E : Int) = 0) (ht : t = 0) : Calls Tryz.prog 34 #[.agg #[.int .u8 ho, .int .u16 bo, .int .u16 st, .int .i64 n], .int .u8 t, .int .i64 l] w fun e w' => e = .returned (.tuple #[.int .u8 0, .int .i64 E]) ∧ w.grownBy w' none := by
  subst ht
  have hn := fun w hv => bnextC ho bo st hh hb hs 0 l w hv
  rw [hV.out, hE.out] at hn
  clear hV hE
  obtain ⟨W1, hW1, sz1, g1, B1⟩ := boxn w #[.int .u8 ho, .int .u16 bo, .int .u16 st, .int .i64 n] 62
  have hv1 := hvK hv g1
  have b1_1_0 := B1.cell 0 (v := .int .u8 ho) rfl
  have b1_1_1 := B1.cell 1 (v := .int .u16 bo) rfl
  have b1_1_2 := B1.cell 2 (v := .int .u16 st) rfl
  have b1_1_3 := B1.cell 3 (v := .int .i64 n) rfl
  go_enter Tryz.func34, Tryz.ntmps34
  go_wp2_with (first | (go_at_call 58; (fail_if_success (guard_hyp g2)); refine (hn _ hv1).mono ?_; rintro e w2 ⟨rfl, g2⟩; have G2 := gb_trans g1 g2; have hv2 := hvK hv G2; have B1x := B1.kept g2 (by simp); clear b1_1_0 b1_1_1 b1_1_2 b1_1_3; have b1_2_0 := B1x.cell 0 (v := .int .u8 ho) rfl; have b1_2_1 := B1x.cell 1 (v := .int .u16 bo) rfl; have b1_2_2 := B1x.cell 2 (v := .int .u16 st) rfl; have b1_2_3 := B1x.cell 3 (v := .int .i64 n) rfl))
  go_ret2
  exact ⟨rfl, G2⟩
set_option maxHeartbeats 1000000 in
theorem bec0 (ho bo st : Nat) (n : Int) (hh : ho < 256) (hb : bo < 65536) (hs : st < 65536) (t : Nat) (l : Int) (w : World) (hv : Hid (Hv w)) (V : Nat) (hV : Hid (Lf.nxV ho bo st 0 l = V)) (hE : Hid (Lf.nxE ho bo st 0 l = 0)) (ht : t = 0) : Calls Tryz.prog 34 #[.agg #[.int .u8 ho, .int .u16 bo, .int .u16 st, .int .i64 n], .int .u8 t, .int .i64 l] w fun e w' => e = .returned (.tuple #[.int .u8 V, .int .i64 0]) ∧ w.grownBy w' none := by
  subst ht
  have hn := fun w hv => bnextC ho bo st hh hb hs 0 l w hv
  rw [hV.out, hE.out] at hn
  clear hV hE
  obtain ⟨W1, hW1, sz1, g1, B1⟩ := boxn w #[.int .u8 ho, .int .u16 bo, .int .u16 st, .int .i64 n] 62
  have hv1 := hvK hv g1
  have b1_1_0 := B1.cell 0 (v := .int .u8 ho) rfl
  have b1_1_1 := B1.cell 1 (v := .int .u16 bo) rfl
  have b1_1_2 := B1.cell 2 (v := .int .u16 st) rfl
  have b1_1_3 := B1.cell 3 (v := .int .i64 n) rfl
  go_enter Tryz.func34, Tryz.ntmps34
  go_wp2_with (first | (go_at_call 58; (fail_if_success (guard_hyp g2)); refine (hn _ hv1).mono ?_; rintro e w2 ⟨rfl, g2⟩; have G2 := gb_trans g1 g2; have hv2 := hvK hv G2; have B1x := B1.kept g2 (by simp); clear b1_1_0 b1_1_1 b1_1_2 b1_1_3; have b1_2_0 := B1x.cell 0 (v := .int .u8 ho) rfl; have b1_2_1 := B1x.cell 1 (v := .int .u16 bo) rfl; have b1_2_2 := B1x.cell 2 (v := .int .u16 st) rfl; have b1_2_3 := B1x.cell 3 (v := .int .i64 n) rfl))
  go_ret2
  exact ⟨rfl, G2⟩
set_option maxHeartbeats 1000000 in
theorem bec1e (ho bo st : Nat) (n : Int) (hh : ho < 256) (hb : bo < 65536) (hs : st < 65536) (t : Nat) (l : Int) (w : World) (hv : Hid (Hv w)) (V E : Nat) (hV : Hid (Lf.nxV ho bo st 1 l = V)) (hE : Hid (Lf.nxE ho bo st 1 l = E)) (he : ¬ (E : Int) = 0) (ht : t = 1) : Calls Tryz.prog 34 #[.agg #[.int .u8 ho, .int .u16 bo, .int .u16 st, .int .i64 n], .int .u8 t, .int .i64 l] w fun e w' => e = .returned (.tuple #[.int .u8 0, .int .i64 E]) ∧ w.grownBy w' none := by
  subst ht
  have hn := fun w hv => bnextC ho bo st hh hb hs 1 l w hv
  rw [hV.out, hE.out] at hn
  clear hV hE
  obtain ⟨W1, hW1, sz1, g1, B1⟩ := boxn w #[.int .u8 ho, .int .u16 bo, .int .u16 st, .int .i64 n] 62
  have hv1 := hvK hv g1
  have b1_1_0 := B1.cell 0 (v := .int .u8 ho) rfl
  have b1_1_1 := B1.cell 1 (v := .int .u16 bo) rfl
  have b1_1_2 := B1.cell 2 (v := .int .u16 st) rfl
  have b1_1_3 := B1.cell 3 (v := .int .i64 n) rfl
  go_enter Tryz.func34, Tryz.ntmps34
  go_wp2_with (first | (go_at_call 58; (fail_if_success (guard_hyp g2)); refine (hn _ hv1).mono ?_; rintro e w2 ⟨rfl, g2⟩; have G2 := gb_trans g1 g2; have hv2 := hvK hv G2; have B1x := B1.kept g2 (by simp); clear b1_1_0 b1_1_1 b1_1_2 b1_1_3; have b1_2_0 := B1x.cell 0 (v := .int .u8 ho) rfl; have b1_2_1 := B1x.cell 1 (v := .int .u16 bo) rfl; have b1_2_2 := B1x.cell 2 (v := .int .u16 st) rfl; have b1_2_3 := B1x.cell 3 (v := .int .i64 n) rfl))
  go_ret2
  exact ⟨rfl, G2⟩
set_option maxHeartbeats 1000000 in
theorem bec1 (ho bo st : Nat) (n : Int) (hh : ho < 256) (hb : bo < 65536) (hs : st < 65536) (t : Nat) (l : Int) (w : World) (hv : Hid (Hv w)) (hV : Hid (Lf.nxV ho bo st 1 l = 1)) (hE : Hid (Lf.nxE ho bo st 1 l = 0)) (ht : t = 1) : Calls Tryz.prog 34 #[.agg #[.int .u8 ho, .int .u16 bo, .int .u16 st, .int .i64 n], .int .u8 t, .int .i64 l] w fun e w' => e = .returned (.tuple #[.int .u8 1, .int .i64 0]) ∧ w.grownBy w' none := by
  subst ht
  have hn := fun w hv => bnextC ho bo st hh hb hs 1 l w hv
  rw [hV.out, hE.out] at hn
  clear hV hE
  obtain ⟨W1, hW1, sz1, g1, B1⟩ := boxn w #[.int .u8 ho, .int .u16 bo, .int .u16 st, .int .i64 n] 62
  have hv1 := hvK hv g1
  have b1_1_0 := B1.cell 0 (v := .int .u8 ho) rfl
  have b1_1_1 := B1.cell 1 (v := .int .u16 bo) rfl
  have b1_1_2 := B1.cell 2 (v := .int .u16 st) rfl
  have b1_1_3 := B1.cell 3 (v := .int .i64 n) rfl
  go_enter Tryz.func34, Tryz.ntmps34
  go_wp2_with (first | (go_at_call 58; (fail_if_success (guard_hyp g2)); refine (hn _ hv1).mono ?_; rintro e w2 ⟨rfl, g2⟩; have G2 := gb_trans g1 g2; have hv2 := hvK hv G2; have B1x := B1.kept g2 (by simp); clear b1_1_0 b1_1_1 b1_1_2 b1_1_3; have b1_2_0 := B1x.cell 0 (v := .int .u8 ho) rfl; have b1_2_1 := B1x.cell 1 (v := .int .u16 bo) rfl; have b1_2_2 := B1x.cell 2 (v := .int .u16 st) rfl; have b1_2_3 := B1x.cell 3 (v := .int .i64 n) rfl))
  go_ret2
  exact ⟨rfl, G2⟩
set_option maxHeartbeats 1000000 in
theorem bec1o (ho bo st : Nat) (n : Int) (hh : ho < 256) (hb : bo < 65536) (hs : st < 65536) (t : Nat) (l : Int) (w : World) (hv : Hid (Hv w)) (hV : Hid (Lf.nxV ho bo st 1 l = 0)) (hE : Hid (Lf.nxE ho bo st 1 l = 0)) (ht : t = 1) (hn1 : (t : Int) < n) (hn2 : n ≤ 256) : Calls Tryz.prog 34 #[.agg #[.int .u8 ho, .int .u16 bo, .int .u16 st, .int .i64 n], .int .u8 t, .int .i64 l] w fun e w' => e = .returned (.tuple #[.int .u8 (Gn.old n t : Nat), .int .i64 0]) ∧ w.grownBy w' none := by
  have hO := fun w hv => olderC ho bo st n t hn1 hn2 w hv
  generalize Gn.old n t = z at hO ⊢
  subst ht
  clear hn1 hn2
  have hn := fun w hv => bnextC ho bo st hh hb hs 1 l w hv
  rw [hV.out, hE.out] at hn
  clear hV hE
  obtain ⟨W1, hW1, sz1, g1, B1⟩ := boxn w #[.int .u8 ho, .int .u16 bo, .int .u16 st, .int .i64 n] 62
  have hv1 := hvK hv g1
  have b1_1_0 := B1.cell 0 (v := .int .u8 ho) rfl
  have b1_1_1 := B1.cell 1 (v := .int .u16 bo) rfl
  have b1_1_2 := B1.cell 2 (v := .int .u16 st) rfl
  have b1_1_3 := B1.cell 3 (v := .int .i64 n) rfl
  go_enter Tryz.func34, Tryz.ntmps34
  go_wp2_with (first | (go_at_call 58; (fail_if_success (guard_hyp g2)); refine (hn _ hv1).mono ?_; rintro e w2 ⟨rfl, g2⟩; have G2 := gb_trans g1 g2; have hv2 := hvK hv G2; have B1x := B1.kept g2 (by simp); clear b1_1_0 b1_1_1 b1_1_2 b1_1_3; have b1_2_0 := B1x.cell 0 (v := .int .u8 ho) rfl; have b1_2_1 := B1x.cell 1 (v := .int .u16 bo) rfl; have b1_2_2 := B1x.cell 2 (v := .int .u16 st) rfl; have b1_2_3 := B1x.cell 3 (v := .int .i64 n) rfl) | (go_at_call 59; (fail_if_success (guard_hyp g3)); refine (hO _ hv2).mono ?_; rintro e w3 ⟨rfl, g3⟩; have G3 := gb_trans G2 g3; have hv3 := hvK hv G3; have B1xx := B1x.kept g3 (by simp); clear b1_2_0 b1_2_1 b1_2_2 b1_2_3; have b1_3_0 := B1xx.cell 0 (v := .int .u8 ho) rfl; have b1_3_1 := B1xx.cell 1 (v := .int .u16 bo) rfl; have b1_3_2 := B1xx.cell 2 (v := .int .u16 st) rfl; have b1_3_3 := B1xx.cell 3 (v := .int .i64 n) rfl))
  go_ret2
  exact ⟨rfl, G3⟩
set_option maxHeartbeats 1000000 in
theorem bec2e (ho bo st : Nat) (n : Int) (hh : ho < 256) (hb : bo < 65536) (hs : st < 65536) (t : Nat) (l : Int) (w : World) (hv : Hid (Hv w)) (V E : Nat) (hV : Hid (Lf.nxV ho bo st 1 l = V)) (hE : Hid (Lf.nxE ho bo st 1 l = E)) (he : ¬ (E : Int) = 0) (ht : 2 ≤ t) : Calls Tryz.prog 34 #[.agg #[.int .u8 ho, .int .u16 bo, .int .u16 st, .int .i64 n], .int .u8 t, .int .i64 l] w fun e w' => e = .returned (.tuple #[.int .u8 0, .int .i64 E]) ∧ w.grownBy w' none := by
  have hmn : ∀ (ts : Array TypeId) (t' : TypeId) (w : World), (Builtin.min_ ts t' #[.int .u8 t, .int .u8 1]).run Tryz.prog w = .ok (.int .u8 1) w := fun ts t' w => by rw [run_min_int2, if_pos (by omega)]
  have t0 : ¬ (t : Int) = 0 := by omega
  have t1 : ¬ (t : Int) = 1 := by omega
  have t0' : ((t : Int) == 0) = false := by simp; omega
  have t1' : ((t : Int) == 1) = false := by simp; omega
  clear ht
  have hn := fun w hv => bnextC ho bo st hh hb hs 1 l w hv
  rw [hV.out, hE.out] at hn
  clear hV hE
  obtain ⟨W1, hW1, sz1, g1, B1⟩ := boxn w #[.int .u8 ho, .int .u16 bo, .int .u16 st, .int .i64 n] 62
  have hv1 := hvK hv g1
  have b1_1_0 := B1.cell 0 (v := .int .u8 ho) rfl
  have b1_1_1 := B1.cell 1 (v := .int .u16 bo) rfl
  have b1_1_2 := B1.cell 2 (v := .int .u16 st) rfl
  have b1_1_3 := B1.cell 3 (v := .int .i64 n) rfl
  go_enter Tryz.func34, Tryz.ntmps34
  go_wp2_with (first | (go_at_call 58; (fail_if_success (guard_hyp g2)); refine (hn _ hv1).mono ?_; rintro e w2 ⟨rfl, g2⟩; have G2 := gb_trans g1 g2; have hv2 := hvK hv G2; have B1x := B1.kept g2 (by simp); clear b1_1_0 b1_1_1 b1_1_2 b1_1_3; have b1_2_0 := B1x.cell 0 (v := .int .u8 ho) rfl; have b1_2_1 := B1x.cell 1 (v := .int .u16 bo) rfl; have b1_2_2 := B1x.cell 2 (v := .int .u16 st) rfl; have b1_2_3 := B1x.cell 3 (v := .int .i64 n) rfl))
  go_ret2
  exact ⟨rfl, G2⟩
set_option maxHeartbeats 1000000 in
theorem bec2 (ho bo st : Nat) (n : Int) (hh : ho < 256) (hb : bo < 65536) (hs : st < 65536) (t : Nat) (l : Int) (w : World) (hv : Hid (Hv w)) (V : Nat) (hV : Hid (Lf.nxV ho bo st 1 l = V)) (hE : Hid (Lf.nxE ho bo st 1 l = 0)) (ht : 2 ≤ t) (hn1 : (t : Int) < n) (hn2 : n ≤ 256) : Calls Tryz.prog 34 #[.agg #[.int .u8 ho, .int .u16 bo, .int .u16 st, .int .i64 n], .int .u8 t, .int .i64 l] w fun e w' => e = .returned (.tuple #[.int .u8 (Gn.old n t : Nat), .int .i64 0]) ∧ w.grownBy w' none := by
  have hO := fun w hv => olderC ho bo st n t hn1 hn2 w hv
  generalize Gn.old n t = z at hO ⊢
  have hmn : ∀ (ts : Array TypeId) (t' : TypeId) (w : World), (Builtin.min_ ts t' #[.int .u8 t, .int .u8 1]).run Tryz.prog w = .ok (.int .u8 1) w := fun ts t' w => by rw [run_min_int2, if_pos (by omega)]
  have t0 : ¬ (t : Int) = 0 := by omega
  have t1 : ¬ (t : Int) = 1 := by omega
  have t0' : ((t : Int) == 0) = false := by simp; omega
  have t1' : ((t : Int) == 1) = false := by simp; omega
  clear ht hn1 hn2
  have hn := fun w hv => bnextC ho bo st hh hb hs 1 l w hv
  rw [hV.out, hE.out] at hn
  clear hV hE
  obtain ⟨W1, hW1, sz1, g1, B1⟩ := boxn w #[.int .u8 ho, .int .u16 bo, .int .u16 st, .int .i64 n] 62
  have hv1 := hvK hv g1
  have b1_1_0 := B1.cell 0 (v := .int .u8 ho) rfl
  have b1_1_1 := B1.cell 1 (v := .int .u16 bo) rfl
  have b1_1_2 := B1.cell 2 (v := .int .u16 st) rfl
  have b1_1_3 := B1.cell 3 (v := .int .i64 n) rfl
  go_enter Tryz.func34, Tryz.ntmps34
  go_wp2_with (first | (go_at_call 58; (fail_if_success (guard_hyp g2)); refine (hn _ hv1).mono ?_; rintro e w2 ⟨rfl, g2⟩; have G2 := gb_trans g1 g2; have hv2 := hvK hv G2; have B1x := B1.kept g2 (by simp); clear b1_1_0 b1_1_1 b1_1_2 b1_1_3; have b1_2_0 := B1x.cell 0 (v := .int .u8 ho) rfl; have b1_2_1 := B1x.cell 1 (v := .int .u16 bo) rfl; have b1_2_2 := B1x.cell 2 (v := .int .u16 st) rfl; have b1_2_3 := B1x.cell 3 (v := .int .i64 n) rfl) | (go_at_call 59; (fail_if_success (guard_hyp g3)); refine (hO _ hv2).mono ?_; rintro e w3 ⟨rfl, g3⟩; have G3 := gb_trans G2 g3; have hv3 := hvK hv G3; have B1xx := B1x.kept g3 (by simp); clear b1_2_0 b1_2_1 b1_2_2 b1_2_3; have b1_3_0 := B1xx.cell 0 (v := .int .u8 ho) rfl; have b1_3_1 := B1xx.cell 1 (v := .int .u16 bo) rfl; have b1_3_2 := B1xx.cell 2 (v := .int .u16 st) rfl; have b1_3_3 := B1xx.cell 3 (v := .int .i64 n) rfl))
  go_ret2
  exact ⟨rfl, G3⟩

theorem Lf.nx_err {ho bo st t : Nat} {l : Int} (hc : Lf.ck ho bo st = 0) (ht : t ≤ 1) : Lf.nxE ho bo st t l = if l < 0 ∨ (Lf.mo ho : Int) < l then 2 else 0 := by
  unfold Lf.nxE
  rw [if_neg (by simp [hc]), if_neg (by omega)]
theorem becomesC (ho bo st : Nat) (n : Int) (hh : ho < 256) (hb : bo < 65536) (hs : st < 65536) (t : Nat) (l : Int) (w : World) (hv : Hid (Hv w)) (hc : Lf.ck ho bo st = 0) (hn1 : (t : Int) < n) (hn0 : 2 ≤ n) (hn2 : n ≤ 256) : Calls Tryz.prog 34 #[.agg #[.int .u8 ho, .int .u16 bo, .int .u16 st, .int .i64 n], .int .u8 t, .int .i64 l] w fun e w' => e = .returned (.tuple #[.int .u8 (Gn.nxV ho bo st n t l : Nat), .int .i64 (Gn.nxE ho bo st n t l : Nat)]) ∧ w.grownBy w' none := by
  have hck : Gn.ck ho bo st n = 0 := by
    unfold Gn.ck
    rw [if_pos hc, if_pos (by unfold Gn.may; simp; omega)]
  have hE : Gn.nxE ho bo st n t l = if l < 0 ∨ (Lf.mo ho : Int) < l then 2 else 0 := by
    unfold Gn.nxE
    rw [if_neg (by simp [hck]), if_neg (by omega)]
  unfold Gn.nxV
  rw [hE]
  by_cases hl : l < 0 ∨ (Lf.mo ho : Int) < l
  · have e0 : Lf.nxE ho bo st 0 l = 2 := by rw [Lf.nx_err hc (by omega), if_pos hl]
    have e1 : Lf.nxE ho bo st 1 l = 2 := by rw [Lf.nx_err hc (by omega), if_pos hl]
    rw [if_pos hl]
    rw [if_neg (by decide)]
    by_cases t0 : t = 0
    · exact bec0e ho bo st n hh hb hs t l w hv _ 2 rfl e0 (by decide) t0
    · by_cases t1 : t = 1
      · exact bec1e ho bo st n hh hb hs t l w hv _ 2 rfl e1 (by decide) t1
      · exact bec2e ho bo st n hh hb hs t l w hv _ 2 rfl e1 (by decide) (by omega)
  · have e0 : Lf.nxE ho bo st 0 l = 0 := by rw [Lf.nx_err hc (by omega), if_neg hl]
    have e1 : Lf.nxE ho bo st 1 l = 0 := by rw [Lf.nx_err hc (by omega), if_neg hl]
    rw [if_neg hl]
    rw [if_pos rfl]
    by_cases t0 : t = 0
    · rw [if_pos t0]
      refine bec0 ho bo st n hh hb hs t l w hv _ ?_ e0 t0
      unfold Hid Lf.nxV
      rw [e0]; rfl
    · rw [if_neg t0]
      by_cases t1 : t = 1
      · cases hb1 : st.testBit l.toNat with
        | true =>
          rw [if_pos ⟨t1, rfl⟩]
          refine bec1 ho bo st n hh hb hs t l w hv ?_ e1 t1
          unfold Hid Lf.nxV
          rw [e1, if_pos rfl, if_pos rfl, hb1]; rfl
        | false =>
          rw [if_neg (by simp)]
          refine bec1o ho bo st n hh hb hs t l w hv ?_ e1 t1 hn1 hn2
          unfold Hid Lf.nxV
          rw [e1, if_pos rfl, if_pos rfl, hb1]; rfl
      · rw [if_neg (by simp [t1])]
        exact bec2 ho bo st n hh hb hs t l w hv _ rfl e1 (by omega) hn1 hn2
set_option maxHeartbeats 1000000 in
theorem gnx1 (ho bo st : Nat) (n : Int) (hh : ho < 256) (hb : bo < 65536) (hs : st < 65536) (t : Nat) (h8 : t < 256) (l : Int) (w : World) (hv : Hid (Hv w)) (hc : ¬ ((Gn.ck ho bo st n : Nat) : Int) = 0) : Calls Tryz.prog 15 #[.agg #[.int .u8 ho, .int .u16 bo, .int .u16 st, .int .i64 n], .int .u8 t, .int .i64 l] w fun e w' => e = .returned (.tuple #[.int .u8 0, .int .i64 (Gn.ck ho bo st n : Nat)]) ∧ w.grownBy w' none := by
  have hk := fun w hv => gcheckC ho bo st n hh hb hs w hv
  have h8' : (t : Int) < 256 := by omega
  generalize Gn.ck ho bo st n = q at hk hc ⊢
  obtain ⟨W1, hW1, sz1, g1, B1⟩ := boxn w #[.int .u8 ho, .int .u16 bo, .int .u16 st, .int .i64 n] 27
  have hv1 := hvK hv g1
  have b1_1_0 := B1.cell 0 (v := .int .u8 ho) rfl
  have b1_1_1 := B1.cell 1 (v := .int .u16 bo) rfl
  have b1_1_2 := B1.cell 2 (v := .int .u16 st) rfl
  have b1_1_3 := B1.cell 3 (v := .int .i64 n) rfl
  go_enter Tryz.func15, Tryz.ntmps15
  go_wp2_with (first | (go_at_call 13; (fail_if_success (guard_hyp g2)); refine (hk _ hv1).mono ?_; rintro e w2 ⟨rfl, g2⟩; have G2 := gb_trans g1 g2; have hv2 := hvK hv G2; have B1x := B1.kept g2 (by simp); clear b1_1_0 b1_1_1 b1_1_2 b1_1_3; have b1_2_0 := B1x.cell 0 (v := .int .u8 ho) rfl; have b1_2_1 := B1x.cell 1 (v := .int .u16 bo) rfl; have b1_2_2 := B1x.cell 2 (v := .int .u16 st) rfl; have b1_2_3 := B1x.cell 3 (v := .int .i64 n) rfl))
  go_ret2
  exact ⟨rfl, G2⟩
set_option maxHeartbeats 1000000 in
theorem gnx2 (ho bo st : Nat) (n : Int) (hh : ho < 256) (hb : bo < 65536) (hs : st < 65536) (t : Nat) (h8 : t < 256) (l : Int) (w : World) (hv : Hid (Hv w)) (hc : Gn.ck ho bo st n = 0) (ht : n ≤ (t : Int)) : Calls Tryz.prog 15 #[.agg #[.int .u8 ho, .int .u16 bo, .int .u16 st, .int .i64 n], .int .u8 t, .int .i64 l] w fun e w' => e = .returned (.tuple #[.int .u8 0, .int .i64 7]) ∧ w.grownBy w' none := by
  have hk := fun w hv => gcheckC ho bo st n hh hb hs w hv
  have h8' : (t : Int) < 256 := by omega
  rw [hc] at hk
  clear hc
  obtain ⟨W1, hW1, sz1, g1, B1⟩ := boxn w #[.int .u8 ho, .int .u16 bo, .int .u16 st, .int .i64 n] 27
  have hv1 := hvK hv g1
  have b1_1_0 := B1.cell 0 (v := .int .u8 ho) rfl
  have b1_1_1 := B1.cell 1 (v := .int .u16 bo) rfl
  have b1_1_2 := B1.cell 2 (v := .int .u16 st) rfl
  have b1_1_3 := B1.cell 3 (v := .int .i64 n) rfl
  go_enter Tryz.func15, Tryz.ntmps15
  go_wp2_with (first | (go_at_call 13; (fail_if_success (guard_hyp g2)); refine (hk _ hv1).mono ?_; rintro e w2 ⟨rfl, g2⟩; have G2 := gb_trans g1 g2; have hv2 := hvK hv G2; have B1x := B1.kept g2 (by simp); clear b1_1_0 b1_1_1 b1_1_2 b1_1_3; have b1_2_0 := B1x.cell 0 (v := .int .u8 ho) rfl; have b1_2_1 := B1x.cell 1 (v := .int .u16 bo) rfl; have b1_2_2 := B1x.cell 2 (v := .int .u16 st) rfl; have b1_2_3 := B1x.cell 3 (v := .int .i64 n) rfl))
  go_ret2
  exact ⟨rfl, G2⟩
set_option maxHeartbeats 1000000 in
theorem gnx3 (ho bo st : Nat) (n : Int) (hh : ho < 256) (hb : bo < 65536) (hs : st < 65536) (t : Nat) (h8 : t < 256) (l : Int) (w : World) (hv : Hid (Hv w)) (hc : Gn.ck ho bo st n = 0) (ht : ¬ n ≤ (t : Int)) : Calls Tryz.prog 15 #[.agg #[.int .u8 ho, .int .u16 bo, .int .u16 st, .int .i64 n], .int .u8 t, .int .i64 l] w fun e w' => e = .returned (.tuple #[.int .u8 (Gn.nxV ho bo st n t l : Nat), .int .i64 (Gn.nxE ho bo st n t l : Nat)]) ∧ w.grownBy w' none := by
  have hk := fun w hv => gcheckC ho bo st n hh hb hs w hv
  have h8' : (t : Int) < 256 := by omega
  rw [hc] at hk
  have hi := Gn.ck_in hc
  have hB := fun w hv => becomesC ho bo st n hh hb hs t l w hv hi.1 (by omega) hi.2.1 hi.2.2
  generalize Gn.nxV ho bo st n t l = V at hB ⊢
  generalize Gn.nxE ho bo st n t l = E at hB ⊢
  clear hc hi
  obtain ⟨W1, hW1, sz1, g1, B1⟩ := boxn w #[.int .u8 ho, .int .u16 bo, .int .u16 st, .int .i64 n] 27
  have hv1 := hvK hv g1
  have b1_1_0 := B1.cell 0 (v := .int .u8 ho) rfl
  have b1_1_1 := B1.cell 1 (v := .int .u16 bo) rfl
  have b1_1_2 := B1.cell 2 (v := .int .u16 st) rfl
  have b1_1_3 := B1.cell 3 (v := .int .i64 n) rfl
  go_enter Tryz.func15, Tryz.ntmps15
  go_wp2_with (first | (go_at_call 13; (fail_if_success (guard_hyp g2)); refine (hk _ hv1).mono ?_; rintro e w2 ⟨rfl, g2⟩; have G2 := gb_trans g1 g2; have hv2 := hvK hv G2; have B1x := B1.kept g2 (by simp); obtain ⟨W3, hW3, sz3, g3, B3⟩ := boxn w2 #[.int .u8 ho, .int .u16 bo, .int .u16 st, .int .i64 n] 62; have G3 := gb_trans G2 g3; have hv3 := hvK hv G3; have B1xx := B1x.kept g3 (by simp); clear b1_1_0 b1_1_1 b1_1_2 b1_1_3; have b1_3_0 := B1xx.cell 0 (v := .int .u8 ho) rfl; have b1_3_1 := B1xx.cell 1 (v := .int .u16 bo) rfl; have b1_3_2 := B1xx.cell 2 (v := .int .u16 st) rfl; have b1_3_3 := B1xx.cell 3 (v := .int .i64 n) rfl; have b3_3_0 := B3.cell 0 (v := .int .u8 ho) rfl; have b3_3_1 := B3.cell 1 (v := .int .u16 bo) rfl; have b3_3_2 := B3.cell 2 (v := .int .u16 st) rfl; have b3_3_3 := B3.cell 3 (v := .int .i64 n) rfl; have zz0 := B1x.cell 0 (v := .int .u8 ho) rfl; have zz1 := B1x.cell 1 (v := .int .u16 bo) rfl; have zz2 := B1x.cell 2 (v := .int .u16 st) rfl; have zz3 := B1x.cell 3 (v := .int .i64 n) rfl) | (go_at_call 34; (fail_if_success (guard_hyp g4)); refine (hB _ hv3).mono ?_; rintro e w4 ⟨rfl, g4⟩; have G4 := gb_trans G3 g4; have hv4 := hvK hv G4; have B1xxx := B1xx.kept g4 (by simp); have B3x := B3.kept g4 (by simp); clear b1_3_0 b1_3_1 b1_3_2 b1_3_3 b3_3_0 b3_3_1 b3_3_2 b3_3_3; have b1_4_0 := B1xxx.cell 0 (v := .int .u8 ho) rfl; have b1_4_1 := B1xxx.cell 1 (v := .int .u16 bo) rfl; have b1_4_2 := B1xxx.cell 2 (v := .int .u16 st) rfl; have b1_4_3 := B1xxx.cell 3 (v := .int .i64 n) rfl; have b3_4_0 := B3x.cell 0 (v := .int .u8 ho) rfl; have b3_4_1 := B3x.cell 1 (v := .int .u16 bo) rfl; have b3_4_2 := B3x.cell 2 (v := .int .u16 st) rfl; have b3_4_3 := B3x.cell 3 (v := .int .i64 n) rfl))
  go_ret2
  exact ⟨rfl, G4⟩
theorem gnextC (ho bo st : Nat) (n : Int) (hh : ho < 256) (hb : bo < 65536) (hs : st < 65536) (t : Nat) (h8 : t < 256) (l : Int) (w : World) (hv : Hid (Hv w)) : Calls Tryz.prog 15 #[.agg #[.int .u8 ho, .int .u16 bo, .int .u16 st, .int .i64 n], .int .u8 t, .int .i64 l] w fun e w' => e = .returned (.tuple #[.int .u8 (Gn.nxV ho bo st n t l : Nat), .int .i64 (Gn.nxE ho bo st n t l : Nat)]) ∧ w.grownBy w' none := by
  by_cases hc : Gn.ck ho bo st n = 0
  · by_cases ht : n ≤ (t : Int)
    · have e : Gn.nxE ho bo st n t l = 7 := by unfold Gn.nxE; rw [if_neg (by simp [hc]), if_pos ht]
      have v : Gn.nxV ho bo st n t l = 0 := by unfold Gn.nxV; rw [e, if_neg (by decide)]
      rw [e, v]
      exact gnx2 ho bo st n hh hb hs t h8 l w hv hc ht
    · exact gnx3 ho bo st n hh hb hs t h8 l w hv hc ht
  · have e : Gn.nxE ho bo st n t l = Gn.ck ho bo st n := by unfold Gn.nxE; rw [if_pos hc]
    have v : Gn.nxV ho bo st n t l = 0 := by unfold Gn.nxV; rw [e, if_neg hc]
    rw [v, e]
    exact gnx1 ho bo st n hh hb hs t h8 l w hv (by omega)
end Go.Proofs.YtlkdenanbofliaaGreatDoor
