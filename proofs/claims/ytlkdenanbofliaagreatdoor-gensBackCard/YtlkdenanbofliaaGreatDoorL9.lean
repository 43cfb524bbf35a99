/- What Print, Next, exchanged, Turned of package life answer. -/
import Derived.Test.YtlkdenanbofliaaGreatDoorL8
namespace Go.Proofs.YtlkdenanbofliaaGreatDoor
open Go.RowKit
set_option linter.unusedVariables false
set_option linter.unusedSimpArgs false
set_option maxRecDepth 100000

theorem Lf.ck_in {ho bo st : Nat} (h : Lf.ck ho bo st = 0) : 1 ≤ ho ∧ ho ≤ 3 ∧ bo < 2 ^ (Lf.mo ho + 1) ∧ st < 2 ^ (Lf.mo ho + 1) := by
  unfold Lf.ck at h
  split at h
  · rename_i h1
    split at h
    · rename_i h2; exact ⟨h1.1, h1.2, h2.1, h2.2⟩
    · cases h
  · cases h
theorem printC (ho bo st : Nat) (hh : ho < 256) (hb : bo < 65536) (hs : st < 65536) (w : World) (hv : Hid (Hv w)) : Calls Tryz.prog 27 #[.agg #[.int .u8 ho, .int .u16 bo, .int .u16 st]] w fun e w' => e = .returned (.tuple #[.string (Lf.pr ho bo st), .int .i64 (Lf.ck ho bo st : Nat)]) ∧ w.grownBy w' none := by
  unfold Lf.pr
  by_cases hc : Lf.ck ho bo st = 0
  · have hi := Lf.ck_in hc
    rw [if_pos hc, hc]
    exact printFine ho bo st hh hb hs w hv hi.1 hi.2.1 hc
  · rw [if_neg hc]
    exact printBad ho bo st hh hb hs w hv (by omega)

namespace Lf
theorem mo_le (h : Nat) : mo h ≤ 8 := by unfold mo; split; decide; split <;> decide
end Lf

namespace Lf
def nxE (ho bo st t : Nat) (l : Int) : Nat := if ck ho bo st ≠ 0 then ck ho bo st else if 1 < t then 7 else if l < 0 ∨ (mo ho : Int) < l then 2 else 0
def nxV (ho bo st t : Nat) (l : Int) : Nat := if nxE ho bo st t l = 0 then (if (if t = 1 then st else bo).testBit l.toNat then 1 else 0) else 0
end Lf
set_option maxHeartbeats 1000000 in
theorem next1 (ho bo st : Nat) (hh : ho < 256) (hb : bo < 65536) (hs : st < 65536) (t : Nat) (l : Int) (w : World) (hv : Hid (Hv w)) (hc : ¬ ((Lf.ck ho bo st : Nat) : Int) = 0) : Calls Tryz.prog 17 #[.agg #[.int .u8 ho, .int .u16 bo, .int .u16 st], .int .u8 t, .int .i64 l] w fun e w' => e = .returned (.tuple #[.int .u8 0, .int .i64 (Lf.ck ho bo st : Nat)]) ∧ w.grownBy w' none := by
  have hg := fun w hv => greatestC ho bo st hh hb hs w hv
  generalize Lf.ck ho bo st = q at hg hc ⊢
  generalize Lf.gm ho bo st = g at hg
  obtain ⟨W1, hW1, sz1, g1, B1⟩ := boxn w #[.int .u8 ho, .int .u16 bo, .int .u16 st] 25
  have hv1 := hvK hv g1
  have c0 := B1.cell 0 (v := .int .u8 ho) rfl
  have c1 := B1.cell 1 (v := .int .u16 bo) rfl
  have c2 := B1.cell 2 (v := .int .u16 st) rfl
  go_enter Tryz.func17, Tryz.ntmps17
  go_wp2_with (first | (go_at_call 35; refine (hg _ hv1).mono ?_; rintro e w3 ⟨rfl, g3⟩; have B13 := B1.kept g3 (by simp); have k1 := B13.cell 1 (v := .int .u16 bo) rfl; have k2 := B13.cell 2 (v := .int .u16 st) rfl; have G3 := gb_trans g1 g3))
  go_ret2
  exact ⟨rfl, G3⟩

set_option maxHeartbeats 1000000 in
theorem next2 (ho bo st : Nat) (hh : ho < 256) (hb : bo < 65536) (hs : st < 65536) (t : Nat) (l : Int) (w : World) (hv : Hid (Hv w)) (hc : Lf.ck ho bo st = 0) (ht : (1 : Int) < (t : Int)) : Calls Tryz.prog 17 #[.agg #[.int .u8 ho, .int .u16 bo, .int .u16 st], .int .u8 t, .int .i64 l] w fun e w' => e = .returned (.tuple #[.int .u8 0, .int .i64 7]) ∧ w.grownBy w' none := by
  have hg := fun w hv => greatestC ho bo st hh hb hs w hv
  unfold Lf.gm at hg
  rw [hc] at hg
  simp only [if_true] at hg
  generalize Lf.mo ho = g at *
  obtain ⟨W1, hW1, sz1, g1, B1⟩ := boxn w #[.int .u8 ho, .int .u16 bo, .int .u16 st] 25
  have hv1 := hvK hv g1
  have c0 := B1.cell 0 (v := .int .u8 ho) rfl
  have c1 := B1.cell 1 (v := .int .u16 bo) rfl
  have c2 := B1.cell 2 (v := .int .u16 st) rfl
  go_enter Tryz.func17, Tryz.ntmps17
  go_wp2_with (first | (go_at_call 35; refine (hg _ hv1).mono ?_; rintro e w3 ⟨rfl, g3⟩; have B13 := B1.kept g3 (by simp); have k1 := B13.cell 1 (v := .int .u16 bo) rfl; have k2 := B13.cell 2 (v := .int .u16 st) rfl; have G3 := gb_trans g1 g3))
  go_ret2
  exact ⟨rfl, G3⟩

set_option maxHeartbeats 1000000 in
theorem next3 (ho bo st : Nat) (hh : ho < 256) (hb : bo < 65536) (hs : st < 65536) (t : Nat) (l : Int) (w : World) (hv : Hid (Hv w)) (hc : Lf.ck ho bo st = 0) (ht : ¬ (1 : Int) < (t : Int)) (hl : l < 0) : Calls Tryz.prog 17 #[.agg #[.int .u8 ho, .int .u16 bo, .int .u16 st], .int .u8 t, .int .i64 l] w fun e w' => e = .returned (.tuple #[.int .u8 0, .int .i64 2]) ∧ w.grownBy w' none := by
  have hg := fun w hv => greatestC ho bo st hh hb hs w hv
  unfold Lf.gm at hg
  rw [hc] at hg
  simp only [if_true] at hg
  generalize Lf.mo ho = g at *
  obtain ⟨W1, hW1, sz1, g1, B1⟩ := boxn w #[.int .u8 ho, .int .u16 bo, .int .u16 st] 25
  have hv1 := hvK hv g1
  have c0 := B1.cell 0 (v := .int .u8 ho) rfl
  have c1 := B1.cell 1 (v := .int .u16 bo) rfl
  have c2 := B1.cell 2 (v := .int .u16 st) rfl
  go_enter Tryz.func17, Tryz.ntmps17
  go_wp2_with (first | (go_at_call 35; refine (hg _ hv1).mono ?_; rintro e w3 ⟨rfl, g3⟩; have B13 := B1.kept g3 (by simp); have k1 := B13.cell 1 (v := .int .u16 bo) rfl; have k2 := B13.cell 2 (v := .int .u16 st) rfl; have G3 := gb_trans g1 g3))
  go_ret2
  exact ⟨rfl, G3⟩

set_option maxHeartbeats 1000000 in
theorem next4 (ho bo st : Nat) (hh : ho < 256) (hb : bo < 65536) (hs : st < 65536) (t : Nat) (l : Int) (w : World) (hv : Hid (Hv w)) (hc : Lf.ck ho bo st = 0) (ht : ¬ (1 : Int) < (t : Int)) (hl : ¬ l < 0) (hm : ((Lf.mo ho : Nat) : Int) < l) : Calls Tryz.prog 17 #[.agg #[.int .u8 ho, .int .u16 bo, .int .u16 st], .int .u8 t, .int .i64 l] w fun e w' => e = .returned (.tuple #[.int .u8 0, .int .i64 2]) ∧ w.grownBy w' none := by
  have hg := fun w hv => greatestC ho bo st hh hb hs w hv
  unfold Lf.gm at hg
  rw [hc] at hg
  simp only [if_true] at hg
  generalize Lf.mo ho = g at *
  obtain ⟨W1, hW1, sz1, g1, B1⟩ := boxn w #[.int .u8 ho, .int .u16 bo, .int .u16 st] 25
  have hv1 := hvK hv g1
  have c0 := B1.cell 0 (v := .int .u8 ho) rfl
  have c1 := B1.cell 1 (v := .int .u16 bo) rfl
  have c2 := B1.cell 2 (v := .int .u16 st) rfl
  go_enter Tryz.func17, Tryz.ntmps17
  go_wp2_with (first | (go_at_call 35; refine (hg _ hv1).mono ?_; rintro e w3 ⟨rfl, g3⟩; have B13 := B1.kept g3 (by simp); have k1 := B13.cell 1 (v := .int .u16 bo) rfl; have k2 := B13.cell 2 (v := .int .u16 st) rfl; have G3 := gb_trans g1 g3))
  go_ret2
  exact ⟨rfl, G3⟩

set_option maxHeartbeats 1000000 in
theorem next50 (ho bo st : Nat) (hh : ho < 256) (hb : bo < 65536) (hs : st < 65536) (l : Nat) (w : World) (hv : Hid (Hv w)) (hc : Lf.ck ho bo st = 0) (hm : ¬ ((Lf.mo ho : Nat) : Int) < (l : Int)) : Calls Tryz.prog 17 #[.agg #[.int .u8 ho, .int .u16 bo, .int .u16 st], .int .u8 0, .int .i64 l] w fun e w' => e = .returned (.tuple #[.int .u8 ((if bo.testBit l then 1 else 0 : Nat) : Int), .int .i64 0]) ∧ w.grownBy w' none := by
  have hH := fun w => hasC bo l hb (by have := Lf.mo_le ho; omega) w
  have hg := fun w hv => greatestC ho bo st hh hb hs w hv
  unfold Lf.gm at hg
  rw [hc] at hg
  simp only [if_true] at hg
  generalize Lf.mo ho = g at *
  cases hq : bo.testBit l with
  | true =>
    rw [hq] at hH
    clear hq
    simp only [if_true]
    obtain ⟨W1, hW1, sz1, g1, B1⟩ := boxn w #[.int .u8 ho, .int .u16 bo, .int .u16 st] 25
    have hv1 := hvK hv g1
    have c0 := B1.cell 0 (v := .int .u8 ho) rfl
    have c1 := B1.cell 1 (v := .int .u16 bo) rfl
    have c2 := B1.cell 2 (v := .int .u16 st) rfl
    go_enter Tryz.func17, Tryz.ntmps17
    go_wp2_with (first | (go_at_call 35; refine (hg _ hv1).mono ?_; rintro e w3 ⟨rfl, g3⟩; have B13 := B1.kept g3 (by simp); have k1 := B13.cell 1 (v := .int .u16 bo) rfl; have k2 := B13.cell 2 (v := .int .u16 st) rfl; have G3 := gb_trans g1 g3) | (go_at_call 36; refine (hH _).mono ?_; rintro e w5 ⟨rfl, hw5⟩; subst w5))
    go_ret2
    exact ⟨rfl, G3⟩
  | false =>
    rw [hq] at hH
    clear hq
    simp only [Bool.false_eq_true, if_false]
    obtain ⟨W1, hW1, sz1, g1, B1⟩ := boxn w #[.int .u8 ho, .int .u16 bo, .int .u16 st] 25
    have hv1 := hvK hv g1
    have c0 := B1.cell 0 (v := .int .u8 ho) rfl
    have c1 := B1.cell 1 (v := .int .u16 bo) rfl
    have c2 := B1.cell 2 (v := .int .u16 st) rfl
    go_enter Tryz.func17, Tryz.ntmps17
    go_wp2_with (first | (go_at_call 35; refine (hg _ hv1).mono ?_; rintro e w3 ⟨rfl, g3⟩; have B13 := B1.kept g3 (by simp); have k1 := B13.cell 1 (v := .int .u16 bo) rfl; have k2 := B13.cell 2 (v := .int .u16 st) rfl; have G3 := gb_trans g1 g3) | (go_at_call 36; refine (hH _).mono ?_; rintro e w5 ⟨rfl, hw5⟩; subst w5))
    go_ret2
    exact ⟨rfl, G3⟩

set_option maxHeartbeats 1000000 in
theorem next51 (ho bo st : Nat) (hh : ho < 256) (hb : bo < 65536) (hs : st < 65536) (l : Nat) (w : World) (hv : Hid (Hv w)) (hc : Lf.ck ho bo st = 0) (hm : ¬ ((Lf.mo ho : Nat) : Int) < (l : Int)) : Calls Tryz.prog 17 #[.agg #[.int .u8 ho, .int .u16 bo, .int .u16 st], .int .u8 1, .int .i64 l] w fun e w' => e = .returned (.tuple #[.int .u8 ((if st.testBit l then 1 else 0 : Nat) : Int), .int .i64 0]) ∧ w.grownBy w' none := by
  have hH := fun w => hasC st l hs (by have := Lf.mo_le ho; omega) w
  have hg := fun w hv => greatestC ho bo st hh hb hs w hv
  unfold Lf.gm at hg
  rw [hc] at hg
  simp only [if_true] at hg
  generalize Lf.mo ho = g at *
  cases hq : st.testBit l with
  | true =>
    rw [hq] at hH
    clear hq
    simp only [if_true]
    obtain ⟨W1, hW1, sz1, g1, B1⟩ := boxn w #[.int .u8 ho, .int .u16 bo, .int .u16 st] 25
    have hv1 := hvK hv g1
    have c0 := B1.cell 0 (v := .int .u8 ho) rfl
    have c1 := B1.cell 1 (v := .int .u16 bo) rfl
    have c2 := B1.cell 2 (v := .int .u16 st) rfl
    go_enter Tryz.func17, Tryz.ntmps17
    go_wp2_with (first | (go_at_call 35; refine (hg _ hv1).mono ?_; rintro e w3 ⟨rfl, g3⟩; have B13 := B1.kept g3 (by simp); have k1 := B13.cell 1 (v := .int .u16 bo) rfl; have k2 := B13.cell 2 (v := .int .u16 st) rfl; have G3 := gb_trans g1 g3) | (go_at_call 36; refine (hH _).mono ?_; rintro e w5 ⟨rfl, hw5⟩; subst w5))
    go_ret2
    exact ⟨rfl, G3⟩
  | false =>
    rw [hq] at hH
    clear hq
    simp only [Bool.false_eq_true, if_false]
    obtain ⟨W1, hW1, sz1, g1, B1⟩ := boxn w #[.int .u8 ho, .int .u16 bo, .int .u16 st] 25
    have hv1 := hvK hv g1
    have c0 := B1.cell 0 (v := .int .u8 ho) rfl
    have c1 := B1.cell 1 (v := .int .u16 bo) rfl
    have c2 := B1.cell 2 (v := .int .u16 st) rfl
    go_enter Tryz.func17, Tryz.ntmps17
    go_wp2_with (first | (go_at_call 35; refine (hg _ hv1).mono ?_; rintro e w3 ⟨rfl, g3⟩; have B13 := B1.kept g3 (by simp); have k1 := B13.cell 1 (v := .int .u16 bo) rfl; have k2 := B13.cell 2 (v := .int .u16 st) rfl; have G3 := gb_trans g1 g3) | (go_at_call 36; refine (hH _).mono ?_; rintro e w5 ⟨rfl, hw5⟩; subst w5))
    go_ret2
    exact ⟨rfl, G3⟩

theorem nextC (ho bo st : Nat) (hh : ho < 256) (hb : bo < 65536) (hs : st < 65536) (t : Nat) (l : Int) (w : World) (hv : Hid (Hv w)) : Calls Tryz.prog 17 #[.agg #[.int .u8 ho, .int .u16 bo, .int .u16 st], .int .u8 t, .int .i64 l] w fun e w' => e = .returned (.tuple #[.int .u8 ((Lf.nxV ho bo st t l : Nat) : Int), .int .i64 ((Lf.nxE ho bo st t l : Nat) : Int)]) ∧ w.grownBy w' none := by
  unfold Lf.nxV
  by_cases hc : Lf.ck ho bo st = 0
  · by_cases ht : 1 < t
    · have e : Lf.nxE ho bo st t l = 7 := by unfold Lf.nxE; rw [if_neg (by omega), if_pos ht]
      rw [e]
      exact next2 ho bo st hh hb hs t l w hv hc (by omega)
    · by_cases hl : l < 0
      · have e : Lf.nxE ho bo st t l = 2 := by unfold Lf.nxE; rw [if_neg (by omega), if_neg ht, if_pos (.inl hl)]
        rw [e]
        exact next3 ho bo st hh hb hs t l w hv hc (by omega) hl
      · by_cases hm : (Lf.mo ho : Int) < l
        · have e : Lf.nxE ho bo st t l = 2 := by unfold Lf.nxE; rw [if_neg (by omega), if_neg ht, if_pos (.inr hm)]
          rw [e]
          exact next4 ho bo st hh hb hs t l w hv hc (by omega) hl hm
        · have e : Lf.nxE ho bo st t l = 0 := by unfold Lf.nxE; rw [if_neg (by omega), if_neg ht, if_neg (by omega)]
          rw [e, if_pos rfl]
          obtain ⟨n, rfl⟩ := Int.eq_ofNat_of_zero_le (show 0 ≤ l by omega)
          obtain rfl | rfl : t = 0 ∨ t = 1 := by omega
          · exact next50 ho bo st hh hb hs n w hv hc hm
          · exact next51 ho bo st hh hb hs n w hv hc hm
  · have e : Lf.nxE ho bo st t l = Lf.ck ho bo st := by unfold Lf.nxE; rw [if_pos (by omega)]
    rw [e, if_neg hc]
    exact next1 ho bo st hh hb hs t l w hv (by omega)
end Go.Proofs.YtlkdenanbofliaaGreatDoor
