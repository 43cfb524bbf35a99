/- The walk of GensFades. -/
import Derived.Test.YtlkdenanbofliaaGreatDoorG8
import Derived.Test.YtlkdenanbofliaaGreatDoorOpenG
namespace Go.Proofs.YtlkdenanbofliaaGreatDoor
open Go.RowKit
set_option linter.unusedVariables false
set_option linter.unusedSimpArgs false
set_option maxRecDepth 100000

theorem Sd.kept {w w' : World} {sp : Option Addr} {n : Nat} {F : Nat → Int} (h : Sd w sp n F) (hg : w.grownBy w' none) : Sd w' sp n F := fun k hk => by
  obtain ⟨a, h1, h2⟩ := h k hk
  refine ⟨a, h1, ?_⟩
  have hlt := cell_lt h2
  have e : (a.add k).block = a.block := by unfold Addr.add; split <;> rfl
  have hb := hg.block (a.add k).block hlt (by simp)
  unfold World.cell? at h2 ⊢
  rw [hb]; exact h2
set_option maxHeartbeats 1000000 in
theorem fades0 (ho bo st : Nat) (n : Int) (hh : ho < 256) (hb : bo < 65536) (hs : st < 65536) (m c : Nat) (sp : Option Addr) (w : World) (en : Hid (En w)) (hc : ¬ ((Gn.ck ho bo st n : Nat) : Int) = 0) : Calls Tryz.prog 7 #[.agg #[.int .u8 ho, .int .u16 bo, .int .u16 st, .int .i64 n], .slice sp m c] w fun e w' => e = .returned (.bool true) ∧ w.grownBy w' none := by
  have hv := enH en
  have hk := fun w hv => gcheckC ho bo st n hh hb hs w hv
  generalize Gn.ck ho bo st n = E at hk hc
  obtain ⟨W1, hW1, sz1, g1, B1⟩ := boxn w #[.int .u8 ho, .int .u16 bo, .int .u16 st, .int .i64 n] 27
  have hv1 := hvK hv g1
  have b1_1_0 := B1.cell 0 (v := .int .u8 ho) rfl
  have b1_1_1 := B1.cell 1 (v := .int .u16 bo) rfl
  have b1_1_2 := B1.cell 2 (v := .int .u16 st) rfl
  have b1_1_3 := B1.cell 3 (v := .int .i64 n) rfl
  go_enter Tryz.func7, Tryz.ntmps7
  go_wp2_with (first | (go_at_call 8; (fail_if_success (guard_hyp g2)); refine (awakeC _ (enK en g1)).mono ?_; rintro e w2 ⟨rfl, g2⟩; have G2 := gb_trans g1 g2; have hv2 := hvK hv G2; have B1x := B1.kept g2 (by simp); clear b1_1_0 b1_1_1 b1_1_2 b1_1_3; have b1_2_0 := B1x.cell 0 (v := .int .u8 ho) rfl; have b1_2_1 := B1x.cell 1 (v := .int .u16 bo) rfl; have b1_2_2 := B1x.cell 2 (v := .int .u16 st) rfl; have b1_2_3 := B1x.cell 3 (v := .int .i64 n) rfl) | (go_at_call 13; (fail_if_success (guard_hyp g3)); refine (hk _ hv2).mono ?_; rintro e w3 ⟨rfl, g3⟩; have G3 := gb_trans G2 g3; have hv3 := hvK hv G3; have B1xx := B1x.kept g3 (by simp); clear b1_2_0 b1_2_1 b1_2_2 b1_2_3; have b1_3_0 := B1xx.cell 0 (v := .int .u8 ho) rfl; have b1_3_1 := B1xx.cell 1 (v := .int .u16 bo) rfl; have b1_3_2 := B1xx.cell 2 (v := .int .u16 st) rfl; have b1_3_3 := B1xx.cell 3 (v := .int .i64 n) rfl))
  go_ret
  exact ⟨rfl, G3⟩
namespace Gn
/-- The state of a cell that began to fade, when the count of states is k. -/
def stv (n : Int) (k : Nat) : Nat := if (k : Int) = n ∧ 2 < n then 0 else k
theorem stv_lt {n : Int} {k : Nat} (h : (k : Int) < n) : stv n k = k := by unfold stv; rw [if_neg (by omega)]
theorem stv_next {n : Int} {k : Nat} (h2 : 2 ≤ k) (h : (k : Int) < n) : stv n (k + 1) = old n k := by
  unfold stv old
  by_cases e : (k : Int) + 1 = n
  · rw [if_pos ⟨by omega, by omega⟩, if_pos e]
  · rw [if_neg (by omega), if_neg e]
end Gn
set_option maxHeartbeats 8000000 in
theorem fades1 (bo st : Nat) (n : Int) (hb : bo < 65536) (hs : st < 65536) (m c : Nat) (sp : Option Addr) (L : Nat → Int) (w : World) (hmc : m ≤ c) (hcm : c ≤ 9223372036854775807) (hS : Hid (Sd w sp m L)) (hL : Hid (∀ k, k < m → -9223372036854775808 ≤ L k ∧ L k ≤ 9223372036854775807)) (en : Hid (En w)) (hc : Gn.ck 1 bo st n = 0) : Calls Tryz.prog 7 #[.agg #[.int .u8 1, .int .u16 bo, .int .u16 st, .int .i64 n], .slice sp m c] w fun e w' => e = .returned (.bool true) ∧ w.grownBy w' none := by
  have hv := enH en
  have hk := fun w hv => gcheckC 1 bo st n (by decide) hb hs w hv
  rw [hc] at hk
  have hi := Gn.ck_in hc
  obtain ⟨W1, hW1, sz1, g1, B1⟩ := boxn w #[.int .u8 1, .int .u16 bo, .int .u16 st, .int .i64 n] 27
  have hv1 := hvK hv g1
  have b1_1_0 := B1.cell 0 (v := .int .u8 1) rfl
  have b1_1_1 := B1.cell 1 (v := .int .u16 bo) rfl
  have b1_1_2 := B1.cell 2 (v := .int .u16 st) rfl
  have b1_1_3 := B1.cell 3 (v := .int .i64 n) rfl
  go_enter Tryz.func7, Tryz.ntmps7
  go_wp2_with (first | (go_at_call 8; (fail_if_success (guard_hyp g2)); refine (awakeC _ (enK en g1)).mono ?_; rintro e w2 ⟨rfl, g2⟩; have G2 := gb_trans g1 g2; have hv2 := hvK hv G2; have B1x := B1.kept g2 (by simp); clear b1_1_0 b1_1_1 b1_1_2 b1_1_3; have b1_2_0 := B1x.cell 0 (v := .int .u8 1) rfl; have b1_2_1 := B1x.cell 1 (v := .int .u16 bo) rfl; have b1_2_2 := B1x.cell 2 (v := .int .u16 st) rfl; have b1_2_3 := B1x.cell 3 (v := .int .i64 n) rfl) | (go_at_call 13; (fail_if_success (guard_hyp g3)); refine (hk _ hv2).mono ?_; rintro e w3 ⟨rfl, g3⟩; have G3 := gb_trans G2 g3; have hv3 := hvK hv G3; have B1xx := B1x.kept g3 (by simp); clear b1_2_0 b1_2_1 b1_2_2 b1_2_3; have b1_3_0 := B1xx.cell 0 (v := .int .u8 1) rfl; have b1_3_1 := B1xx.cell 1 (v := .int .u16 bo) rfl; have b1_3_2 := B1xx.cell 2 (v := .int .u16 st) rfl; have b1_3_3 := B1xx.cell 3 (v := .int .i64 n) rfl))
  refine wp_loop_rounds 3 ?_
  rw [rounds_succ]
  go_wp2
  go_loopw [8] (fun v wr => ∃ k : Nat, k ≤ 9 ∧ v = .int .i64 k ∧ w3.grownBy wr none) (fun v _ => 9 - (intOf v).toNat)
  case atStart => exact ⟨0, by omega, rfl, World.grownBy.refl _ _⟩
  case round =>
    obtain ⟨k, hk, rfl, hG⟩ := hrel
    have RB := B1xx.kept hG (by simp)
    have e0 := RB.cell 0 (v := .int .u8 1) rfl
    have e1 := RB.cell 1 (v := .int .u16 bo) rfl
    have e2 := RB.cell 2 (v := .int .u16 st) rfl
    have e3 := RB.cell 3 (v := .int .i64 n) rfl
    have hvr := hvK hv (gb_trans G3 hG)
    by_cases hlt : k < 9
    · have hlt' : (k : Int) ≤ 8 := by omega
      have hN := fun w hv => gnextC 1 bo st n (by decide) hb hs 0 (by decide) (k : Int) w hv
      have hM := fun w hv => nextC 1 bo st (by decide) hb hs 0 (k : Int) w hv
      have eN : Gn.nxE 1 bo st n 0 k = 0 := by
        unfold Gn.nxE
        rw [if_neg (by simp [hc]), if_neg (by omega), if_neg (by show ¬ ((k : Int) < 0 ∨ (8 : Int) < (k : Int)); omega)]
      have eM : Lf.nxE 1 bo st 0 k = 0 := by
        rw [Lf.nx_err hi.1 (by decide), if_neg (by show ¬ ((k : Int) < 0 ∨ (8 : Int) < (k : Int)); omega)]
      have vN : Gn.nxV 1 bo st n 0 k = (if bo.testBit k then 1 else 0) := by
        unfold Gn.nxV
        rw [eN]; rfl
      have vM : Lf.nxV 1 bo st 0 k = (if bo.testBit k then 1 else 0) := by
        unfold Lf.nxV
        rw [eM]; rfl
      cases hq : bo.testBit k with
      | true =>
        rw [hq] at vN vM
        rw [show Gn.nxV 1 bo st n 0 k = 1 from vN, eN] at hN
        rw [show Lf.nxV 1 bo st 0 k = 1 from vM, eM] at hM
        clear hq vN vM eN eM
        have hN : ∀ w, Hid (Hv w) → Calls Tryz.prog 15 #[.agg #[.int .u8 1, .int .u16 bo, .int .u16 st, .int .i64 n], .int .u8 0, .int .i64 k] w fun e w' => e = .returned (.tuple #[.int .u8 1, .int .i64 0]) ∧ w.grownBy w' none := hN
        have hM : ∀ w, Hid (Hv w) → Calls Tryz.prog 17 #[.agg #[.int .u8 1, .int .u16 bo, .int .u16 st], .int .u8 0, .int .i64 k] w fun e w' => e = .returned (.tuple #[.int .u8 1, .int .i64 0]) ∧ w.grownBy w' none := hM
        go_wp2_with (first | (go_at_call 15; refine (hN _ hvr).mono ?_; rintro e w5 ⟨rfl, g5⟩; have B5 := RB.kept g5 (by simp); have p0 := B5.cell 0 (v := .int .u8 1) rfl; have p1 := B5.cell 1 (v := .int .u16 bo) rfl; have p2 := B5.cell 2 (v := .int .u16 st) rfl; have p3 := B5.cell 3 (v := .int .i64 n) rfl; have hv5 := hvK hvr g5) | (go_at_call 17; refine (hM _ hv5).mono ?_; rintro e w6 ⟨rfl, g6⟩; have B6 := B5.kept g6 (by simp); have q0 := B6.cell 0 (v := .int .u8 1) rfl; have q1 := B6.cell 1 (v := .int .u16 bo) rfl; have q2 := B6.cell 2 (v := .int .u16 st) rfl; have q3 := B6.cell 3 (v := .int .i64 n) rfl))
        exact ⟨⟨k + 1, by omega, by simp, gb_trans hG (gb_trans g5 g6)⟩, by simp [intOf]; omega⟩
      | false =>
        rw [hq] at vN vM
        rw [show Gn.nxV 1 bo st n 0 k = 0 from vN, eN] at hN
        rw [show Lf.nxV 1 bo st 0 k = 0 from vM, eM] at hM
        clear hq vN vM eN eM
        have hN : ∀ w, Hid (Hv w) → Calls Tryz.prog 15 #[.agg #[.int .u8 1, .int .u16 bo, .int .u16 st, .int .i64 n], .int .u8 0, .int .i64 k] w fun e w' => e = .returned (.tuple #[.int .u8 0, .int .i64 0]) ∧ w.grownBy w' none := hN
        have hM : ∀ w, Hid (Hv w) → Calls Tryz.prog 17 #[.agg #[.int .u8 1, .int .u16 bo, .int .u16 st], .int .u8 0, .int .i64 k] w fun e w' => e = .returned (.tuple #[.int .u8 0, .int .i64 0]) ∧ w.grownBy w' none := hM
        go_wp2_with (first | (go_at_call 15; refine (hN _ hvr).mono ?_; rintro e w5 ⟨rfl, g5⟩; have B5 := RB.kept g5 (by simp); have p0 := B5.cell 0 (v := .int .u8 1) rfl; have p1 := B5.cell 1 (v := .int .u16 bo) rfl; have p2 := B5.cell 2 (v := .int .u16 st) rfl; have p3 := B5.cell 3 (v := .int .i64 n) rfl; have hv5 := hvK hvr g5) | (go_at_call 17; refine (hM _ hv5).mono ?_; rintro e w6 ⟨rfl, g6⟩; have B6 := B5.kept g6 (by simp); have q0 := B6.cell 0 (v := .int .u8 1) rfl; have q1 := B6.cell 1 (v := .int .u16 bo) rfl; have q2 := B6.cell 2 (v := .int .u16 st) rfl; have q3 := B6.cell 3 (v := .int .i64 n) rfl))
        exact ⟨⟨k + 1, by omega, by simp, gb_trans hG (gb_trans g5 g6)⟩, by simp [intOf]; omega⟩
    · obtain rfl : k = 9 := by omega
      go_wp2
      rw [rounds_succ]
      go_wp2
      go_loopw [8] (fun v wr => ∃ k : Nat, k ≤ 9 ∧ v = .int .i64 k ∧ w3.grownBy wr none) (fun v _ => 9 - (intOf v).toNat)
      case atStart => exact ⟨0, by omega, rfl, hG⟩
      case round =>
        obtain ⟨k, hk, rfl, hG⟩ := hrel
        have RB := B1xx.kept hG (by simp)
        have e0 := RB.cell 0 (v := .int .u8 1) rfl
        have e1 := RB.cell 1 (v := .int .u16 bo) rfl
        have e2 := RB.cell 2 (v := .int .u16 st) rfl
        have e3 := RB.cell 3 (v := .int .i64 n) rfl
        have hvr := hvK hv (gb_trans G3 hG)
        by_cases hlt : k < 9
        · have hlt' : (k : Int) ≤ 8 := by omega
          have hN := fun w hv => gnextC 1 bo st n (by decide) hb hs 1 (by decide) (k : Int) w hv
          have hM := fun w hv => nextC 1 bo st (by decide) hb hs 1 (k : Int) w hv
          have eN : Gn.nxE 1 bo st n 1 k = 0 := by
            unfold Gn.nxE
            rw [if_neg (by simp [hc]), if_neg (by omega), if_neg (by show ¬ ((k : Int) < 0 ∨ (8 : Int) < (k : Int)); omega)]
          have eM : Lf.nxE 1 bo st 1 k = 0 := by
            rw [Lf.nx_err hi.1 (by decide), if_neg (by show ¬ ((k : Int) < 0 ∨ (8 : Int) < (k : Int)); omega)]
          have vN : Gn.nxV 1 bo st n 1 k = (if 1 = 1 ∧ st.testBit k = true then 1 else Gn.old n 1) := by
            unfold Gn.nxV
            rw [eN]; rfl
          have vM : Lf.nxV 1 bo st 1 k = (if st.testBit k then 1 else 0) := by
            unfold Lf.nxV
            rw [eM]; rfl
          by_cases hq : st.testBit k = true
          · rw [hq] at vM
            rw [if_pos ⟨rfl, hq⟩] at vN
            rw [show Gn.nxV 1 bo st n 1 k = 1 from vN, eN] at hN
            rw [show Lf.nxV 1 bo st 1 k = 1 from vM, eM] at hM
            clear hq vN vM eN eM
            have hN : ∀ w, Hid (Hv w) → Calls Tryz.prog 15 #[.agg #[.int .u8 1, .int .u16 bo, .int .u16 st, .int .i64 n], .int .u8 1, .int .i64 k] w fun e w' => e = .returned (.tuple #[.int .u8 1, .int .i64 0]) ∧ w.grownBy w' none := hN
            have hM : ∀ w, Hid (Hv w) → Calls Tryz.prog 17 #[.agg #[.int .u8 1, .int .u16 bo, .int .u16 st], .int .u8 1, .int .i64 k] w fun e w' => e = .returned (.tuple #[.int .u8 1, .int .i64 0]) ∧ w.grownBy w' none := hM
            go_wp2_with (first | (go_at_call 15; refine (hN _ hvr).mono ?_; rintro e w5 ⟨rfl, g5⟩; have B5 := RB.kept g5 (by simp); have p0 := B5.cell 0 (v := .int .u8 1) rfl; have p1 := B5.cell 1 (v := .int .u16 bo) rfl; have p2 := B5.cell 2 (v := .int .u16 st) rfl; have p3 := B5.cell 3 (v := .int .i64 n) rfl; have hv5 := hvK hvr g5) | (go_at_call 17; refine (hM _ hv5).mono ?_; rintro e w6 ⟨rfl, g6⟩; have B6 := B5.kept g6 (by simp); have q0 := B6.cell 0 (v := .int .u8 1) rfl; have q1 := B6.cell 1 (v := .int .u16 bo) rfl; have q2 := B6.cell 2 (v := .int .u16 st) rfl; have q3 := B6.cell 3 (v := .int .i64 n) rfl))
            exact ⟨⟨k + 1, by omega, by simp, gb_trans hG (gb_trans g5 g6)⟩, by simp [intOf]; omega⟩
          · rw [if_neg (by simp [hq])] at vN
            rw [show st.testBit k = false by simpa using hq] at vM
            rw [show Lf.nxV 1 bo st 1 k = 0 from vM, eM] at hM
            by_cases h2 : n = 2
            · have h2n : ¬ 2 < n := by omega
              rw [show Gn.nxV 1 bo st n 1 k = 0 from vN.trans (by unfold Gn.old; rw [if_pos (by omega)]), eN] at hN
              clear hq vN vM eN eM h2
              have hN : ∀ w, Hid (Hv w) → Calls Tryz.prog 15 #[.agg #[.int .u8 1, .int .u16 bo, .int .u16 st, .int .i64 n], .int .u8 1, .int .i64 k] w fun e w' => e = .returned (.tuple #[.int .u8 0, .int .i64 0]) ∧ w.grownBy w' none := hN
              have hM : ∀ w, Hid (Hv w) → Calls Tryz.prog 17 #[.agg #[.int .u8 1, .int .u16 bo, .int .u16 st], .int .u8 1, .int .i64 k] w fun e w' => e = .returned (.tuple #[.int .u8 0, .int .i64 0]) ∧ w.grownBy w' none := hM
              go_wp2_with (first | (go_at_call 15; refine (hN _ hvr).mono ?_; rintro e w5 ⟨rfl, g5⟩; have B5 := RB.kept g5 (by simp); have p0 := B5.cell 0 (v := .int .u8 1) rfl; have p1 := B5.cell 1 (v := .int .u16 bo) rfl; have p2 := B5.cell 2 (v := .int .u16 st) rfl; have p3 := B5.cell 3 (v := .int .i64 n) rfl; have hv5 := hvK hvr g5) | (go_at_call 17; refine (hM _ hv5).mono ?_; rintro e w6 ⟨rfl, g6⟩; have B6 := B5.kept g6 (by simp); have q0 := B6.cell 0 (v := .int .u8 1) rfl; have q1 := B6.cell 1 (v := .int .u16 bo) rfl; have q2 := B6.cell 2 (v := .int .u16 st) rfl; have q3 := B6.cell 3 (v := .int .i64 n) rfl))
              exact ⟨⟨k + 1, by omega, by simp, gb_trans hG (gb_trans g5 g6)⟩, by simp [intOf]; omega⟩
            · have h2n : 2 < n := by omega
              rw [show Gn.nxV 1 bo st n 1 k = 2 from vN.trans (by unfold Gn.old; rw [if_neg (by omega)]), eN] at hN
              clear hq vN vM eN eM h2
              have hN : ∀ w, Hid (Hv w) → Calls Tryz.prog 15 #[.agg #[.int .u8 1, .int .u16 bo, .int .u16 st, .int .i64 n], .int .u8 1, .int .i64 k] w fun e w' => e = .returned (.tuple #[.int .u8 2, .int .i64 0]) ∧ w.grownBy w' none := hN
              have hM : ∀ w, Hid (Hv w) → Calls Tryz.prog 17 #[.agg #[.int .u8 1, .int .u16 bo, .int .u16 st], .int .u8 1, .int .i64 k] w fun e w' => e = .returned (.tuple #[.int .u8 0, .int .i64 0]) ∧ w.grownBy w' none := hM
              go_wp2_with (first | (go_at_call 15; refine (hN _ hvr).mono ?_; rintro e w5 ⟨rfl, g5⟩; have B5 := RB.kept g5 (by simp); have p0 := B5.cell 0 (v := .int .u8 1) rfl; have p1 := B5.cell 1 (v := .int .u16 bo) rfl; have p2 := B5.cell 2 (v := .int .u16 st) rfl; have p3 := B5.cell 3 (v := .int .i64 n) rfl; have hv5 := hvK hvr g5) | (go_at_call 17; refine (hM _ hv5).mono ?_; rintro e w6 ⟨rfl, g6⟩; have B6 := B5.kept g6 (by simp); have q0 := B6.cell 0 (v := .int .u8 1) rfl; have q1 := B6.cell 1 (v := .int .u16 bo) rfl; have q2 := B6.cell 2 (v := .int .u16 st) rfl; have q3 := B6.cell 3 (v := .int .i64 n) rfl))
              exact ⟨⟨k + 1, by omega, by simp, gb_trans hG (gb_trans g5 g6)⟩, by simp [intOf]; omega⟩
        · obtain rfl : k = 9 := by omega
          clear RB e0 e1 e2 e3 hlt
          go_wp2
          rw [rounds_succ]
          go_wp2
          go_loopw [14, 15] (fun vs vi wr => ∃ k : Nat, 2 ≤ k ∧ (k : Int) ≤ n ∧ vi = .int .i64 k ∧ vs = .int .u8 (Gn.stv n k : Nat) ∧ w3.grownBy wr none) (fun _ vi _ => (n - intOf vi).toNat)
          case atStart => exact ⟨2, by omega, by omega, rfl, by rw [show Gn.stv n 2 = 2 by unfold Gn.stv; rw [if_neg (by omega)]]; rfl, hG⟩
          case round =>
            obtain ⟨k, h2k, hkn, rfl, rfl, hG⟩ := hrel
            have RB := B1xx.kept hG (by simp)
            have e0 := RB.cell 0 (v := .int .u8 1) rfl
            have e1 := RB.cell 1 (v := .int .u16 bo) rfl
            have e2 := RB.cell 2 (v := .int .u16 st) rfl
            have e3 := RB.cell 3 (v := .int .i64 n) rfl
            have hvr := hvK hv (gb_trans G3 hG)
            have hwn : IntKind.i64.wrap (n - 1) = n - 1 := by rw [IntKind.wrap_i64]; omega
            by_cases hlt : (k : Int) < n
            · rw [Gn.stv_lt hlt]
              have hk256 : (k : Int) < 256 := by omega
              have hk0 : ((k : Int) == 0) = false := by simp; omega
              have hk0' : ¬ (k : Int) = 0 := by omega
              have hnx : Hid (Gn.stv n (k + 1) = Gn.old n k) := Gn.stv_next h2k hlt
              have hNx : ∀ z : Int, 0 ≤ z → z ≤ 8 → ∀ w, Hid (Hv w) → Calls Tryz.prog 15 #[.agg #[.int .u8 1, .int .u16 bo, .int .u16 st, .int .i64 n], .int .u8 k, .int .i64 z] w fun e w' => e = .returned (.tuple #[.int .u8 (Gn.old n k : Nat), .int .i64 0]) ∧ w.grownBy w' none := fun z h0 h1 w hv => by
                have h := gnextC 1 bo st n (by decide) hb hs k (by omega) z w hv
                have e : Gn.nxE 1 bo st n k z = 0 := by
                  unfold Gn.nxE
                  rw [if_neg (by simp [hc]), if_neg (by omega), if_neg (by show ¬ (z < 0 ∨ (8 : Int) < z); omega)]
                have v : Gn.nxV 1 bo st n k z = Gn.old n k := by
                  unfold Gn.nxV
                  rw [if_pos e, if_neg (by omega), if_neg (by omega)]
                rw [v, e] at h
                exact h
              by_cases hkm : k < m
              · have hkm' : (k : Int) < (m : Int) := by omega
                obtain ⟨a, hsp, hcell⟩ := (Sd.kept hS.out (gb_trans G3 hG)) k hkm
                subst hsp
                have hLk := hL.out k hkm
                have ht1 : -8 ≤ (L k).tmod 9 := by have := Int.lt_tmod_of_pos (L k) (b := 9) (by decide); omega
                have ht2 : (L k).tmod 9 ≤ 8 := by have := Int.tmod_lt_of_pos (L k) (b := 9) (by decide); omega
                have hwa : wrap64 ((L k).tmod 9 + 8) = (L k).tmod 9 + 8 := by unfold wrap64; omega
                have hwb : wrap64 ((L k).tmod 9 + 8 + 1) = (L k).tmod 9 + 8 + 1 := by unfold wrap64; omega
                obtain ⟨z, hz⟩ : ∃ z, ((L k).tmod 9 + 8 + 1).tmod 9 = z := ⟨_, rfl⟩
                have hz0 : 0 ≤ z := by rw [← hz]; exact Int.tmod_nonneg _ (by omega)
                have hz1 : z ≤ 8 := by rw [← hz]; have := Int.tmod_lt_of_pos ((L k).tmod 9 + 8 + 1) (b := 9) (by decide); omega
                have hN := fun w hv => hNx (z) hz0 hz1 w hv
                by_cases hlast : (k : Int) + 1 = n
                · rw [show Gn.old n k = 0 by unfold Gn.old; rw [if_pos hlast]] at hN hnx
                  have hl1 : ((k : Int) == n - 1) = true := by simp; omega
                  clear hlast hNx
                  go_wp2_with (first | (go_at_call 15; refine (hN _ hvr).mono ?_; rintro e w5 ⟨rfl, g5⟩; have B5 := RB.kept g5 (by simp); have p0 := B5.cell 0 (v := .int .u8 1) rfl; have p1 := B5.cell 1 (v := .int .u16 bo) rfl; have p2 := B5.cell 2 (v := .int .u16 st) rfl; have p3 := B5.cell 3 (v := .int .i64 n) rfl))
                  first
                    | (go_roundw; (case rel => exact ⟨k + 1, by omega, by omega, by first | rfl | go_num | simp, by rw [hnx.out]; first | rfl | simp, gb_trans hG g5⟩); (case measure => (simp [intOf]; omega)))
                    | (refine ⟨?ex, ?ms⟩; (case ms => (simp [intOf]; omega)); (case ex => ((repeat apply Exists.intro); refine ⟨?rl, ?eq⟩; (case eq => (repeat' (first | rfl | apply And.intro))); (case rl => exact ⟨k + 1, by omega, by omega, by first | rfl | go_num | simp, by rw [hnx.out]; first | rfl | simp, gb_trans hG g5⟩))))
                · rw [show Gn.old n k = k + 1 by unfold Gn.old; rw [if_neg hlast]] at hN hnx
                  have hl1 : ((k : Int) == n - 1) = false := by simp; omega
                  have hk0 : (((k + 1 : Nat) : Int) == 0) = false := by simp; omega
                  have hk0' : ¬ ((k : Int) + 1) = 0 := by omega
                  clear hNx
                  go_wp2_with (first | (go_at_call 15; refine (hN _ hvr).mono ?_; rintro e w5 ⟨rfl, g5⟩; have B5 := RB.kept g5 (by simp); have p0 := B5.cell 0 (v := .int .u8 1) rfl; have p1 := B5.cell 1 (v := .int .u16 bo) rfl; have p2 := B5.cell 2 (v := .int .u16 st) rfl; have p3 := B5.cell 3 (v := .int .i64 n) rfl))
                  first
                    | (go_roundw; (case rel => exact ⟨k + 1, by omega, by omega, by first | rfl | go_num | simp, by rw [hnx.out]; first | rfl | simp, gb_trans hG g5⟩); (case measure => (simp [intOf]; omega)))
                    | (refine ⟨?ex, ?ms⟩; (case ms => (simp [intOf]; omega)); (case ex => ((repeat apply Exists.intro); refine ⟨?rl, ?eq⟩; (case eq => (repeat' (first | rfl | apply And.intro))); (case rl => exact ⟨k + 1, by omega, by omega, by first | rfl | go_num | simp, by rw [hnx.out]; first | rfl | simp, gb_trans hG g5⟩))))
              · have hkm' : ¬ (k : Int) < (m : Int) := by omega
                have hN := fun w hv => hNx (0) (by omega) (by omega) w hv
                by_cases hlast : (k : Int) + 1 = n
                · rw [show Gn.old n k = 0 by unfold Gn.old; rw [if_pos hlast]] at hN hnx
                  have hl1 : ((k : Int) == n - 1) = true := by simp; omega
                  clear hlast hNx
                  go_wp2_with (first | (go_at_call 15; refine (hN _ hvr).mono ?_; rintro e w5 ⟨rfl, g5⟩; have B5 := RB.kept g5 (by simp); have p0 := B5.cell 0 (v := .int .u8 1) rfl; have p1 := B5.cell 1 (v := .int .u16 bo) rfl; have p2 := B5.cell 2 (v := .int .u16 st) rfl; have p3 := B5.cell 3 (v := .int .i64 n) rfl))
                  first
                    | (go_roundw; (case rel => exact ⟨k + 1, by omega, by omega, by first | rfl | go_num | simp, by rw [hnx.out]; first | rfl | simp, gb_trans hG g5⟩); (case measure => (simp [intOf]; omega)))
                    | (refine ⟨?ex, ?ms⟩; (case ms => (simp [intOf]; omega)); (case ex => ((repeat apply Exists.intro); refine ⟨?rl, ?eq⟩; (case eq => (repeat' (first | rfl | apply And.intro))); (case rl => exact ⟨k + 1, by omega, by omega, by first | rfl | go_num | simp, by rw [hnx.out]; first | rfl | simp, gb_trans hG g5⟩))))
                · rw [show Gn.old n k = k + 1 by unfold Gn.old; rw [if_neg hlast]] at hN hnx
                  have hl1 : ((k : Int) == n - 1) = false := by simp; omega
                  have hk0 : (((k + 1 : Nat) : Int) == 0) = false := by simp; omega
                  have hk0' : ¬ ((k : Int) + 1) = 0 := by omega
                  clear hNx
                  go_wp2_with (first | (go_at_call 15; refine (hN _ hvr).mono ?_; rintro e w5 ⟨rfl, g5⟩; have B5 := RB.kept g5 (by simp); have p0 := B5.cell 0 (v := .int .u8 1) rfl; have p1 := B5.cell 1 (v := .int .u16 bo) rfl; have p2 := B5.cell 2 (v := .int .u16 st) rfl; have p3 := B5.cell 3 (v := .int .i64 n) rfl))
                  first
                    | (go_roundw; (case rel => exact ⟨k + 1, by omega, by omega, by first | rfl | go_num | simp, by rw [hnx.out]; first | rfl | simp, gb_trans hG g5⟩); (case measure => (simp [intOf]; omega)))
                    | (refine ⟨?ex, ?ms⟩; (case ms => (simp [intOf]; omega)); (case ex => ((repeat apply Exists.intro); refine ⟨?rl, ?eq⟩; (case eq => (repeat' (first | rfl | apply And.intro))); (case rl => exact ⟨k + 1, by omega, by omega, by first | rfl | go_num | simp, by rw [hnx.out]; first | rfl | simp, gb_trans hG g5⟩))))
            · obtain rfl : (k : Int) = n := by omega
              by_cases h2 : 2 < (k : Int)
              · rw [show Gn.stv k k = 0 by unfold Gn.stv; rw [if_pos ⟨rfl, h2⟩]]
                go_wp2
                go_ret
                exact ⟨rfl, gb_trans G3 hG⟩
              · obtain rfl : k = 2 := by omega
                rw [show Gn.stv ((2 : Nat) : Int) 2 = 2 by decide]
                go_wp2
                go_ret
                exact ⟨rfl, gb_trans G3 hG⟩
set_option maxHeartbeats 8000000 in
theorem fades2 (bo st : Nat) (n : Int) (hb : bo < 65536) (hs : st < 65536) (m c : Nat) (sp : Option Addr) (L : Nat → Int) (w : World) (hmc : m ≤ c) (hcm : c ≤ 9223372036854775807) (hS : Hid (Sd w sp m L)) (hL : Hid (∀ k, k < m → -9223372036854775808 ≤ L k ∧ L k ≤ 9223372036854775807)) (en : Hid (En w)) (hc : Gn.ck 2 bo st n = 0) : Calls Tryz.prog 7 #[.agg #[.int .u8 2, .int .u16 bo, .int .u16 st, .int .i64 n], .slice sp m c] w fun e w' => e = .returned (.bool true) ∧ w.grownBy w' none := by
  have hv := enH en
  have hk := fun w hv => gcheckC 2 bo st n (by decide) hb hs w hv
  rw [hc] at hk
  have hi := Gn.ck_in hc
  obtain ⟨W1, hW1, sz1, g1, B1⟩ := boxn w #[.int .u8 2, .int .u16 bo, .int .u16 st, .int .i64 n] 27
  have hv1 := hvK hv g1
  have b1_1_0 := B1.cell 0 (v := .int .u8 2) rfl
  have b1_1_1 := B1.cell 1 (v := .int .u16 bo) rfl
  have b1_1_2 := B1.cell 2 (v := .int .u16 st) rfl
  have b1_1_3 := B1.cell 3 (v := .int .i64 n) rfl
  go_enter Tryz.func7, Tryz.ntmps7
  go_wp2_with (first | (go_at_call 8; (fail_if_success (guard_hyp g2)); refine (awakeC _ (enK en g1)).mono ?_; rintro e w2 ⟨rfl, g2⟩; have G2 := gb_trans g1 g2; have hv2 := hvK hv G2; have B1x := B1.kept g2 (by simp); clear b1_1_0 b1_1_1 b1_1_2 b1_1_3; have b1_2_0 := B1x.cell 0 (v := .int .u8 2) rfl; have b1_2_1 := B1x.cell 1 (v := .int .u16 bo) rfl; have b1_2_2 := B1x.cell 2 (v := .int .u16 st) rfl; have b1_2_3 := B1x.cell 3 (v := .int .i64 n) rfl) | (go_at_call 13; (fail_if_success (guard_hyp g3)); refine (hk _ hv2).mono ?_; rintro e w3 ⟨rfl, g3⟩; have G3 := gb_trans G2 g3; have hv3 := hvK hv G3; have B1xx := B1x.kept g3 (by simp); clear b1_2_0 b1_2_1 b1_2_2 b1_2_3; have b1_3_0 := B1xx.cell 0 (v := .int .u8 2) rfl; have b1_3_1 := B1xx.cell 1 (v := .int .u16 bo) rfl; have b1_3_2 := B1xx.cell 2 (v := .int .u16 st) rfl; have b1_3_3 := B1xx.cell 3 (v := .int .i64 n) rfl))
  refine wp_loop_rounds 3 ?_
  rw [rounds_succ]
  go_wp2
  go_loopw [8] (fun v wr => ∃ k : Nat, k ≤ 5 ∧ v = .int .i64 k ∧ w3.grownBy wr none) (fun v _ => 5 - (intOf v).toNat)
  case atStart => exact ⟨0, by omega, rfl, World.grownBy.refl _ _⟩
  case round =>
    obtain ⟨k, hk, rfl, hG⟩ := hrel
    have RB := B1xx.kept hG (by simp)
    have e0 := RB.cell 0 (v := .int .u8 2) rfl
    have e1 := RB.cell 1 (v := .int .u16 bo) rfl
    have e2 := RB.cell 2 (v := .int .u16 st) rfl
    have e3 := RB.cell 3 (v := .int .i64 n) rfl
    have hvr := hvK hv (gb_trans G3 hG)
    by_cases hlt : k < 5
    · have hlt' : (k : Int) ≤ 4 := by omega
      have hN := fun w hv => gnextC 2 bo st n (by decide) hb hs 0 (by decide) (k : Int) w hv
      have hM := fun w hv => nextC 2 bo st (by decide) hb hs 0 (k : Int) w hv
      have eN : Gn.nxE 2 bo st n 0 k = 0 := by
        unfold Gn.nxE
        rw [if_neg (by simp [hc]), if_neg (by omega), if_neg (by show ¬ ((k : Int) < 0 ∨ (4 : Int) < (k : Int)); omega)]
      have eM : Lf.nxE 2 bo st 0 k = 0 := by
        rw [Lf.nx_err hi.1 (by decide), if_neg (by show ¬ ((k : Int) < 0 ∨ (4 : Int) < (k : Int)); omega)]
      have vN : Gn.nxV 2 bo st n 0 k = (if bo.testBit k then 1 else 0) := by
        unfold Gn.nxV
        rw [eN]; rfl
      have vM : Lf.nxV 2 bo st 0 k = (if bo.testBit k then 1 else 0) := by
        unfold Lf.nxV
        rw [eM]; rfl
      cases hq : bo.testBit k with
      | true =>
        rw [hq] at vN vM
        rw [show Gn.nxV 2 bo st n 0 k = 1 from vN, eN] at hN
        rw [show Lf.nxV 2 bo st 0 k = 1 from vM, eM] at hM
        clear hq vN vM eN eM
        have hN : ∀ w, Hid (Hv w) → Calls Tryz.prog 15 #[.agg #[.int .u8 2, .int .u16 bo, .int .u16 st, .int .i64 n], .int .u8 0, .int .i64 k] w fun e w' => e = .returned (.tuple #[.int .u8 1, .int .i64 0]) ∧ w.grownBy w' none := hN
        have hM : ∀ w, Hid (Hv w) → Calls Tryz.prog 17 #[.agg #[.int .u8 2, .int .u16 bo, .int .u16 st], .int .u8 0, .int .i64 k] w fun e w' => e = .returned (.tuple #[.int .u8 1, .int .i64 0]) ∧ w.grownBy w' none := hM
        go_wp2_with (first | (go_at_call 15; refine (hN _ hvr).mono ?_; rintro e w5 ⟨rfl, g5⟩; have B5 := RB.kept g5 (by simp); have p0 := B5.cell 0 (v := .int .u8 2) rfl; have p1 := B5.cell 1 (v := .int .u16 bo) rfl; have p2 := B5.cell 2 (v := .int .u16 st) rfl; have p3 := B5.cell 3 (v := .int .i64 n) rfl; have hv5 := hvK hvr g5) | (go_at_call 17; refine (hM _ hv5).mono ?_; rintro e w6 ⟨rfl, g6⟩; have B6 := B5.kept g6 (by simp); have q0 := B6.cell 0 (v := .int .u8 2) rfl; have q1 := B6.cell 1 (v := .int .u16 bo) rfl; have q2 := B6.cell 2 (v := .int .u16 st) rfl; have q3 := B6.cell 3 (v := .int .i64 n) rfl))
        exact ⟨⟨k + 1, by omega, by simp, gb_trans hG (gb_trans g5 g6)⟩, by simp [intOf]; omega⟩
      | false =>
        rw [hq] at vN vM
        rw [show Gn.nxV 2 bo st n 0 k = 0 from vN, eN] at hN
        rw [show Lf.nxV 2 bo st 0 k = 0 from vM, eM] at hM
        clear hq vN vM eN eM
        have hN : ∀ w, Hid (Hv w) → Calls Tryz.prog 15 #[.agg #[.int .u8 2, .int .u16 bo, .int .u16 st, .int .i64 n], .int .u8 0, .int .i64 k] w fun e w' => e = .returned (.tuple #[.int .u8 0, .int .i64 0]) ∧ w.grownBy w' none := hN
        have hM : ∀ w, Hid (Hv w) → Calls Tryz.prog 17 #[.agg #[.int .u8 2, .int .u16 bo, .int .u16 st], .int .u8 0, .int .i64 k] w fun e w' => e = .returned (.tuple #[.int .u8 0, .int .i64 0]) ∧ w.grownBy w' none := hM
        go_wp2_with (first | (go_at_call 15; refine (hN _ hvr).mono ?_; rintro e w5 ⟨rfl, g5⟩; have B5 := RB.kept g5 (by simp); have p0 := B5.cell 0 (v := .int .u8 2) rfl; have p1 := B5.cell 1 (v := .int .u16 bo) rfl; have p2 := B5.cell 2 (v := .int .u16 st) rfl; have p3 := B5.cell 3 (v := .int .i64 n) rfl; have hv5 := hvK hvr g5) | (go_at_call 17; refine (hM _ hv5).mono ?_; rintro e w6 ⟨rfl, g6⟩; have B6 := B5.kept g6 (by simp); have q0 := B6.cell 0 (v := .int .u8 2) rfl; have q1 := B6.cell 1 (v := .int .u16 bo) rfl; have q2 := B6.cell 2 (v := .int .u16 st) rfl; have q3 := B6.cell 3 (v := .int .i64 n) rfl))
        exact ⟨⟨k + 1, by omega, by simp, gb_trans hG (gb_trans g5 g6)⟩, by simp [intOf]; omega⟩
    · obtain rfl : k = 5 := by omega
      go_wp2
      rw [rounds_succ]
      go_wp2
      go_loopw [8] (fun v wr => ∃ k : Nat, k ≤ 5 ∧ v = .int .i64 k ∧ w3.grownBy wr none) (fun v _ => 5 - (intOf v).toNat)
      case atStart => exact ⟨0, by omega, rfl, hG⟩
      case round =>
        obtain ⟨k, hk, rfl, hG⟩ := hrel
        have RB := B1xx.kept hG (by simp)
        have e0 := RB.cell 0 (v := .int .u8 2) rfl
        have e1 := RB.cell 1 (v := .int .u16 bo) rfl
        have e2 := RB.cell 2 (v := .int .u16 st) rfl
        have e3 := RB.cell 3 (v := .int .i64 n) rfl
        have hvr := hvK hv (gb_trans G3 hG)
        by_cases hlt : k < 5
        · have hlt' : (k : Int) ≤ 4 := by omega
          have hN := fun w hv => gnextC 2 bo st n (by decide) hb hs 1 (by decide) (k : Int) w hv
          have hM := fun w hv => nextC 2 bo st (by decide) hb hs 1 (k : Int) w hv
          have eN : Gn.nxE 2 bo st n 1 k = 0 := by
            unfold Gn.nxE
            rw [if_neg (by simp [hc]), if_neg (by omega), if_neg (by show ¬ ((k : Int) < 0 ∨ (4 : Int) < (k : Int)); omega)]
          have eM : Lf.nxE 2 bo st 1 k = 0 := by
            rw [Lf.nx_err hi.1 (by decide), if_neg (by show ¬ ((k : Int) < 0 ∨ (4 : Int) < (k : Int)); omega)]
          have vN : Gn.nxV 2 bo st n 1 k = (if 1 = 1 ∧ st.testBit k = true then 1 else Gn.old n 1) := by
            unfold Gn.nxV
            rw [eN]; rfl
          have vM : Lf.nxV 2 bo st 1 k = (if st.testBit k then 1 else 0) := by
            unfold Lf.nxV
            rw [eM]; rfl
          by_cases hq : st.testBit k = true
          · rw [hq] at vM
            rw [if_pos ⟨rfl, hq⟩] at vN
            rw [show Gn.nxV 2 bo st n 1 k = 1 from vN, eN] at hN
            rw [show Lf.nxV 2 bo st 1 k = 1 from vM, eM] at hM
            clear hq vN vM eN eM
            have hN : ∀ w, Hid (Hv w) → Calls Tryz.prog 15 #[.agg #[.int .u8 2, .int .u16 bo, .int .u16 st, .int .i64 n], .int .u8 1, .int .i64 k] w fun e w' => e = .returned (.tuple #[.int .u8 1, .int .i64 0]) ∧ w.grownBy w' none := hN
            have hM : ∀ w, Hid (Hv w) → Calls Tryz.prog 17 #[.agg #[.int .u8 2, .int .u16 bo, .int .u16 st], .int .u8 1, .int .i64 k] w fun e w' => e = .returned (.tuple #[.int .u8 1, .int .i64 0]) ∧ w.grownBy w' none := hM
            go_wp2_with (first | (go_at_call 15; refine (hN _ hvr).mono ?_; rintro e w5 ⟨rfl, g5⟩; have B5 := RB.kept g5 (by simp); have p0 := B5.cell 0 (v := .int .u8 2) rfl; have p1 := B5.cell 1 (v := .int .u16 bo) rfl; have p2 := B5.cell 2 (v := .int .u16 st) rfl; have p3 := B5.cell 3 (v := .int .i64 n) rfl; have hv5 := hvK hvr g5) | (go_at_call 17; refine (hM _ hv5).mono ?_; rintro e w6 ⟨rfl, g6⟩; have B6 := B5.kept g6 (by simp); have q0 := B6.cell 0 (v := .int .u8 2) rfl; have q1 := B6.cell 1 (v := .int .u16 bo) rfl; have q2 := B6.cell 2 (v := .int .u16 st) rfl; have q3 := B6.cell 3 (v := .int .i64 n) rfl))
            exact ⟨⟨k + 1, by omega, by simp, gb_trans hG (gb_trans g5 g6)⟩, by simp [intOf]; omega⟩
          · rw [if_neg (by simp [hq])] at vN
            rw [show st.testBit k = false by simpa using hq] at vM
            rw [show Lf.nxV 2 bo st 1 k = 0 from vM, eM] at hM
            by_cases h2 : n = 2
            · have h2n : ¬ 2 < n := by omega
              rw [show Gn.nxV 2 bo st n 1 k = 0 from vN.trans (by unfold Gn.old; rw [if_pos (by omega)]), eN] at hN
              clear hq vN vM eN eM h2
              have hN : ∀ w, Hid (Hv w) → Calls Tryz.prog 15 #[.agg #[.int .u8 2, .int .u16 bo, .int .u16 st, .int .i64 n], .int .u8 1, .int .i64 k] w fun e w' => e = .returned (.tuple #[.int .u8 0, .int .i64 0]) ∧ w.grownBy w' none := hN
              have hM : ∀ w, Hid (Hv w) → Calls Tryz.prog 17 #[.agg #[.int .u8 2, .int .u16 bo, .int .u16 st], .int .u8 1, .int .i64 k] w fun e w' => e = .returned (.tuple #[.int .u8 0, .int .i64 0]) ∧ w.grownBy w' none := hM
              go_wp2_with (first | (go_at_call 15; refine (hN _ hvr).mono ?_; rintro e w5 ⟨rfl, g5⟩; have B5 := RB.kept g5 (by simp); have p0 := B5.cell 0 (v := .int .u8 2) rfl; have p1 := B5.cell 1 (v := .int .u16 bo) rfl; have p2 := B5.cell 2 (v := .int .u16 st) rfl; have p3 := B5.cell 3 (v := .int .i64 n) rfl; have hv5 := hvK hvr g5) | (go_at_call 17; refine (hM _ hv5).mono ?_; rintro e w6 ⟨rfl, g6⟩; have B6 := B5.kept g6 (by simp); have q0 := B6.cell 0 (v := .int .u8 2) rfl; have q1 := B6.cell 1 (v := .int .u16 bo) rfl; have q2 := B6.cell 2 (v := .int .u16 st) rfl; have q3 := B6.cell 3 (v := .int .i64 n) rfl))
              exact ⟨⟨k + 1, by omega, by simp, gb_trans hG (gb_trans g5 g6)⟩, by simp [intOf]; omega⟩
            · have h2n : 2 < n := by omega
              rw [show Gn.nxV 2 bo st n 1 k = 2 from vN.trans (by unfold Gn.old; rw [if_neg (by omega)]), eN] at hN
              clear hq vN vM eN eM h2
              have hN : ∀ w, Hid (Hv w) → Calls Tryz.prog 15 #[.agg #[.int .u8 2, .int .u16 bo, .int .u16 st, .int .i64 n], .int .u8 1, .int .i64 k] w fun e w' => e = .returned (.tuple #[.int .u8 2, .int .i64 0]) ∧ w.grownBy w' none := hN
              have hM : ∀ w, Hid (Hv w) → Calls Tryz.prog 17 #[.agg #[.int .u8 2, .int .u16 bo, .int .u16 st], .int .u8 1, .int .i64 k] w fun e w' => e = .returned (.tuple #[.int .u8 0, .int .i64 0]) ∧ w.grownBy w' none := hM
              go_wp2_with (first | (go_at_call 15; refine (hN _ hvr).mono ?_; rintro e w5 ⟨rfl, g5⟩; have B5 := RB.kept g5 (by simp); have p0 := B5.cell 0 (v := .int .u8 2) rfl; have p1 := B5.cell 1 (v := .int .u16 bo) rfl; have p2 := B5.cell 2 (v := .int .u16 st) rfl; have p3 := B5.cell 3 (v := .int .i64 n) rfl; have hv5 := hvK hvr g5) | (go_at_call 17; refine (hM _ hv5).mono ?_; rintro e w6 ⟨rfl, g6⟩; have B6 := B5.kept g6 (by simp); have q0 := B6.cell 0 (v := .int .u8 2) rfl; have q1 := B6.cell 1 (v := .int .u16 bo) rfl; have q2 := B6.cell 2 (v := .int .u16 st) rfl; have q3 := B6.cell 3 (v := .int .i64 n) rfl))
              exact ⟨⟨k + 1, by omega, by simp, gb_trans hG (gb_trans g5 g6)⟩, by simp [intOf]; omega⟩
        · obtain rfl : k = 5 := by omega
          clear RB e0 e1 e2 e3 hlt
          go_wp2
          rw [rounds_succ]
          go_wp2
          go_loopw [14, 15] (fun vs vi wr => ∃ k : Nat, 2 ≤ k ∧ (k : Int) ≤ n ∧ vi = .int .i64 k ∧ vs = .int .u8 (Gn.stv n k : Nat) ∧ w3.grownBy wr none) (fun _ vi _ => (n - intOf vi).toNat)
          case atStart => exact ⟨2, by omega, by omega, rfl, by rw [show Gn.stv n 2 = 2 by unfold Gn.stv; rw [if_neg (by omega)]]; rfl, hG⟩
          case round =>
            obtain ⟨k, h2k, hkn, rfl, rfl, hG⟩ := hrel
            have RB := B1xx.kept hG (by simp)
            have e0 := RB.cell 0 (v := .int .u8 2) rfl
            have e1 := RB.cell 1 (v := .int .u16 bo) rfl
            have e2 := RB.cell 2 (v := .int .u16 st) rfl
            have e3 := RB.cell 3 (v := .int .i64 n) rfl
            have hvr := hvK hv (gb_trans G3 hG)
            have hwn : IntKind.i64.wrap (n - 1) = n - 1 := by rw [IntKind.wrap_i64]; omega
            by_cases hlt : (k : Int) < n
            · rw [Gn.stv_lt hlt]
              have hk256 : (k : Int) < 256 := by omega
              have hk0 : ((k : Int) == 0) = false := by simp; omega
              have hk0' : ¬ (k : Int) = 0 := by omega
              have hnx : Hid (Gn.stv n (k + 1) = Gn.old n k) := Gn.stv_next h2k hlt
              have hNx : ∀ z : Int, 0 ≤ z → z ≤ 4 → ∀ w, Hid (Hv w) → Calls Tryz.prog 15 #[.agg #[.int .u8 2, .int .u16 bo, .int .u16 st, .int .i64 n], .int .u8 k, .int .i64 z] w fun e w' => e = .returned (.tuple #[.int .u8 (Gn.old n k : Nat), .int .i64 0]) ∧ w.grownBy w' none := fun z h0 h1 w hv => by
                have h := gnextC 2 bo st n (by decide) hb hs k (by omega) z w hv
                have e : Gn.nxE 2 bo st n k z = 0 := by
                  unfold Gn.nxE
                  rw [if_neg (by simp [hc]), if_neg (by omega), if_neg (by show ¬ (z < 0 ∨ (4 : Int) < z); omega)]
                have v : Gn.nxV 2 bo st n k z = Gn.old n k := by
                  unfold Gn.nxV
                  rw [if_pos e, if_neg (by omega), if_neg (by omega)]
                rw [v, e] at h
                exact h
              by_cases hkm : k < m
              · have hkm' : (k : Int) < (m : Int) := by omega
                obtain ⟨a, hsp, hcell⟩ := (Sd.kept hS.out (gb_trans G3 hG)) k hkm
                subst hsp
                have hLk := hL.out k hkm
                have ht1 : -4 ≤ (L k).tmod 5 := by have := Int.lt_tmod_of_pos (L k) (b := 5) (by decide); omega
                have ht2 : (L k).tmod 5 ≤ 4 := by have := Int.tmod_lt_of_pos (L k) (b := 5) (by decide); omega
                have hwa : wrap64 ((L k).tmod 5 + 4) = (L k).tmod 5 + 4 := by unfold wrap64; omega
                have hwb : wrap64 ((L k).tmod 5 + 4 + 1) = (L k).tmod 5 + 4 + 1 := by unfold wrap64; omega
                obtain ⟨z, hz⟩ : ∃ z, ((L k).tmod 5 + 4 + 1).tmod 5 = z := ⟨_, rfl⟩
                have hz0 : 0 ≤ z := by rw [← hz]; exact Int.tmod_nonneg _ (by omega)
                have hz1 : z ≤ 4 := by rw [← hz]; have := Int.tmod_lt_of_pos ((L k).tmod 5 + 4 + 1) (b := 5) (by decide); omega
                have hN := fun w hv => hNx (z) hz0 hz1 w hv
                by_cases hlast : (k : Int) + 1 = n
                · rw [show Gn.old n k = 0 by unfold Gn.old; rw [if_pos hlast]] at hN hnx
                  have hl1 : ((k : Int) == n - 1) = true := by simp; omega
                  clear hlast hNx
                  go_wp2_with (first | (go_at_call 15; refine (hN _ hvr).mono ?_; rintro e w5 ⟨rfl, g5⟩; have B5 := RB.kept g5 (by simp); have p0 := B5.cell 0 (v := .int .u8 2) rfl; have p1 := B5.cell 1 (v := .int .u16 bo) rfl; have p2 := B5.cell 2 (v := .int .u16 st) rfl; have p3 := B5.cell 3 (v := .int .i64 n) rfl))
                  first
                    | (go_roundw; (case rel => exact ⟨k + 1, by omega, by omega, by first | rfl | go_num | simp, by rw [hnx.out]; first | rfl | simp, gb_trans hG g5⟩); (case measure => (simp [intOf]; omega)))
                    | (refine ⟨?ex, ?ms⟩; (case ms => (simp [intOf]; omega)); (case ex => ((repeat apply Exists.intro); refine ⟨?rl, ?eq⟩; (case eq => (repeat' (first | rfl | apply And.intro))); (case rl => exact ⟨k + 1, by omega, by omega, by first | rfl | go_num | simp, by rw [hnx.out]; first | rfl | simp, gb_trans hG g5⟩))))
                · rw [show Gn.old n k = k + 1 by unfold Gn.old; rw [if_neg hlast]] at hN hnx
                  have hl1 : ((k : Int) == n - 1) = false := by simp; omega
                  have hk0 : (((k + 1 : Nat) : Int) == 0) = false := by simp; omega
                  have hk0' : ¬ ((k : Int) + 1) = 0 := by omega
                  clear hNx
                  go_wp2_with (first | (go_at_call 15; refine (hN _ hvr).mono ?_; rintro e w5 ⟨rfl, g5⟩; have B5 := RB.kept g5 (by simp); have p0 := B5.cell 0 (v := .int .u8 2) rfl; have p1 := B5.cell 1 (v := .int .u16 bo) rfl; have p2 := B5.cell 2 (v := .int .u16 st) rfl; have p3 := B5.cell 3 (v := .int .i64 n) rfl))
                  first
                    | (go_roundw; (case rel => exact ⟨k + 1, by omega, by omega, by first | rfl | go_num | simp, by rw [hnx.out]; first | rfl | simp, gb_trans hG g5⟩); (case measure => (simp [intOf]; omega)))
                    | (refine ⟨?ex, ?ms⟩; (case ms => (simp [intOf]; omega)); (case ex => ((repeat apply Exists.intro); refine ⟨?rl, ?eq⟩; (case eq => (repeat' (first | rfl | apply And.intro))); (case rl => exact ⟨k + 1, by omega, by omega, by first | rfl | go_num | simp, by rw [hnx.out]; first | rfl | simp, gb_trans hG g5⟩))))
              · have hkm' : ¬ (k : Int) < (m : Int) := by omega
                have hN := fun w hv => hNx (0) (by omega) (by omega) w hv
                by_cases hlast : (k : Int) + 1 = n
                · rw [show Gn.old n k = 0 by unfold Gn.old; rw [if_pos hlast]] at hN hnx
                  have hl1 : ((k : Int) == n - 1) = true := by simp; omega
                  clear hlast hNx
                  go_wp2_with (first | (go_at_call 15; refine (hN _ hvr).mono ?_; rintro e w5 ⟨rfl, g5⟩; have B5 := RB.kept g5 (by simp); have p0 := B5.cell 0 (v := .int .u8 2) rfl; have p1 := B5.cell 1 (v := .int .u16 bo) rfl; have p2 := B5.cell 2 (v := .int .u16 st) rfl; have p3 := B5.cell 3 (v := .int .i64 n) rfl))
                  first
                    | (go_roundw; (case rel => exact ⟨k + 1, by omega, by omega, by first | rfl | go_num | simp, by rw [hnx.out]; first | rfl | simp, gb_trans hG g5⟩); (case measure => (simp [intOf]; omega)))
                    | (refine ⟨?ex, ?ms⟩; (case ms => (simp [intOf]; omega)); (case ex => ((repeat apply Exists.intro); refine ⟨?rl, ?eq⟩; (case eq => (repeat' (first | rfl | apply And.intro))); (case rl => exact ⟨k + 1, by omega, by omega, by first | rfl | go_num | simp, by rw [hnx.out]; first | rfl | simp, gb_trans hG g5⟩))))
                · rw [show Gn.old n k = k + 1 by unfold Gn.old; rw [if_neg hlast]] at hN hnx
                  have hl1 : ((k : Int) == n - 1) = false := by simp; omega
                  have hk0 : (((k + 1 : Nat) : Int) == 0) = false := by simp; omega
                  have hk0' : ¬ ((k : Int) + 1) = 0 := by omega
                  clear hNx
                  go_wp2_with (first | (go_at_call 15; refine (hN _ hvr).mono ?_; rintro e w5 ⟨rfl, g5⟩; have B5 := RB.kept g5 (by simp); have p0 := B5.cell 0 (v := .int .u8 2) rfl; have p1 := B5.cell 1 (v := .int .u16 bo) rfl; have p2 := B5.cell 2 (v := .int .u16 st) rfl; have p3 := B5.cell 3 (v := .int .i64 n) rfl))
                  first
                    | (go_roundw; (case rel => exact ⟨k + 1, by omega, by omega, by first | rfl | go_num | simp, by rw [hnx.out]; first | rfl | simp, gb_trans hG g5⟩); (case measure => (simp [intOf]; omega)))
                    | (refine ⟨?ex, ?ms⟩; (case ms => (simp [intOf]; omega)); (case ex => ((repeat apply Exists.intro); refine ⟨?rl, ?eq⟩; (case eq => (repeat' (first | rfl | apply And.intro))); (case rl => exact ⟨k + 1, by omega, by omega, by first | rfl | go_num | simp, by rw [hnx.out]; first | rfl | simp, gb_trans hG g5⟩))))
            · obtain rfl : (k : Int) = n := by omega
              by_cases h2 : 2 < (k : Int)
              · rw [show Gn.stv k k = 0 by unfold Gn.stv; rw [if_pos ⟨rfl, h2⟩]]
                go_wp2
                go_ret
                exact ⟨rfl, gb_trans G3 hG⟩
              · obtain rfl : k = 2 := by omega
                rw [show Gn.stv ((2 : Nat) : Int) 2 = 2 by decide]
                go_wp2
                go_ret
                exact ⟨rfl, gb_trans G3 hG⟩
set_option maxHeartbeats 8000000 in
theorem fades3 (bo st : Nat) (n : Int) (hb : bo < 65536) (hs : st < 65536) (m c : Nat) (sp : Option Addr) (L : Nat → Int) (w : World) (hmc : m ≤ c) (hcm : c ≤ 9223372036854775807) (hS : Hid (Sd w sp m L)) (hL : Hid (∀ k, k < m → -9223372036854775808 ≤ L k ∧ L k ≤ 9223372036854775807)) (en : Hid (En w)) (hc : Gn.ck 3 bo st n = 0) : Calls Tryz.prog 7 #[.agg #[.int .u8 3, .int .u16 bo, .int .u16 st, .int .i64 n], .slice sp m c] w fun e w' => e = .returned (.bool true) ∧ w.grownBy w' none := by
  have hv := enH en
  have hk := fun w hv => gcheckC 3 bo st n (by decide) hb hs w hv
  rw [hc] at hk
  have hi := Gn.ck_in hc
  obtain ⟨W1, hW1, sz1, g1, B1⟩ := boxn w #[.int .u8 3, .int .u16 bo, .int .u16 st, .int .i64 n] 27
  have hv1 := hvK hv g1
  have b1_1_0 := B1.cell 0 (v := .int .u8 3) rfl
  have b1_1_1 := B1.cell 1 (v := .int .u16 bo) rfl
  have b1_1_2 := B1.cell 2 (v := .int .u16 st) rfl
  have b1_1_3 := B1.cell 3 (v := .int .i64 n) rfl
  go_enter Tryz.func7, Tryz.ntmps7
  go_wp2_with (first | (go_at_call 8; (fail_if_success (guard_hyp g2)); refine (awakeC _ (enK en g1)).mono ?_; rintro e w2 ⟨rfl, g2⟩; have G2 := gb_trans g1 g2; have hv2 := hvK hv G2; have B1x := B1.kept g2 (by simp); clear b1_1_0 b1_1_1 b1_1_2 b1_1_3; have b1_2_0 := B1x.cell 0 (v := .int .u8 3) rfl; have b1_2_1 := B1x.cell 1 (v := .int .u16 bo) rfl; have b1_2_2 := B1x.cell 2 (v := .int .u16 st) rfl; have b1_2_3 := B1x.cell 3 (v := .int .i64 n) rfl) | (go_at_call 13; (fail_if_success (guard_hyp g3)); refine (hk _ hv2).mono ?_; rintro e w3 ⟨rfl, g3⟩; have G3 := gb_trans G2 g3; have hv3 := hvK hv G3; have B1xx := B1x.kept g3 (by simp); clear b1_2_0 b1_2_1 b1_2_2 b1_2_3; have b1_3_0 := B1xx.cell 0 (v := .int .u8 3) rfl; have b1_3_1 := B1xx.cell 1 (v := .int .u16 bo) rfl; have b1_3_2 := B1xx.cell 2 (v := .int .u16 st) rfl; have b1_3_3 := B1xx.cell 3 (v := .int .i64 n) rfl))
  refine wp_loop_rounds 3 ?_
  rw [rounds_succ]
  go_wp2
  go_loopw [8] (fun v wr => ∃ k : Nat, k ≤ 7 ∧ v = .int .i64 k ∧ w3.grownBy wr none) (fun v _ => 7 - (intOf v).toNat)
  case atStart => exact ⟨0, by omega, rfl, World.grownBy.refl _ _⟩
  case round =>
    obtain ⟨k, hk, rfl, hG⟩ := hrel
    have RB := B1xx.kept hG (by simp)
    have e0 := RB.cell 0 (v := .int .u8 3) rfl
    have e1 := RB.cell 1 (v := .int .u16 bo) rfl
    have e2 := RB.cell 2 (v := .int .u16 st) rfl
    have e3 := RB.cell 3 (v := .int .i64 n) rfl
    have hvr := hvK hv (gb_trans G3 hG)
    by_cases hlt : k < 7
    · have hlt' : (k : Int) ≤ 6 := by omega
      have hN := fun w hv => gnextC 3 bo st n (by decide) hb hs 0 (by decide) (k : Int) w hv
      have hM := fun w hv => nextC 3 bo st (by decide) hb hs 0 (k : Int) w hv
      have eN : Gn.nxE 3 bo st n 0 k = 0 := by
        unfold Gn.nxE
        rw [if_neg (by simp [hc]), if_neg (by omega), if_neg (by show ¬ ((k : Int) < 0 ∨ (6 : Int) < (k : Int)); omega)]
      have eM : Lf.nxE 3 bo st 0 k = 0 := by
        rw [Lf.nx_err hi.1 (by decide), if_neg (by show ¬ ((k : Int) < 0 ∨ (6 : Int) < (k : Int)); omega)]
      have vN : Gn.nxV 3 bo st n 0 k = (if bo.testBit k then 1 else 0) := by
        unfold Gn.nxV
        rw [eN]; rfl
      have vM : Lf.nxV 3 bo st 0 k = (if bo.testBit k then 1 else 0) := by
        unfold Lf.nxV
        rw [eM]; rfl
      cases hq : bo.testBit k with
      | true =>
        rw [hq] at vN vM
        rw [show Gn.nxV 3 bo st n 0 k = 1 from vN, eN] at hN
        rw [show Lf.nxV 3 bo st 0 k = 1 from vM, eM] at hM
        clear hq vN vM eN eM
        have hN : ∀ w, Hid (Hv w) → Calls Tryz.prog 15 #[.agg #[.int .u8 3, .int .u16 bo, .int .u16 st, .int .i64 n], .int .u8 0, .int .i64 k] w fun e w' => e = .returned (.tuple #[.int .u8 1, .int .i64 0]) ∧ w.grownBy w' none := hN
        have hM : ∀ w, Hid (Hv w) → Calls Tryz.prog 17 #[.agg #[.int .u8 3, .int .u16 bo, .int .u16 st], .int .u8 0, .int .i64 k] w fun e w' => e = .returned (.tuple #[.int .u8 1, .int .i64 0]) ∧ w.grownBy w' none := hM
        go_wp2_with (first | (go_at_call 15; refine (hN _ hvr).mono ?_; rintro e w5 ⟨rfl, g5⟩; have B5 := RB.kept g5 (by simp); have p0 := B5.cell 0 (v := .int .u8 3) rfl; have p1 := B5.cell 1 (v := .int .u16 bo) rfl; have p2 := B5.cell 2 (v := .int .u16 st) rfl; have p3 := B5.cell 3 (v := .int .i64 n) rfl; have hv5 := hvK hvr g5) | (go_at_call 17; refine (hM _ hv5).mono ?_; rintro e w6 ⟨rfl, g6⟩; have B6 := B5.kept g6 (by simp); have q0 := B6.cell 0 (v := .int .u8 3) rfl; have q1 := B6.cell 1 (v := .int .u16 bo) rfl; have q2 := B6.cell 2 (v := .int .u16 st) rfl; have q3 := B6.cell 3 (v := .int .i64 n) rfl))
        exact ⟨⟨k + 1, by omega, by simp, gb_trans hG (gb_trans g5 g6)⟩, by simp [intOf]; omega⟩
      | false =>
        rw [hq] at vN vM
        rw [show Gn.nxV 3 bo st n 0 k = 0 from vN, eN] at hN
        rw [show Lf.nxV 3 bo st 0 k = 0 from vM, eM] at hM
        clear hq vN vM eN eM
        have hN : ∀ w, Hid (Hv w) → Calls Tryz.prog 15 #[.agg #[.int .u8 3, .int .u16 bo, .int .u16 st, .int .i64 n], .int .u8 0, .int .i64 k] w fun e w' => e = .returned (.tuple #[.int .u8 0, .int .i64 0]) ∧ w.grownBy w' none := hN
        have hM : ∀ w, Hid (Hv w) → Calls Tryz.prog 17 #[.agg #[.int .u8 3, .int .u16 bo, .int .u16 st], .int .u8 0, .int .i64 k] w fun e w' => e = .returned (.tuple #[.int .u8 0, .int .i64 0]) ∧ w.grownBy w' none := hM
        go_wp2_with (first | (go_at_call 15; refine (hN _ hvr).mono ?_; rintro e w5 ⟨rfl, g5⟩; have B5 := RB.kept g5 (by simp); have p0 := B5.cell 0 (v := .int .u8 3) rfl; have p1 := B5.cell 1 (v := .int .u16 bo) rfl; have p2 := B5.cell 2 (v := .int .u16 st) rfl; have p3 := B5.cell 3 (v := .int .i64 n) rfl; have hv5 := hvK hvr g5) | (go_at_call 17; refine (hM _ hv5).mono ?_; rintro e w6 ⟨rfl, g6⟩; have B6 := B5.kept g6 (by simp); have q0 := B6.cell 0 (v := .int .u8 3) rfl; have q1 := B6.cell 1 (v := .int .u16 bo) rfl; have q2 := B6.cell 2 (v := .int .u16 st) rfl; have q3 := B6.cell 3 (v := .int .i64 n) rfl))
        exact ⟨⟨k + 1, by omega, by simp, gb_trans hG (gb_trans g5 g6)⟩, by simp [intOf]; omega⟩
    · obtain rfl : k = 7 := by omega
      go_wp2
      rw [rounds_succ]
      go_wp2
      go_loopw [8] (fun v wr => ∃ k : Nat, k ≤ 7 ∧ v = .int .i64 k ∧ w3.grownBy wr none) (fun v _ => 7 - (intOf v).toNat)
      case atStart => exact ⟨0, by omega, rfl, hG⟩
      case round =>
        obtain ⟨k, hk, rfl, hG⟩ := hrel
        have RB := B1xx.kept hG (by simp)
        have e0 := RB.cell 0 (v := .int .u8 3) rfl
        have e1 := RB.cell 1 (v := .int .u16 bo) rfl
        have e2 := RB.cell 2 (v := .int .u16 st) rfl
        have e3 := RB.cell 3 (v := .int .i64 n) rfl
        have hvr := hvK hv (gb_trans G3 hG)
        by_cases hlt : k < 7
        · have hlt' : (k : Int) ≤ 6 := by omega
          have hN := fun w hv => gnextC 3 bo st n (by decide) hb hs 1 (by decide) (k : Int) w hv
          have hM := fun w hv => nextC 3 bo st (by decide) hb hs 1 (k : Int) w hv
          have eN : Gn.nxE 3 bo st n 1 k = 0 := by
            unfold Gn.nxE
            rw [if_neg (by simp [hc]), if_neg (by omega), if_neg (by show ¬ ((k : Int) < 0 ∨ (6 : Int) < (k : Int)); omega)]
          have eM : Lf.nxE 3 bo st 1 k = 0 := by
            rw [Lf.nx_err hi.1 (by decide), if_neg (by show ¬ ((k : Int) < 0 ∨ (6 : Int) < (k : Int)); omega)]
          have vN : Gn.nxV 3 bo st n 1 k = (if 1 = 1 ∧ st.testBit k = true then 1 else Gn.old n 1) := by
            unfold Gn.nxV
            rw [eN]; rfl
          have vM : Lf.nxV 3 bo st 1 k = (if st.testBit k then 1 else 0) := by
            unfold Lf.nxV
            rw [eM]; rfl
          by_cases hq : st.testBit k = true
          · rw [hq] at vM
            rw [if_pos ⟨rfl, hq⟩] at vN
            rw [show Gn.nxV 3 bo st n 1 k = 1 from vN, eN] at hN
            rw [show Lf.nxV 3 bo st 1 k = 1 from vM, eM] at hM
            clear hq vN vM eN eM
            have hN : ∀ w, Hid (Hv w) → Calls Tryz.prog 15 #[.agg #[.int .u8 3, .int .u16 bo, .int .u16 st, .int .i64 n], .int .u8 1, .int .i64 k] w fun e w' => e = .returned (.tuple #[.int .u8 1, .int .i64 0]) ∧ w.grownBy w' none := hN
            have hM : ∀ w, Hid (Hv w) → Calls Tryz.prog 17 #[.agg #[.int .u8 3, .int .u16 bo, .int .u16 st], .int .u8 1, .int .i64 k] w fun e w' => e = .returned (.tuple #[.int .u8 1, .int .i64 0]) ∧ w.grownBy w' none := hM
            go_wp2_with (first | (go_at_call 15; refine (hN _ hvr).mono ?_; rintro e w5 ⟨rfl, g5⟩; have B5 := RB.kept g5 (by simp); have p0 := B5.cell 0 (v := .int .u8 3) rfl; have p1 := B5.cell 1 (v := .int .u16 bo) rfl; have p2 := B5.cell 2 (v := .int .u16 st) rfl; have p3 := B5.cell 3 (v := .int .i64 n) rfl; have hv5 := hvK hvr g5) | (go_at_call 17; refine (hM _ hv5).mono ?_; rintro e w6 ⟨rfl, g6⟩; have B6 := B5.kept g6 (by simp); have q0 := B6.cell 0 (v := .int .u8 3) rfl; have q1 := B6.cell 1 (v := .int .u16 bo) rfl; have q2 := B6.cell 2 (v := .int .u16 st) rfl; have q3 := B6.cell 3 (v := .int .i64 n) rfl))
            exact ⟨⟨k + 1, by omega, by simp, gb_trans hG (gb_trans g5 g6)⟩, by simp [intOf]; omega⟩
          · rw [if_neg (by simp [hq])] at vN
            rw [show st.testBit k = false by simpa using hq] at vM
            rw [show Lf.nxV 3 bo st 1 k = 0 from vM, eM] at hM
            by_cases h2 : n = 2
            · have h2n : ¬ 2 < n := by omega
              rw [show Gn.nxV 3 bo st n 1 k = 0 from vN.trans (by unfold Gn.old; rw [if_pos (by omega)]), eN] at hN
              clear hq vN vM eN eM h2
              have hN : ∀ w, Hid (Hv w) → Calls Tryz.prog 15 #[.agg #[.int .u8 3, .int .u16 bo, .int .u16 st, .int .i64 n], .int .u8 1, .int .i64 k] w fun e w' => e = .returned (.tuple #[.int .u8 0, .int .i64 0]) ∧ w.grownBy w' none := hN
              have hM : ∀ w, Hid (Hv w) → Calls Tryz.prog 17 #[.agg #[.int .u8 3, .int .u16 bo, .int .u16 st], .int .u8 1, .int .i64 k] w fun e w' => e = .returned (.tuple #[.int .u8 0, .int .i64 0]) ∧ w.grownBy w' none := hM
              go_wp2_with (first | (go_at_call 15; refine (hN _ hvr).mono ?_; rintro e w5 ⟨rfl, g5⟩; have B5 := RB.kept g5 (by simp); have p0 := B5.cell 0 (v := .int .u8 3) rfl; have p1 := B5.cell 1 (v := .int .u16 bo) rfl; have p2 := B5.cell 2 (v := .int .u16 st) rfl; have p3 := B5.cell 3 (v := .int .i64 n) rfl; have hv5 := hvK hvr g5) | (go_at_call 17; refine (hM _ hv5).mono ?_; rintro e w6 ⟨rfl, g6⟩; have B6 := B5.kept g6 (by simp); have q0 := B6.cell 0 (v := .int .u8 3) rfl; have q1 := B6.cell 1 (v := .int .u16 bo) rfl; have q2 := B6.cell 2 (v := .int .u16 st) rfl; have q3 := B6.cell 3 (v := .int .i64 n) rfl))
              exact ⟨⟨k + 1, by omega, by simp, gb_trans hG (gb_trans g5 g6)⟩, by simp [intOf]; omega⟩
            · have h2n : 2 < n := by omega
              rw [show Gn.nxV 3 bo st n 1 k = 2 from vN.trans (by unfold Gn.old; rw [if_neg (by omega)]), eN] at hN
              clear hq vN vM eN eM h2
              have hN : ∀ w, Hid (Hv w) → Calls Tryz.prog 15 #[.agg #[.int .u8 3, .int .u16 bo, .int .u16 st, .int .i64 n], .int .u8 1, .int .i64 k] w fun e w' => e = .returned (.tuple #[.int .u8 2, .int .i64 0]) ∧ w.grownBy w' none := hN
              have hM : ∀ w, Hid (Hv w) → Calls Tryz.prog 17 #[.agg #[.int .u8 3, .int .u16 bo, .int .u16 st], .int .u8 1, .int .i64 k] w fun e w' => e = .returned (.tuple #[.int .u8 0, .int .i64 0]) ∧ w.grownBy w' none := hM
              go_wp2_with (first | (go_at_call 15; refine (hN _ hvr).mono ?_; rintro e w5 ⟨rfl, g5⟩; have B5 := RB.kept g5 (by simp); have p0 := B5.cell 0 (v := .int .u8 3) rfl; have p1 := B5.cell 1 (v := .int .u16 bo) rfl; have p2 := B5.cell 2 (v := .int .u16 st) rfl; have p3 := B5.cell 3 (v := .int .i64 n) rfl; have hv5 := hvK hvr g5) | (go_at_call 17; refine (hM _ hv5).mono ?_; rintro e w6 ⟨rfl, g6⟩; have B6 := B5.kept g6 (by simp); have q0 := B6.cell 0 (v := .int .u8 3) rfl; have q1 := B6.cell 1 (v := .int .u16 bo) rfl; have q2 := B6.cell 2 (v := .int .u16 st) rfl; have q3 := B6.cell 3 (v := .int .i64 n) rfl))
              exact ⟨⟨k + 1, by omega, by simp, gb_trans hG (gb_trans g5 g6)⟩, by simp [intOf]; omega⟩
        · obtain rfl : k = 7 := by omega
          clear RB e0 e1 e2 e3 hlt
          go_wp2
          rw [rounds_succ]
          go_wp2
          go_loopw [14, 15] (fun vs vi wr => ∃ k : Nat, 2 ≤ k ∧ (k : Int) ≤ n ∧ vi = .int .i64 k ∧ vs = .int .u8 (Gn.stv n k : Nat) ∧ w3.grownBy wr none) (fun _ vi _ => (n - intOf vi).toNat)
          case atStart => exact ⟨2, by omega, by omega, rfl, by rw [show Gn.stv n 2 = 2 by unfold Gn.stv; rw [if_neg (by omega)]]; rfl, hG⟩
          case round =>
            obtain ⟨k, h2k, hkn, rfl, rfl, hG⟩ := hrel
            have RB := B1xx.kept hG (by simp)
            have e0 := RB.cell 0 (v := .int .u8 3) rfl
            have e1 := RB.cell 1 (v := .int .u16 bo) rfl
            have e2 := RB.cell 2 (v := .int .u16 st) rfl
            have e3 := RB.cell 3 (v := .int .i64 n) rfl
            have hvr := hvK hv (gb_trans G3 hG)
            have hwn : IntKind.i64.wrap (n - 1) = n - 1 := by rw [IntKind.wrap_i64]; omega
            by_cases hlt : (k : Int) < n
            · rw [Gn.stv_lt hlt]
              have hk256 : (k : Int) < 256 := by omega
              have hk0 : ((k : Int) == 0) = false := by simp; omega
              have hk0' : ¬ (k : Int) = 0 := by omega
              have hnx : Hid (Gn.stv n (k + 1) = Gn.old n k) := Gn.stv_next h2k hlt
              have hNx : ∀ z : Int, 0 ≤ z → z ≤ 6 → ∀ w, Hid (Hv w) → Calls Tryz.prog 15 #[.agg #[.int .u8 3, .int .u16 bo, .int .u16 st, .int .i64 n], .int .u8 k, .int .i64 z] w fun e w' => e = .returned (.tuple #[.int .u8 (Gn.old n k : Nat), .int .i64 0]) ∧ w.grownBy w' none := fun z h0 h1 w hv => by
                have h := gnextC 3 bo st n (by decide) hb hs k (by omega) z w hv
                have e : Gn.nxE 3 bo st n k z = 0 := by
                  unfold Gn.nxE
                  rw [if_neg (by simp [hc]), if_neg (by omega), if_neg (by show ¬ (z < 0 ∨ (6 : Int) < z); omega)]
                have v : Gn.nxV 3 bo st n k z = Gn.old n k := by
                  unfold Gn.nxV
                  rw [if_pos e, if_neg (by omega), if_neg (by omega)]
                rw [v, e] at h
                exact h
              by_cases hkm : k < m
              · have hkm' : (k : Int) < (m : Int) := by omega
                obtain ⟨a, hsp, hcell⟩ := (Sd.kept hS.out (gb_trans G3 hG)) k hkm
                subst hsp
                have hLk := hL.out k hkm
                have ht1 : -6 ≤ (L k).tmod 7 := by have := Int.lt_tmod_of_pos (L k) (b := 7) (by decide); omega
                have ht2 : (L k).tmod 7 ≤ 6 := by have := Int.tmod_lt_of_pos (L k) (b := 7) (by decide); omega
                have hwa : wrap64 ((L k).tmod 7 + 6) = (L k).tmod 7 + 6 := by unfold wrap64; omega
                have hwb : wrap64 ((L k).tmod 7 + 6 + 1) = (L k).tmod 7 + 6 + 1 := by unfold wrap64; omega
                obtain ⟨z, hz⟩ : ∃ z, ((L k).tmod 7 + 6 + 1).tmod 7 = z := ⟨_, rfl⟩
                have hz0 : 0 ≤ z := by rw [← hz]; exact Int.tmod_nonneg _ (by omega)
                have hz1 : z ≤ 6 := by rw [← hz]; have := Int.tmod_lt_of_pos ((L k).tmod 7 + 6 + 1) (b := 7) (by decide); omega
                have hN := fun w hv => hNx (z) hz0 hz1 w hv
                by_cases hlast : (k : Int) + 1 = n
                · rw [show Gn.old n k = 0 by unfold Gn.old; rw [if_pos hlast]] at hN hnx
                  have hl1 : ((k : Int) == n - 1) = true := by simp; omega
                  clear hlast hNx
                  go_wp2_with (first | (go_at_call 15; refine (hN _ hvr).mono ?_; rintro e w5 ⟨rfl, g5⟩; have B5 := RB.kept g5 (by simp); have p0 := B5.cell 0 (v := .int .u8 3) rfl; have p1 := B5.cell 1 (v := .int .u16 bo) rfl; have p2 := B5.cell 2 (v := .int .u16 st) rfl; have p3 := B5.cell 3 (v := .int .i64 n) rfl))
                  first
                    | (go_roundw; (case rel => exact ⟨k + 1, by omega, by omega, by first | rfl | go_num | simp, by rw [hnx.out]; first | rfl | simp, gb_trans hG g5⟩); (case measure => (simp [intOf]; omega)))
                    | (refine ⟨?ex, ?ms⟩; (case ms => (simp [intOf]; omega)); (case ex => ((repeat apply Exists.intro); refine ⟨?rl, ?eq⟩; (case eq => (repeat' (first | rfl | apply And.intro))); (case rl => exact ⟨k + 1, by omega, by omega, by first | rfl | go_num | simp, by rw [hnx.out]; first | rfl | simp, gb_trans hG g5⟩))))
                · rw [show Gn.old n k = k + 1 by unfold Gn.old; rw [if_neg hlast]] at hN hnx
                  have hl1 : ((k : Int) == n - 1) = false := by simp; omega
                  have hk0 : (((k + 1 : Nat) : Int) == 0) = false := by simp; omega
                  have hk0' : ¬ ((k : Int) + 1) = 0 := by omega
                  clear hNx
                  go_wp2_with (first | (go_at_call 15; refine (hN _ hvr).mono ?_; rintro e w5 ⟨rfl, g5⟩; have B5 := RB.kept g5 (by simp); have p0 := B5.cell 0 (v := .int .u8 3) rfl; have p1 := B5.cell 1 (v := .int .u16 bo) rfl; have p2 := B5.cell 2 (v := .int .u16 st) rfl; have p3 := B5.cell 3 (v := .int .i64 n) rfl))
                  first
                    | (go_roundw; (case rel => exact ⟨k + 1, by omega, by omega, by first | rfl | go_num | simp, by rw [hnx.out]; first | rfl | simp, gb_trans hG g5⟩); (case measure => (simp [intOf]; omega)))
                    | (refine ⟨?ex, ?ms⟩; (case ms => (simp [intOf]; omega)); (case ex => ((repeat apply Exists.intro); refine ⟨?rl, ?eq⟩; (case eq => (repeat' (first | rfl | apply And.intro))); (case rl => exact ⟨k + 1, by omega, by omega, by first | rfl | go_num | simp, by rw [hnx.out]; first | rfl | simp, gb_trans hG g5⟩))))
              · have hkm' : ¬ (k : Int) < (m : Int) := by omega
                have hN := fun w hv => hNx (0) (by omega) (by omega) w hv
                by_cases hlast : (k : Int) + 1 = n
                · rw [show Gn.old n k = 0 by unfold Gn.old; rw [if_pos hlast]] at hN hnx
                  have hl1 : ((k : Int) == n - 1) = true := by simp; omega
                  clear hlast hNx
                  go_wp2_with (first | (go_at_call 15; refine (hN _ hvr).mono ?_; rintro e w5 ⟨rfl, g5⟩; have B5 := RB.kept g5 (by simp); have p0 := B5.cell 0 (v := .int .u8 3) rfl; have p1 := B5.cell 1 (v := .int .u16 bo) rfl; have p2 := B5.cell 2 (v := .int .u16 st) rfl; have p3 := B5.cell 3 (v := .int .i64 n) rfl))
                  first
                    | (go_roundw; (case rel => exact ⟨k + 1, by omega, by omega, by first | rfl | go_num | simp, by rw [hnx.out]; first | rfl | simp, gb_trans hG g5⟩); (case measure => (simp [intOf]; omega)))
                    | (refine ⟨?ex, ?ms⟩; (case ms => (simp [intOf]; omega)); (case ex => ((repeat apply Exists.intro); refine ⟨?rl, ?eq⟩; (case eq => (repeat' (first | rfl | apply And.intro))); (case rl => exact ⟨k + 1, by omega, by omega, by first | rfl | go_num | simp, by rw [hnx.out]; first | rfl | simp, gb_trans hG g5⟩))))
                · rw [show Gn.old n k = k + 1 by unfold Gn.old; rw [if_neg hlast]] at hN hnx
                  have hl1 : ((k : Int) == n - 1) = false := by simp; omega
                  have hk0 : (((k + 1 : Nat) : Int) == 0) = false := by simp; omega
                  have hk0' : ¬ ((k : Int) + 1) = 0 := by omega
                  clear hNx
                  go_wp2_with (first | (go_at_call 15; refine (hN _ hvr).mono ?_; rintro e w5 ⟨rfl, g5⟩; have B5 := RB.kept g5 (by simp); have p0 := B5.cell 0 (v := .int .u8 3) rfl; have p1 := B5.cell 1 (v := .int .u16 bo) rfl; have p2 := B5.cell 2 (v := .int .u16 st) rfl; have p3 := B5.cell 3 (v := .int .i64 n) rfl))
                  first
                    | (go_roundw; (case rel => exact ⟨k + 1, by omega, by omega, by first | rfl | go_num | simp, by rw [hnx.out]; first | rfl | simp, gb_trans hG g5⟩); (case measure => (simp [intOf]; omega)))
                    | (refine ⟨?ex, ?ms⟩; (case ms => (simp [intOf]; omega)); (case ex => ((repeat apply Exists.intro); refine ⟨?rl, ?eq⟩; (case eq => (repeat' (first | rfl | apply And.intro))); (case rl => exact ⟨k + 1, by omega, by omega, by first | rfl | go_num | simp, by rw [hnx.out]; first | rfl | simp, gb_trans hG g5⟩))))
            · obtain rfl : (k : Int) = n := by omega
              by_cases h2 : 2 < (k : Int)
              · rw [show Gn.stv k k = 0 by unfold Gn.stv; rw [if_pos ⟨rfl, h2⟩]]
                go_wp2
                go_ret
                exact ⟨rfl, gb_trans G3 hG⟩
              · obtain rfl : k = 2 := by omega
                rw [show Gn.stv ((2 : Nat) : Int) 2 = 2 by decide]
                go_wp2
                go_ret
                exact ⟨rfl, gb_trans G3 hG⟩

theorem fades_nat (ho bo st : Nat) (n : Int) (hh : ho < 256) (hb : bo < 65536) (hs : st < 65536) (m c : Nat) (sp : Option Addr) (L : Nat → Int) (w : World) (hmc : m ≤ c) (hcm : c ≤ 9223372036854775807) (hS : Sd w sp m L) (hL : ∀ k, k < m → -9223372036854775808 ≤ L k ∧ L k ≤ 9223372036854775807) (en : Hid (En w)) : Calls Tryz.prog 7 #[.agg #[.int .u8 ho, .int .u16 bo, .int .u16 st, .int .i64 n], .slice sp m c] w fun e w' => e = .returned (.bool true) ∧ w.grownBy w' none := by
  by_cases hc : Gn.ck ho bo st n = 0
  · have hi := Lf.ck_in (Gn.ck_in hc).1
    obtain rfl | rfl | rfl : ho = 1 ∨ ho = 2 ∨ ho = 3 := by omega
    · exact fades1 bo st n hb hs m c sp L w hmc hcm hS hL en hc
    · exact fades2 bo st n hb hs m c sp L w hmc hcm hS hL en hc
    · exact fades3 bo st n hb hs m c sp L w hmc hcm hS hL en hc
  · exact fades0 ho bo st n hh hb hs m c sp w en (by omega)
theorem fades_walk (ho bo st n : Int) (m c : Nat) (sp : Option Addr) (L : Nat → Int) (w : World) (h1 : 0 ≤ ho ∧ ho ≤ 255) (h2 : 0 ≤ bo ∧ bo ≤ 65535) (h3 : 0 ≤ st ∧ st ≤ 65535) (hn : -9223372036854775808 ≤ n ∧ n ≤ 9223372036854775807) (hmc : m ≤ c ∧ c ≤ 9223372036854775807) (hS : Sd w sp m L) (hL : ∀ k, k < m → -9223372036854775808 ≤ L k ∧ L k ≤ 9223372036854775807) (en : En w) : Calls Tryz.prog 7 #[.agg #[.int .u8 ho, .int .u16 bo, .int .u16 st, .int .i64 n], .slice sp m c] w fun e w' => e = .returned (.bool true) ∧ Below w.heap.size w w' := by
  obtain ⟨ho, rfl⟩ := Int.eq_ofNat_of_zero_le h1.1
  obtain ⟨bo, rfl⟩ := Int.eq_ofNat_of_zero_le h2.1
  obtain ⟨st, rfl⟩ := Int.eq_ofNat_of_zero_le h3.1
  exact (fades_nat ho bo st n (by omega) (by omega) (by omega) m c sp L w hmc.1 hmc.2 hS hL en).mono fun e w' ⟨a, b⟩ => ⟨a, gb_below b⟩
end Go.Proofs.YtlkdenanbofliaaGreatDoor
