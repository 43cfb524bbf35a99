/- The statement TopoHome answers true (its walk). -/
import Derived.Test.YteegbhnfkcbnoabDoorP15
import Derived.Deep.RegionHeld2
namespace Go.Proofs.YteegbhnfkcbnoabDoor
open Go.RowKit
set_option linter.unusedVariables false
set_option linter.unusedSimpArgs false
set_option maxRecDepth 100000

/-- How many of the places below X a side of L has. -/
def cn (L X : Int) : Int := if X ≤ fi L then 0 else if fi L + L ≤ X then L else X - fi L
def li1 (X L : Int) : Int := if liB X L = true then 1 else 0
theorem li1_is {X L : Int} (hL : 1 ≤ L) : li1 X L = if fi L ≤ X ∧ X < fi L + L then 1 else 0 := by
  have h0 : ¬ L = 0 := by omega
  unfold li1 liB
  by_cases h1 : fi L ≤ X ∧ X < fi L + L
  · rw [if_pos h1, if_pos (by simp [h1.1, h1.2])]
  · rw [if_neg h1, if_neg (by simp [h0]; omega)]
theorem cn_step {L X : Int} (hL : 1 ≤ L) : cn L (X + 1) = cn L X + li1 X L := by
  rw [li1_is hL]
  unfold cn
  repeat' split
  all_goals omega
theorem cn_low {L : Int} (h1 : 1 ≤ L) (h2 : L ≤ 40) : cn L (-21) = 0 := by unfold cn fi; rw [if_pos (by omega)]
theorem cn_top {L : Int} (h1 : 1 ≤ L) (h2 : L ≤ 40) : cn L 22 = L := by unfold cn fi; rw [if_neg (by omega), if_pos (by omega)]
theorem cn_bd {L X : Int} (h1 : 1 ≤ L) : 0 ≤ cn L X ∧ cn L X ≤ L := by
  unfold cn
  repeat' split
  all_goals omega
theorem li_bd (X L : Int) : 0 ≤ li1 X L ∧ li1 X L ≤ 1 := by unfold li1; split <;> omega
theorem mul_bd {a b : Int} (h1 : 0 ≤ a) (h2 : a ≤ 40) (h3 : 0 ≤ b) (h4 : b ≤ 40) : 0 ≤ a * b ∧ a * b ≤ 1600 := by
  have e1 := Int.mul_nonneg h1 h3
  have e2 := Int.mul_le_mul h2 h4 h3 (by omega)
  omega
theorem hasIn (k x y t z a b : Int) (ht : 0 ≤ t) (h : Hid (Tp.chk k x y t z = 0)) (ha : -21 ≤ a ∧ a ≤ 21) (hb : -21 ≤ b ∧ b ≤ 21) (w : World) : Calls Tryd.prog 12 #[.agg #[.int .u8 k, .int .i64 x, .int .i64 y, .int .u8 t, .int .i64 z], .agg #[.int .i64 a, .int .i64 b]] w fun e w' => e = .returned (.tuple #[.bool (liB a x && liB b y), .int .i64 0]) ∧ w.grownBy w' none := by
  have hc := hasC k x y t z a b ht w
  have f1 : frB a = false := by unfold frB; simp; omega
  have f2 : frB b = false := by unfold frB; simp; omega
  have e1 : hasE k x y t z a b = 0 := by unfold hasE; rw [if_pos h.out, f1, f2]; rfl
  have e2 : hasV k x y t z a b = (liB a x && liB b y) := by unfold hasV; rw [e1]; rfl
  rw [e1, e2] at hc
  exact hc
set_option maxHeartbeats 4000000 in
theorem countC (k x y t z : Int) (ht : 0 ≤ t) (h : Hid (Tp.chk k x y t z = 0)) (hx : 1 ≤ x ∧ x ≤ 40) (hy : 1 ≤ y ∧ y ≤ 40) (w : World) : Calls Tryd.prog 10 #[.agg #[.int .u8 k, .int .i64 x, .int .i64 y, .int .u8 t, .int .i64 z], .int .i64 21] w fun e w' => e = .returned (.int .i64 (x * y)) ∧ w.grownBy w' none := by
  obtain ⟨W1, hW1, sz1, g1, B1⟩ := boxn w #[.int .u8 k, .int .i64 x, .int .i64 y, .int .u8 t, .int .i64 z] 23
  have c0 := B1.cell 0 (v := .int .u8 k) rfl
  have c1 := B1.cell 1 (v := .int .i64 x) rfl
  have c2 := B1.cell 2 (v := .int .i64 y) rfl
  have c3 := B1.cell 3 (v := .int .u8 t) rfl
  have c4 := B1.cell 4 (v := .int .i64 z) rfl
  have L0 : Hid (x * cn y (-21) = 0) := by unfold Hid; rw [cn_low hy.1 hy.2]; omega
  have L1 : Hid (x * cn y 22 = x * y) := by unfold Hid; rw [cn_top hy.1 hy.2]
  have L2 : Hid (cn x (-21) = 0) := cn_low hx.1 hx.2
  have L3 : Hid (cn x 22 = x) := cn_top hx.1 hx.2
  go_enter Tryd.func10, Tryd.ntmps10
  go_wp2
  go_loopw [5, 6] (fun n v wr => ∃ Y : Int, -21 ≤ Y ∧ Y ≤ 22 ∧ v = .int .i64 Y ∧ n = .int .i64 (x * cn y Y) ∧ W1.grownBy wr none) (fun _ v _ => (22 - intOf v).toNat)
  case atStart => exact ⟨-21, by omega, by omega, rfl, by rw [L0.out], World.grownBy.refl _ _⟩
  case round =>
    obtain ⟨Y, hY0, hY1, rfl, rfl, hg⟩ := hrel
    by_cases hlt : Y ≤ 21
    · have hM := mul_bd (a := x) (b := cn y Y) (by omega) hx.2 (cn_bd hy.1).1 (by have := (cn_bd (X := Y) hy.1).2; omega)
      have HB : Hid (0 ≤ x * cn y Y ∧ x * cn y Y ≤ 1600) := hM
      obtain ⟨M, hMe⟩ : ∃ M, x * cn y Y = M := ⟨_, rfl⟩
      have HM : Hid (x * cn y Y = M) := hMe
      rw [hMe] at hM
      clear hMe HB
      go_wp2
      go_loopw [5, 7] (fun n v wr' => ∃ X : Int, -21 ≤ X ∧ X ≤ 22 ∧ v = .int .i64 X ∧ n = .int .i64 (M + li1 Y y * cn x X) ∧ W1.grownBy wr' none) (fun _ v _ => (22 - intOf v).toNat)
      case atStart => exact ⟨-21, by omega, by omega, rfl, by rw [L2.out]; simp; exact HM.out, hg⟩
      case round =>
        obtain ⟨X, hX0, hX1, rfl, rfl, hg2⟩ := hrel
        have hcb := cn_bd (L := x) (X := X) hx.1
        have hlb := li_bd Y y
        have HMB := mul_bd (a := li1 Y y) (b := cn x X) hlb.1 (by omega) hcb.1 (by omega)
        have BK := B1.kept hg2 (by simp)
        have u0 := BK.cell 0 (v := .int .u8 k) rfl
        have u1 := BK.cell 1 (v := .int .i64 x) rfl
        have u2 := BK.cell 2 (v := .int .i64 y) rfl
        have u3 := BK.cell 3 (v := .int .u8 t) rfl
        have u4 := BK.cell 4 (v := .int .i64 z) rfl
        by_cases hlt2 : X ≤ 21
        · have HST : Hid (cn x (X + 1) = cn x X + li1 X x) := cn_step hx.1
          cases hl1 : liB X x with
          | true =>
            cases hl2 : liB Y y with
            | true =>
              have HA : Hid (M + li1 Y y * cn x (X + 1) = M + li1 Y y * cn x X + 1) := by
                have e1 : li1 X x = 1 := by unfold li1; rw [if_pos hl1]
                have e2 : li1 Y y = 1 := by unfold li1; rw [if_pos hl2]
                unfold Hid; rw [HST.out, e1, e2]; omega
              have hw : IntKind.i64.wrap (M + li1 Y y * cn x X + 1) = M + li1 Y y * cn x X + 1 := by rw [IntKind.wrap_i64]; omega
              go_wp2_with (go_at_call 12; refine (hasIn k x y t z X Y ht h ⟨by omega, by omega⟩ ⟨by omega, by omega⟩ _).mono ?_; rintro e w9 ⟨rfl, g9⟩)
              go_roundw
              case rel => exact ⟨X + 1, by omega, by omega, by go_num, by rw [HA.out], gb_trans hg2 g9⟩
              case measure => simp [intOf]; omega
            | false =>
              have HA : Hid (M + li1 Y y * cn x (X + 1) = M + li1 Y y * cn x X) := by
                have e2 : li1 Y y = 0 := by unfold li1; rw [if_neg (by rw [hl2]; decide)]
                unfold Hid; rw [e2]; omega
              go_wp2_with (go_at_call 12; refine (hasIn k x y t z X Y ht h ⟨by omega, by omega⟩ ⟨by omega, by omega⟩ _).mono ?_; rintro e w9 ⟨rfl, g9⟩)
              go_roundw
              case rel => exact ⟨X + 1, by omega, by omega, by go_num, by rw [HA.out], gb_trans hg2 g9⟩
              case measure => simp [intOf]; omega
          | false =>
            have HA : Hid (M + li1 Y y * cn x (X + 1) = M + li1 Y y * cn x X) := by
              have e1 : li1 X x = 0 := by unfold li1; rw [if_neg (by rw [hl1]; decide)]
              unfold Hid; rw [HST.out, e1, Int.add_zero]
            go_wp2_with (go_at_call 12; refine (hasIn k x y t z X Y ht h ⟨by omega, by omega⟩ ⟨by omega, by omega⟩ _).mono ?_; rintro e w9 ⟨rfl, g9⟩)
            go_roundw
            case rel => exact ⟨X + 1, by omega, by omega, by go_num, by rw [HA.out], gb_trans hg2 g9⟩
            case measure => simp [intOf]; omega
        · obtain rfl : X = 22 := by omega
          have HA : Hid (M + li1 Y y * cn x 22 = x * cn y (Y + 1)) := by
            unfold Hid
            rw [L3.out, cn_step hy.1, Int.mul_add, HM.out, Int.mul_comm x]
          go_wp2
          go_roundw
          case rel => exact ⟨Y + 1, by omega, by omega, by go_num, by rw [HA.out], hg2⟩
          case measure => simp [intOf]; omega
    · obtain rfl : Y = 22 := by omega
      go_wp2
      go_ret
      exact ⟨retI L1.out, gb_trans g1 hg⟩

set_option maxHeartbeats 4000000 in
theorem home_no (k x y t z : Int) (w : World) (tp : TypeId) (p : Value) (hE : Hid (En tp p w)) (htab : Hid (Tab w)) (ht : 0 ≤ t) (h : ¬ Tp.chk k x y t z = 0) : Calls Tryd.prog 3 #[.agg #[.int .u8 k, .int .i64 x, .int .i64 y, .int .u8 t, .int .i64 z]] w fun e w' => e = .returned (.bool true) ∧ w.grownBy w' none := by
  obtain ⟨W1, hW1, sz1, g1, B1⟩ := boxn w #[.int .u8 k, .int .i64 x, .int .i64 y, .int .u8 t, .int .i64 z] 23
  have b1_1_0 := B1.cell 0 (v := .int .u8 k) rfl
  have b1_1_1 := B1.cell 1 (v := .int .i64 x) rfl
  have b1_1_2 := B1.cell 2 (v := .int .i64 y) rfl
  have b1_1_3 := B1.cell 3 (v := .int .u8 t) rfl
  have b1_1_4 := B1.cell 4 (v := .int .i64 z) rfl
  go_enter Tryd.func3, Tryd.ntmps3
  go_wp2_with (first | (go_at_call 7; (fail_if_success (guard_hyp g2)); refine (aliveC _ tp p (enK hE g1) (tabK htab g1)).mono ?_; rintro e w2 ⟨rfl, g2⟩; have G2 := gb_trans g1 g2; have B1x := B1.kept g2 (by simp); have b1_2_0 := B1x.cell 0 (v := .int .u8 k) rfl; have b1_2_1 := B1x.cell 1 (v := .int .i64 x) rfl; have b1_2_2 := B1x.cell 2 (v := .int .i64 y) rfl; have b1_2_3 := B1x.cell 3 (v := .int .u8 t) rfl; have b1_2_4 := B1x.cell 4 (v := .int .i64 z) rfl) | (go_at_call 8; (fail_if_success (guard_hyp g3)); refine (homeNo _ _ _ _ _ ht h _).mono ?_; rintro e w3 ⟨rfl, g3⟩; have G3 := gb_trans G2 g3; have B1xx := B1x.kept g3 (by simp); have g4 : w3.grownBy (w3.alloc (.cells #[.int .i64 0, .int .i64 0, .int .i64 0, .int .i64 0] 26)) none := World.grownBy_alloc _ _ _; have G4 := gb_trans G3 g4; have B1xxx := B1xx.kept g4 (by simp); have B4 : Bo (w3.alloc (.cells #[.int .i64 0, .int .i64 0, .int .i64 0, .int .i64 0] 26)) w3.heap.size 26 #[.int .i64 0, .int .i64 0, .int .i64 0, .int .i64 0] := Bo.new _ _ _; have b1_4_0 := B1xxx.cell 0 (v := .int .u8 k) rfl; have b1_4_1 := B1xxx.cell 1 (v := .int .i64 x) rfl; have b1_4_2 := B1xxx.cell 2 (v := .int .i64 y) rfl; have b1_4_3 := B1xxx.cell 3 (v := .int .u8 t) rfl; have b1_4_4 := B1xxx.cell 4 (v := .int .i64 z) rfl; have b4_4_0 := B4.cell 0 (v := .int .i64 0) rfl; have b4_4_1 := B4.cell 1 (v := .int .i64 0) rfl; have b4_4_2 := B4.cell 2 (v := .int .i64 0) rfl; have b4_4_3 := B4.cell 3 (v := .int .i64 0) rfl) | (go_at_call 9; (fail_if_success (guard_hyp g5)); refine (checkC _ _ _ _ _ ht _).mono ?_; rintro e w5 ⟨rfl, g5⟩; have G5 := gb_trans G4 g5; have B1xxxx := B1xxx.kept g5 (by simp); have B4x := B4.kept g5 (by simp); have b1_5_0 := B1xxxx.cell 0 (v := .int .u8 k) rfl; have b1_5_1 := B1xxxx.cell 1 (v := .int .i64 x) rfl; have b1_5_2 := B1xxxx.cell 2 (v := .int .i64 y) rfl; have b1_5_3 := B1xxxx.cell 3 (v := .int .u8 t) rfl; have b1_5_4 := B1xxxx.cell 4 (v := .int .i64 z) rfl; have b4_5_0 := B4x.cell 0 (v := .int .i64 0) rfl; have b4_5_1 := B4x.cell 1 (v := .int .i64 0) rfl; have b4_5_2 := B4x.cell 2 (v := .int .i64 0) rfl; have b4_5_3 := B4x.cell 3 (v := .int .i64 0) rfl))
  all_goals first | go_ret | (go_quiet (fail); go_wp2; go_ret)
  all_goals exact ⟨rfl, by first | exact G5 | exact gb_drewN G5 _⟩

set_option maxHeartbeats 4000000 in
theorem home_a (k x y t z : Int) (w : World) (tp : TypeId) (p : Value) (hE : Hid (En tp p w)) (htab : Hid (Tab w)) (ht : 0 ≤ t) (h : Hid (Tp.chk k x y t z = 0)) (hx : 0 ≤ x ∧ x ≤ 65536) (hy : 0 ≤ y ∧ y ≤ 65536) (q1 : x < 1) : Calls Tryd.prog 3 #[.agg #[.int .u8 k, .int .i64 x, .int .i64 y, .int .u8 t, .int .i64 z]] w fun e w' => e = .returned (.bool true) ∧ w.grownBy w' none := by
  have f1 : ¬ 0 < fi x := by unfold fi; omega
  have f2 : ¬ 0 < fi y := by unfold fi; omega
  have f3 : IntKind.i64.wrap (2 * fi x) = 2 * fi x := by unfold fi; rw [IntKind.wrap_i64]; omega
  have f4 : IntKind.i64.wrap (2 * fi y) = 2 * fi y := by unfold fi; rw [IntKind.wrap_i64]; omega
  have f5 : IntKind.i64.wrap (2 * fi x + x) = 2 * fi x + x := by unfold fi; rw [IntKind.wrap_i64]; omega
  have f6 : IntKind.i64.wrap (2 * fi y + y) = 2 * fi y + y := by unfold fi; rw [IntKind.wrap_i64]; omega
  have f7 : ¬ 2 * fi x + x < 0 := by unfold fi; omega
  have f8 : ¬ 2 * fi y + y < 0 := by unfold fi; omega
  have f9 : ¬ 1 < 2 * fi x + x := by unfold fi; omega
  have fa : ¬ 1 < 2 * fi y + y := by unfold fi; omega
  obtain ⟨W1, hW1, sz1, g1, B1⟩ := boxn w #[.int .u8 k, .int .i64 x, .int .i64 y, .int .u8 t, .int .i64 z] 23
  have b1_1_0 := B1.cell 0 (v := .int .u8 k) rfl
  have b1_1_1 := B1.cell 1 (v := .int .i64 x) rfl
  have b1_1_2 := B1.cell 2 (v := .int .i64 y) rfl
  have b1_1_3 := B1.cell 3 (v := .int .u8 t) rfl
  have b1_1_4 := B1.cell 4 (v := .int .i64 z) rfl
  go_enter Tryd.func3, Tryd.ntmps3
  go_wp2_with (first | (go_at_call 7; (fail_if_success (guard_hyp g2)); refine (aliveC _ tp p (enK hE g1) (tabK htab g1)).mono ?_; rintro e w2 ⟨rfl, g2⟩; have G2 := gb_trans g1 g2; have B1x := B1.kept g2 (by simp); have b1_2_0 := B1x.cell 0 (v := .int .u8 k) rfl; have b1_2_1 := B1x.cell 1 (v := .int .i64 x) rfl; have b1_2_2 := B1x.cell 2 (v := .int .i64 y) rfl; have b1_2_3 := B1x.cell 3 (v := .int .u8 t) rfl; have b1_2_4 := B1x.cell 4 (v := .int .i64 z) rfl) | (go_at_call 8; (fail_if_success (guard_hyp g3)); refine (homeYes _ _ _ _ _ ht h.out hx hy _).mono ?_; rintro e w3 ⟨rfl, g3⟩; have G3 := gb_trans G2 g3; have B1xx := B1x.kept g3 (by simp); obtain ⟨W4, hW4, sz4, g4, B4⟩ := boxn w3 #[.int .i64 (fi x), .int .i64 (fi y), .int .i64 x, .int .i64 y] 26; have G4 := gb_trans G3 g4; have B1xxx := B1xx.kept g4 (by simp); have b1_4_0 := B1xxx.cell 0 (v := .int .u8 k) rfl; have b1_4_1 := B1xxx.cell 1 (v := .int .i64 x) rfl; have b1_4_2 := B1xxx.cell 2 (v := .int .i64 y) rfl; have b1_4_3 := B1xxx.cell 3 (v := .int .u8 t) rfl; have b1_4_4 := B1xxx.cell 4 (v := .int .i64 z) rfl; have b4_4_0 := B4.cell 0 (v := .int .i64 (fi x)) rfl; have b4_4_1 := B4.cell 1 (v := .int .i64 (fi y)) rfl; have b4_4_2 := B4.cell 2 (v := .int .i64 x) rfl; have b4_4_3 := B4.cell 3 (v := .int .i64 y) rfl))
  all_goals first | go_ret | (go_quiet (fail); go_wp2; go_ret)
  all_goals exact ⟨rfl, by first | exact G4 | exact gb_drewN G4 _⟩

set_option maxHeartbeats 4000000 in
theorem home_b (k x y t z : Int) (w : World) (tp : TypeId) (p : Value) (hE : Hid (En tp p w)) (htab : Hid (Tab w)) (ht : 0 ≤ t) (h : Hid (Tp.chk k x y t z = 0)) (hx : 0 ≤ x ∧ x ≤ 65536) (hy : 0 ≤ y ∧ y ≤ 65536) (q1 : ¬ x < 1) (q2 : y < 1) : Calls Tryd.prog 3 #[.agg #[.int .u8 k, .int .i64 x, .int .i64 y, .int .u8 t, .int .i64 z]] w fun e w' => e = .returned (.bool true) ∧ w.grownBy w' none := by
  have f1 : ¬ 0 < fi x := by unfold fi; omega
  have f2 : ¬ 0 < fi y := by unfold fi; omega
  have f3 : IntKind.i64.wrap (2 * fi x) = 2 * fi x := by unfold fi; rw [IntKind.wrap_i64]; omega
  have f4 : IntKind.i64.wrap (2 * fi y) = 2 * fi y := by unfold fi; rw [IntKind.wrap_i64]; omega
  have f5 : IntKind.i64.wrap (2 * fi x + x) = 2 * fi x + x := by unfold fi; rw [IntKind.wrap_i64]; omega
  have f6 : IntKind.i64.wrap (2 * fi y + y) = 2 * fi y + y := by unfold fi; rw [IntKind.wrap_i64]; omega
  have f7 : ¬ 2 * fi x + x < 0 := by unfold fi; omega
  have f8 : ¬ 2 * fi y + y < 0 := by unfold fi; omega
  have f9 : ¬ 1 < 2 * fi x + x := by unfold fi; omega
  have fa : ¬ 1 < 2 * fi y + y := by unfold fi; omega
  obtain ⟨W1, hW1, sz1, g1, B1⟩ := boxn w #[.int .u8 k, .int .i64 x, .int .i64 y, .int .u8 t, .int .i64 z] 23
  have b1_1_0 := B1.cell 0 (v := .int .u8 k) rfl
  have b1_1_1 := B1.cell 1 (v := .int .i64 x) rfl
  have b1_1_2 := B1.cell 2 (v := .int .i64 y) rfl
  have b1_1_3 := B1.cell 3 (v := .int .u8 t) rfl
  have b1_1_4 := B1.cell 4 (v := .int .i64 z) rfl
  go_enter Tryd.func3, Tryd.ntmps3
  go_wp2_with (first | (go_at_call 7; (fail_if_success (guard_hyp g2)); refine (aliveC _ tp p (enK hE g1) (tabK htab g1)).mono ?_; rintro e w2 ⟨rfl, g2⟩; have G2 := gb_trans g1 g2; have B1x := B1.kept g2 (by simp); have b1_2_0 := B1x.cell 0 (v := .int .u8 k) rfl; have b1_2_1 := B1x.cell 1 (v := .int .i64 x) rfl; have b1_2_2 := B1x.cell 2 (v := .int .i64 y) rfl; have b1_2_3 := B1x.cell 3 (v := .int .u8 t) rfl; have b1_2_4 := B1x.cell 4 (v := .int .i64 z) rfl) | (go_at_call 8; (fail_if_success (guard_hyp g3)); refine (homeYes _ _ _ _ _ ht h.out hx hy _).mono ?_; rintro e w3 ⟨rfl, g3⟩; have G3 := gb_trans G2 g3; have B1xx := B1x.kept g3 (by simp); obtain ⟨W4, hW4, sz4, g4, B4⟩ := boxn w3 #[.int .i64 (fi x), .int .i64 (fi y), .int .i64 x, .int .i64 y] 26; have G4 := gb_trans G3 g4; have B1xxx := B1xx.kept g4 (by simp); have b1_4_0 := B1xxx.cell 0 (v := .int .u8 k) rfl; have b1_4_1 := B1xxx.cell 1 (v := .int .i64 x) rfl; have b1_4_2 := B1xxx.cell 2 (v := .int .i64 y) rfl; have b1_4_3 := B1xxx.cell 3 (v := .int .u8 t) rfl; have b1_4_4 := B1xxx.cell 4 (v := .int .i64 z) rfl; have b4_4_0 := B4.cell 0 (v := .int .i64 (fi x)) rfl; have b4_4_1 := B4.cell 1 (v := .int .i64 (fi y)) rfl; have b4_4_2 := B4.cell 2 (v := .int .i64 x) rfl; have b4_4_3 := B4.cell 3 (v := .int .i64 y) rfl))
  all_goals first | go_ret | (go_quiet (fail); go_wp2; go_ret)
  all_goals exact ⟨rfl, by first | exact G4 | exact gb_drewN G4 _⟩

set_option maxHeartbeats 4000000 in
theorem home_c (k x y t z : Int) (w : World) (tp : TypeId) (p : Value) (hE : Hid (En tp p w)) (htab : Hid (Tab w)) (ht : 0 ≤ t) (h : Hid (Tp.chk k x y t z = 0)) (hx : 0 ≤ x ∧ x ≤ 65536) (hy : 0 ≤ y ∧ y ≤ 65536) (q1 : ¬ x < 1) (q2 : ¬ y < 1) (q3 : 40 < x) : Calls Tryd.prog 3 #[.agg #[.int .u8 k, .int .i64 x, .int .i64 y, .int .u8 t, .int .i64 z]] w fun e w' => e = .returned (.bool true) ∧ w.grownBy w' none := by
  have f1 : ¬ 0 < fi x := by unfold fi; omega
  have f2 : ¬ 0 < fi y := by unfold fi; omega
  have f3 : IntKind.i64.wrap (2 * fi x) = 2 * fi x := by unfold fi; rw [IntKind.wrap_i64]; omega
  have f4 : IntKind.i64.wrap (2 * fi y) = 2 * fi y := by unfold fi; rw [IntKind.wrap_i64]; omega
  have f5 : IntKind.i64.wrap (2 * fi x + x) = 2 * fi x + x := by unfold fi; rw [IntKind.wrap_i64]; omega
  have f6 : IntKind.i64.wrap (2 * fi y + y) = 2 * fi y + y := by unfold fi; rw [IntKind.wrap_i64]; omega
  have f7 : ¬ 2 * fi x + x < 0 := by unfold fi; omega
  have f8 : ¬ 2 * fi y + y < 0 := by unfold fi; omega
  have f9 : ¬ 1 < 2 * fi x + x := by unfold fi; omega
  have fa : ¬ 1 < 2 * fi y + y := by unfold fi; omega
  obtain ⟨W1, hW1, sz1, g1, B1⟩ := boxn w #[.int .u8 k, .int .i64 x, .int .i64 y, .int .u8 t, .int .i64 z] 23
  have b1_1_0 := B1.cell 0 (v := .int .u8 k) rfl
  have b1_1_1 := B1.cell 1 (v := .int .i64 x) rfl
  have b1_1_2 := B1.cell 2 (v := .int .i64 y) rfl
  have b1_1_3 := B1.cell 3 (v := .int .u8 t) rfl
  have b1_1_4 := B1.cell 4 (v := .int .i64 z) rfl
  go_enter Tryd.func3, Tryd.ntmps3
  go_wp2_with (first | (go_at_call 7; (fail_if_success (guard_hyp g2)); refine (aliveC _ tp p (enK hE g1) (tabK htab g1)).mono ?_; rintro e w2 ⟨rfl, g2⟩; have G2 := gb_trans g1 g2; have B1x := B1.kept g2 (by simp); have b1_2_0 := B1x.cell 0 (v := .int .u8 k) rfl; have b1_2_1 := B1x.cell 1 (v := .int .i64 x) rfl; have b1_2_2 := B1x.cell 2 (v := .int .i64 y) rfl; have b1_2_3 := B1x.cell 3 (v := .int .u8 t) rfl; have b1_2_4 := B1x.cell 4 (v := .int .i64 z) rfl) | (go_at_call 8; (fail_if_success (guard_hyp g3)); refine (homeYes _ _ _ _ _ ht h.out hx hy _).mono ?_; rintro e w3 ⟨rfl, g3⟩; have G3 := gb_trans G2 g3; have B1xx := B1x.kept g3 (by simp); obtain ⟨W4, hW4, sz4, g4, B4⟩ := boxn w3 #[.int .i64 (fi x), .int .i64 (fi y), .int .i64 x, .int .i64 y] 26; have G4 := gb_trans G3 g4; have B1xxx := B1xx.kept g4 (by simp); have b1_4_0 := B1xxx.cell 0 (v := .int .u8 k) rfl; have b1_4_1 := B1xxx.cell 1 (v := .int .i64 x) rfl; have b1_4_2 := B1xxx.cell 2 (v := .int .i64 y) rfl; have b1_4_3 := B1xxx.cell 3 (v := .int .u8 t) rfl; have b1_4_4 := B1xxx.cell 4 (v := .int .i64 z) rfl; have b4_4_0 := B4.cell 0 (v := .int .i64 (fi x)) rfl; have b4_4_1 := B4.cell 1 (v := .int .i64 (fi y)) rfl; have b4_4_2 := B4.cell 2 (v := .int .i64 x) rfl; have b4_4_3 := B4.cell 3 (v := .int .i64 y) rfl))
  all_goals first | go_ret | (go_quiet (fail); go_wp2; go_ret)
  all_goals exact ⟨rfl, by first | exact G4 | exact gb_drewN G4 _⟩

set_option maxHeartbeats 4000000 in
theorem home_d (k x y t z : Int) (w : World) (tp : TypeId) (p : Value) (hE : Hid (En tp p w)) (htab : Hid (Tab w)) (ht : 0 ≤ t) (h : Hid (Tp.chk k x y t z = 0)) (hx : 0 ≤ x ∧ x ≤ 65536) (hy : 0 ≤ y ∧ y ≤ 65536) (q1 : ¬ x < 1) (q2 : ¬ y < 1) (q3 : ¬ 40 < x) (q4 : 40 < y) : Calls Tryd.prog 3 #[.agg #[.int .u8 k, .int .i64 x, .int .i64 y, .int .u8 t, .int .i64 z]] w fun e w' => e = .returned (.bool true) ∧ w.grownBy w' none := by
  have f1 : ¬ 0 < fi x := by unfold fi; omega
  have f2 : ¬ 0 < fi y := by unfold fi; omega
  have f3 : IntKind.i64.wrap (2 * fi x) = 2 * fi x := by unfold fi; rw [IntKind.wrap_i64]; omega
  have f4 : IntKind.i64.wrap (2 * fi y) = 2 * fi y := by unfold fi; rw [IntKind.wrap_i64]; omega
  have f5 : IntKind.i64.wrap (2 * fi x + x) = 2 * fi x + x := by unfold fi; rw [IntKind.wrap_i64]; omega
  have f6 : IntKind.i64.wrap (2 * fi y + y) = 2 * fi y + y := by unfold fi; rw [IntKind.wrap_i64]; omega
  have f7 : ¬ 2 * fi x + x < 0 := by unfold fi; omega
  have f8 : ¬ 2 * fi y + y < 0 := by unfold fi; omega
  have f9 : ¬ 1 < 2 * fi x + x := by unfold fi; omega
  have fa : ¬ 1 < 2 * fi y + y := by unfold fi; omega
  obtain ⟨W1, hW1, sz1, g1, B1⟩ := boxn w #[.int .u8 k, .int .i64 x, .int .i64 y, .int .u8 t, .int .i64 z] 23
  have b1_1_0 := B1.cell 0 (v := .int .u8 k) rfl
  have b1_1_1 := B1.cell 1 (v := .int .i64 x) rfl
  have b1_1_2 := B1.cell 2 (v := .int .i64 y) rfl
  have b1_1_3 := B1.cell 3 (v := .int .u8 t) rfl
  have b1_1_4 := B1.cell 4 (v := .int .i64 z) rfl
  go_enter Tryd.func3, Tryd.ntmps3
  go_wp2_with (first | (go_at_call 7; (fail_if_success (guard_hyp g2)); refine (aliveC _ tp p (enK hE g1) (tabK htab g1)).mono ?_; rintro e w2 ⟨rfl, g2⟩; have G2 := gb_trans g1 g2; have B1x := B1.kept g2 (by simp); have b1_2_0 := B1x.cell 0 (v := .int .u8 k) rfl; have b1_2_1 := B1x.cell 1 (v := .int .i64 x) rfl; have b1_2_2 := B1x.cell 2 (v := .int .i64 y) rfl; have b1_2_3 := B1x.cell 3 (v := .int .u8 t) rfl; have b1_2_4 := B1x.cell 4 (v := .int .i64 z) rfl) | (go_at_call 8; (fail_if_success (guard_hyp g3)); refine (homeYes _ _ _ _ _ ht h.out hx hy _).mono ?_; rintro e w3 ⟨rfl, g3⟩; have G3 := gb_trans G2 g3; have B1xx := B1x.kept g3 (by simp); obtain ⟨W4, hW4, sz4, g4, B4⟩ := boxn w3 #[.int .i64 (fi x), .int .i64 (fi y), .int .i64 x, .int .i64 y] 26; have G4 := gb_trans G3 g4; have B1xxx := B1xx.kept g4 (by simp); have b1_4_0 := B1xxx.cell 0 (v := .int .u8 k) rfl; have b1_4_1 := B1xxx.cell 1 (v := .int .i64 x) rfl; have b1_4_2 := B1xxx.cell 2 (v := .int .i64 y) rfl; have b1_4_3 := B1xxx.cell 3 (v := .int .u8 t) rfl; have b1_4_4 := B1xxx.cell 4 (v := .int .i64 z) rfl; have b4_4_0 := B4.cell 0 (v := .int .i64 (fi x)) rfl; have b4_4_1 := B4.cell 1 (v := .int .i64 (fi y)) rfl; have b4_4_2 := B4.cell 2 (v := .int .i64 x) rfl; have b4_4_3 := B4.cell 3 (v := .int .i64 y) rfl))
  all_goals first | go_ret | (go_quiet (fail); go_wp2; go_ret)
  all_goals exact ⟨rfl, by first | exact G4 | exact gb_drewN G4 _⟩

set_option maxHeartbeats 4000000 in
theorem home_e (k x y t z : Int) (w : World) (tp : TypeId) (p : Value) (hE : Hid (En tp p w)) (htab : Hid (Tab w)) (ht : 0 ≤ t) (h : Hid (Tp.chk k x y t z = 0)) (hx : 0 ≤ x ∧ x ≤ 65536) (hy : 0 ≤ y ∧ y ≤ 65536) (q1 : ¬ x < 1) (q2 : ¬ y < 1) (q3 : ¬ 40 < x) (q4 : ¬ 40 < y) : Calls Tryd.prog 3 #[.agg #[.int .u8 k, .int .i64 x, .int .i64 y, .int .u8 t, .int .i64 z]] w fun e w' => e = .returned (.bool true) ∧ w.grownBy w' none := by
  have f1 : ¬ 0 < fi x := by unfold fi; omega
  have f2 : ¬ 0 < fi y := by unfold fi; omega
  have f3 : IntKind.i64.wrap (2 * fi x) = 2 * fi x := by unfold fi; rw [IntKind.wrap_i64]; omega
  have f4 : IntKind.i64.wrap (2 * fi y) = 2 * fi y := by unfold fi; rw [IntKind.wrap_i64]; omega
  have f5 : IntKind.i64.wrap (2 * fi x + x) = 2 * fi x + x := by unfold fi; rw [IntKind.wrap_i64]; omega
  have f6 : IntKind.i64.wrap (2 * fi y + y) = 2 * fi y + y := by unfold fi; rw [IntKind.wrap_i64]; omega
  have f7 : ¬ 2 * fi x + x < 0 := by unfold fi; omega
  have f8 : ¬ 2 * fi y + y < 0 := by unfold fi; omega
  have f9 : ¬ 1 < 2 * fi x + x := by unfold fi; omega
  have fa : ¬ 1 < 2 * fi y + y := by unfold fi; omega
  have fb := mul_bd (a := x) (b := y) (by omega) (by omega) (by omega) (by omega)
  have fc : IntKind.i64.wrap (x * y) = x * y := by rw [IntKind.wrap_i64]; omega
  obtain ⟨W1, hW1, sz1, g1, B1⟩ := boxn w #[.int .u8 k, .int .i64 x, .int .i64 y, .int .u8 t, .int .i64 z] 23
  have b1_1_0 := B1.cell 0 (v := .int .u8 k) rfl
  have b1_1_1 := B1.cell 1 (v := .int .i64 x) rfl
  have b1_1_2 := B1.cell 2 (v := .int .i64 y) rfl
  have b1_1_3 := B1.cell 3 (v := .int .u8 t) rfl
  have b1_1_4 := B1.cell 4 (v := .int .i64 z) rfl
  go_enter Tryd.func3, Tryd.ntmps3
  go_wp2_with (first | (go_at_call 7; (fail_if_success (guard_hyp g2)); refine (aliveC _ tp p (enK hE g1) (tabK htab g1)).mono ?_; rintro e w2 ⟨rfl, g2⟩; have G2 := gb_trans g1 g2; have B1x := B1.kept g2 (by simp); have b1_2_0 := B1x.cell 0 (v := .int .u8 k) rfl; have b1_2_1 := B1x.cell 1 (v := .int .i64 x) rfl; have b1_2_2 := B1x.cell 2 (v := .int .i64 y) rfl; have b1_2_3 := B1x.cell 3 (v := .int .u8 t) rfl; have b1_2_4 := B1x.cell 4 (v := .int .i64 z) rfl) | (go_at_call 8; (fail_if_success (guard_hyp g3)); refine (homeYes _ _ _ _ _ ht h.out hx hy _).mono ?_; rintro e w3 ⟨rfl, g3⟩; have G3 := gb_trans G2 g3; have B1xx := B1x.kept g3 (by simp); obtain ⟨W4, hW4, sz4, g4, B4⟩ := boxn w3 #[.int .i64 (fi x), .int .i64 (fi y), .int .i64 x, .int .i64 y] 26; have G4 := gb_trans G3 g4; have B1xxx := B1xx.kept g4 (by simp); have b1_4_0 := B1xxx.cell 0 (v := .int .u8 k) rfl; have b1_4_1 := B1xxx.cell 1 (v := .int .i64 x) rfl; have b1_4_2 := B1xxx.cell 2 (v := .int .i64 y) rfl; have b1_4_3 := B1xxx.cell 3 (v := .int .u8 t) rfl; have b1_4_4 := B1xxx.cell 4 (v := .int .i64 z) rfl; have b4_4_0 := B4.cell 0 (v := .int .i64 (fi x)) rfl; have b4_4_1 := B4.cell 1 (v := .int .i64 (fi y)) rfl; have b4_4_2 := B4.cell 2 (v := .int .i64 x) rfl; have b4_4_3 := B4.cell 3 (v := .int .i64 y) rfl))
  go_region_held2 (fun w' => w'.cell? ⟨w.heap.size, 0, none⟩ = some (.int .u8 k) ∧ w'.cell? ⟨w.heap.size, 1, none⟩ = some (.int .i64 x) ∧ w'.cell? ⟨w.heap.size, 2, none⟩ = some (.int .i64 y) ∧ w'.cell? ⟨w.heap.size, 3, none⟩ = some (.int .u8 t) ∧ w'.cell? ⟨w.heap.size, 4, none⟩ = some (.int .i64 z)) (go_keep) (first | (go_at_call 10; refine (countC k x y t z ht h ⟨by omega, by omega⟩ ⟨by omega, by omega⟩ _).mono ?_; rintro e w9 ⟨rfl, g9⟩; have BK := B1xxx.dr.kept g9 (by simp); have u0 := BK.cell 0 (v := .int .u8 k) rfl; have u1 := BK.cell 1 (v := .int .i64 x) rfl; have u2 := BK.cell 2 (v := .int .i64 y) rfl; have u3 := BK.cell 3 (v := .int .u8 t) rfl; have u4 := BK.cell 4 (v := .int .i64 z) rfl))
  all_goals go_wp2
  all_goals go_ret
  all_goals exact ⟨rfl, by first | exact gb_trans (gb_drew G4) g9 | exact gb_drewN (gb_trans (gb_drew G4) g9) _⟩

theorem home_walk (k x y t z : Int) (w : World) (hk : 0 ≤ k ∧ k ≤ 255) (hx : -9223372036854775808 ≤ x ∧ x ≤ 9223372036854775807) (hy : -9223372036854775808 ≤ y ∧ y ≤ 9223372036854775807) (htt : 0 ≤ t ∧ t ≤ 255) (hz : -9223372036854775808 ≤ z ∧ z ≤ 9223372036854775807) (tp : TypeId) (p : Value) (hE : En tp p w) (htab : Tab w) : Calls Tryd.prog 3 #[.agg #[.int .u8 k, .int .i64 x, .int .i64 y, .int .u8 t, .int .i64 z]] w fun e w' => e = .returned (.bool true) ∧ Below w.heap.size w w' := by
  have key : Calls Tryd.prog 3 #[.agg #[.int .u8 k, .int .i64 x, .int .i64 y, .int .u8 t, .int .i64 z]] w fun e w' => e = .returned (.bool true) ∧ w.grownBy w' none := by
    by_cases h : Tp.chk k x y t z = 0
    · have o := Tp.ok_of h
      by_cases q1 : x < 1
      · exact home_a k x y t z w tp p hE htab htt.1 h o.wide o.high q1
      by_cases q2 : y < 1
      · exact home_b k x y t z w tp p hE htab htt.1 h o.wide o.high q1 q2
      by_cases q3 : 40 < x
      · exact home_c k x y t z w tp p hE htab htt.1 h o.wide o.high q1 q2 q3
      by_cases q4 : 40 < y
      · exact home_d k x y t z w tp p hE htab htt.1 h o.wide o.high q1 q2 q3 q4
      · exact home_e k x y t z w tp p hE htab htt.1 h o.wide o.high q1 q2 q3 q4
    · exact home_no k x y t z w tp p hE htab htt.1 h
  exact key.mono fun e w' ⟨h1, h2⟩ => ⟨h1, gb_below h2⟩
end Go.Proofs.YteegbhnfkcbnoabDoor
