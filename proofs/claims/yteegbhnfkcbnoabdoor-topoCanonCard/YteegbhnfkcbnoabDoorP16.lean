/- The statement TopoCanon answers true (its walk). -/
import Derived.Test.YteegbhnfkcbnoabDoorP15
namespace Go.Proofs.YteegbhnfkcbnoabDoor
open Go.RowKit
set_option linter.unusedVariables false
set_option linter.unusedSimpArgs false
set_option maxRecDepth 100000

theorem bo5x {w : World} {g : Nat} {t : TypeId} {a0 a1 a2 a3 a4 v : Value} (h : Bo w g t #[a0, a1, a2, a3, a4]) : Bo (w.setCell ⟨g, 4, none⟩ v) g t #[a0, a1, a2, a3, v] := by
  have h9 := h.set 4 v
  simpa using h9

set_option maxHeartbeats 4000000 in
theorem canon_no (k x y t z : Int) (w : World) (tp : TypeId) (p : Value) (hE : Hid (En tp p w)) (htab : Hid (Tab w)) (ht : 0 ≤ t) (h : ¬ Tp.chk k x y t z = 0) : Calls Tryd.prog 5 #[.agg #[.int .u8 k, .int .i64 x, .int .i64 y, .int .u8 t, .int .i64 z]] w fun e w' => e = .returned (.bool true) ∧ w.grownBy w' none := by
  obtain ⟨W1, hW1, sz1, g1, B1⟩ := boxn w #[.int .u8 k, .int .i64 x, .int .i64 y, .int .u8 t, .int .i64 z] 23
  have b1_1_0 := B1.cell 0 (v := .int .u8 k) rfl
  have b1_1_1 := B1.cell 1 (v := .int .i64 x) rfl
  have b1_1_2 := B1.cell 2 (v := .int .i64 y) rfl
  have b1_1_3 := B1.cell 3 (v := .int .u8 t) rfl
  have b1_1_4 := B1.cell 4 (v := .int .i64 z) rfl
  go_enter Tryd.func5, Tryd.ntmps5
  go_wp2_with (first | (go_at_call 7; (fail_if_success (guard_hyp g2)); refine (aliveC _ tp p (enK hE g1) (tabK htab g1)).mono ?_; rintro e w2 ⟨rfl, g2⟩; have G2 := gb_trans g1 g2; have B1x := B1.kept g2 (by simp); have b1_2_0 := B1x.cell 0 (v := .int .u8 k) rfl; have b1_2_1 := B1x.cell 1 (v := .int .i64 x) rfl; have b1_2_2 := B1x.cell 2 (v := .int .i64 y) rfl; have b1_2_3 := B1x.cell 3 (v := .int .u8 t) rfl; have b1_2_4 := B1x.cell 4 (v := .int .i64 z) rfl) | (go_at_call 14; (fail_if_success (guard_hyp g3)); refine (canonNo _ _ _ _ _ ht h _).mono ?_; rintro e w3 ⟨rfl, g3⟩; have G3 := gb_trans G2 g3; have B1xx := B1x.kept g3 (by simp); have g4 : w3.grownBy (w3.alloc (.cells #[.int .u8 0, .int .i64 0, .int .i64 0, .int .u8 0, .int .i64 0] 23)) none := World.grownBy_alloc _ _ _; have G4 := gb_trans G3 g4; have B1xxx := B1xx.kept g4 (by simp); have B4 : Bo (w3.alloc (.cells #[.int .u8 0, .int .i64 0, .int .i64 0, .int .u8 0, .int .i64 0] 23)) w3.heap.size 23 #[.int .u8 0, .int .i64 0, .int .i64 0, .int .u8 0, .int .i64 0] := Bo.new _ _ _; have b1_4_0 := B1xxx.cell 0 (v := .int .u8 k) rfl; have b1_4_1 := B1xxx.cell 1 (v := .int .i64 x) rfl; have b1_4_2 := B1xxx.cell 2 (v := .int .i64 y) rfl; have b1_4_3 := B1xxx.cell 3 (v := .int .u8 t) rfl; have b1_4_4 := B1xxx.cell 4 (v := .int .i64 z) rfl; have b4_4_0 := B4.cell 0 (v := .int .u8 0) rfl; have b4_4_1 := B4.cell 1 (v := .int .i64 0) rfl; have b4_4_2 := B4.cell 2 (v := .int .i64 0) rfl; have b4_4_3 := B4.cell 3 (v := .int .u8 0) rfl; have b4_4_4 := B4.cell 4 (v := .int .i64 0) rfl) | (go_at_call 9; (fail_if_success (guard_hyp g5)); refine (checkC _ _ _ _ _ ht _).mono ?_; rintro e w5 ⟨rfl, g5⟩; have G5 := gb_trans G4 g5; have B1xxxx := B1xxx.kept g5 (by simp); have B4x := B4.kept g5 (by simp); have b1_5_0 := B1xxxx.cell 0 (v := .int .u8 k) rfl; have b1_5_1 := B1xxxx.cell 1 (v := .int .i64 x) rfl; have b1_5_2 := B1xxxx.cell 2 (v := .int .i64 y) rfl; have b1_5_3 := B1xxxx.cell 3 (v := .int .u8 t) rfl; have b1_5_4 := B1xxxx.cell 4 (v := .int .i64 z) rfl; have b4_5_0 := B4x.cell 0 (v := .int .u8 0) rfl; have b4_5_1 := B4x.cell 1 (v := .int .i64 0) rfl; have b4_5_2 := B4x.cell 2 (v := .int .i64 0) rfl; have b4_5_3 := B4x.cell 3 (v := .int .u8 0) rfl; have b4_5_4 := B4x.cell 4 (v := .int .i64 0) rfl))
  all_goals first | go_ret | (go_quiet (fail); go_wp2; go_ret)
  all_goals exact ⟨rfl, by first | exact G5 | exact gb_drewN G5 _⟩

set_option maxHeartbeats 4000000 in
theorem canon_0 (k x y z : Int) (w : World) (tp : TypeId) (p : Value) (hE : Hid (En tp p w)) (htab : Hid (Tab w)) (h : Hid (Tp.chk k x y 0 z = 0)) (hz : ¬ z < 0) : Calls Tryd.prog 5 #[.agg #[.int .u8 k, .int .i64 x, .int .i64 y, .int .u8 0, .int .i64 z]] w fun e w' => e = .returned (.bool true) ∧ w.grownBy w' none := by
  obtain ⟨W1, hW1, sz1, g1, B1⟩ := boxn w #[.int .u8 k, .int .i64 x, .int .i64 y, .int .u8 0, .int .i64 z] 23
  have b1_1_0 := B1.cell 0 (v := .int .u8 k) rfl
  have b1_1_1 := B1.cell 1 (v := .int .i64 x) rfl
  have b1_1_2 := B1.cell 2 (v := .int .i64 y) rfl
  have b1_1_3 := B1.cell 3 (v := .int .u8 0) rfl
  have b1_1_4 := B1.cell 4 (v := .int .i64 z) rfl
  go_enter Tryd.func5, Tryd.ntmps5
  go_wp2_with (first | (go_at_call 7; (fail_if_success (guard_hyp g2)); refine (aliveC _ tp p (enK hE g1) (tabK htab g1)).mono ?_; rintro e w2 ⟨rfl, g2⟩; have G2 := gb_trans g1 g2; have B1x := B1.kept g2 (by simp); have b1_2_0 := B1x.cell 0 (v := .int .u8 k) rfl; have b1_2_1 := B1x.cell 1 (v := .int .i64 x) rfl; have b1_2_2 := B1x.cell 2 (v := .int .i64 y) rfl; have b1_2_3 := B1x.cell 3 (v := .int .u8 0) rfl; have b1_2_4 := B1x.cell 4 (v := .int .i64 z) rfl) | (go_at_call 14; (fail_if_success (guard_hyp g3)); refine (canon0 _ _ _ _ (by decide) h.out _).mono ?_; rintro e w3 ⟨rfl, g3⟩; have G3 := gb_trans G2 g3; have B1xx := B1x.kept g3 (by simp); obtain ⟨W4, hW4, sz4, g4, B4⟩ := boxn w3 #[.int .u8 k, .int .i64 x, .int .i64 y, .int .u8 0, .int .i64 z] 23; have G4 := gb_trans G3 g4; have B1xxx := B1xx.kept g4 (by simp); have b1_4_0 := B1xxx.cell 0 (v := .int .u8 k) rfl; have b1_4_1 := B1xxx.cell 1 (v := .int .i64 x) rfl; have b1_4_2 := B1xxx.cell 2 (v := .int .i64 y) rfl; have b1_4_3 := B1xxx.cell 3 (v := .int .u8 0) rfl; have b1_4_4 := B1xxx.cell 4 (v := .int .i64 z) rfl; have b4_4_0 := B4.cell 0 (v := .int .u8 k) rfl; have b4_4_1 := B4.cell 1 (v := .int .i64 x) rfl; have b4_4_2 := B4.cell 2 (v := .int .i64 y) rfl; have b4_4_3 := B4.cell 3 (v := .int .u8 0) rfl; have b4_4_4 := B4.cell 4 (v := .int .i64 z) rfl) | (go_at_call 14; (fail_if_success (guard_hyp g5)); refine (canon0 _ _ _ _ (by decide) h.out _).mono ?_; rintro e w5 ⟨rfl, g5⟩; have G5 := gb_trans G4 g5; have B1xxxx := B1xxx.kept g5 (by simp); have B4x := B4.kept g5 (by simp); obtain ⟨W6, hW6, sz6, g6, B6⟩ := boxn w5 #[.int .u8 k, .int .i64 x, .int .i64 y, .int .u8 0, .int .i64 z] 23; have G6 := gb_trans G5 g6; have B1xxxxx := B1xxxx.kept g6 (by simp); have B4xx := B4x.kept g6 (by simp); have b1_6_0 := B1xxxxx.cell 0 (v := .int .u8 k) rfl; have b1_6_1 := B1xxxxx.cell 1 (v := .int .i64 x) rfl; have b1_6_2 := B1xxxxx.cell 2 (v := .int .i64 y) rfl; have b1_6_3 := B1xxxxx.cell 3 (v := .int .u8 0) rfl; have b1_6_4 := B1xxxxx.cell 4 (v := .int .i64 z) rfl; have b4_6_0 := B4xx.cell 0 (v := .int .u8 k) rfl; have b4_6_1 := B4xx.cell 1 (v := .int .i64 x) rfl; have b4_6_2 := B4xx.cell 2 (v := .int .i64 y) rfl; have b4_6_3 := B4xx.cell 3 (v := .int .u8 0) rfl; have b4_6_4 := B4xx.cell 4 (v := .int .i64 z) rfl; have b6_6_0 := B6.cell 0 (v := .int .u8 k) rfl; have b6_6_1 := B6.cell 1 (v := .int .i64 x) rfl; have b6_6_2 := B6.cell 2 (v := .int .i64 y) rfl; have b6_6_3 := B6.cell 3 (v := .int .u8 0) rfl; have b6_6_4 := B6.cell 4 (v := .int .i64 z) rfl; have fz0 := B4xx.frozen 0; have fz1 := B4xx.frozen 1; have fz2 := B4xx.frozen 2; have fz3 := B4xx.frozen 3; have fz4 := B4xx.frozen 4; have sm4 := B4xx.same 4 (v := .int .i64 z) rfl))
  all_goals first | go_ret | (go_quiet (fail); go_wp2; go_ret)
  all_goals exact ⟨rfl, by first | exact G6 | exact gb_drewN G6 _⟩

theorem canon1C (k x y z : Int) (h : Tp.chk k x y 1 z = 0) {cz : Int} (hcz : Hid (cz = z % x)) (w : World) : Calls Tryd.prog 14 #[.agg #[.int .u8 k, .int .i64 x, .int .i64 y, .int .u8 1, .int .i64 z]] w fun e w' => e = .returned (.tuple #[.agg #[.int .u8 k, .int .i64 x, .int .i64 y, .int .u8 1, .int .i64 cz], .int .i64 0]) ∧ w.grownBy w' none := by
  have hc := canonC k x y 1 z (by decide) w
  unfold canonV canZ at hc
  rw [if_pos h, if_neg (by decide), h] at hc
  rw [hcz.out]
  exact hc
theorem canon1I (k x y cz : Int) (h : Tp.chk k x y 1 cz = 0) (hb : 0 ≤ cz ∧ cz < x) (w : World) : Calls Tryd.prog 14 #[.agg #[.int .u8 k, .int .i64 x, .int .i64 y, .int .u8 1, .int .i64 cz]] w fun e w' => e = .returned (.tuple #[.agg #[.int .u8 k, .int .i64 x, .int .i64 y, .int .u8 1, .int .i64 cz], .int .i64 0]) ∧ w.grownBy w' none := by
  have hc := canonC k x y 1 cz (by decide) w
  unfold canonV canZ at hc
  rw [if_pos h, if_neg (by decide), h, show Tp.sd x y 1 = x from rfl, Int.emod_eq_of_lt hb.1 hb.2] at hc
  exact hc

set_option maxHeartbeats 4000000 in
theorem canon_1 (k x y z cz : Int) (w : World) (tp : TypeId) (p : Value) (hE : Hid (En tp p w)) (htab : Hid (Tab w)) (h : Hid (Tp.chk k x y 1 z = 0)) (h2 : Hid (Tp.chk k x y 1 cz = 0)) (hcz : Hid (cz = z % x)) (hb : 0 ≤ cz ∧ cz < x) (hx : x ≤ 65536) (hzb : -65536 ≤ z ∧ z ≤ 65536) : Calls Tryd.prog 5 #[.agg #[.int .u8 k, .int .i64 x, .int .i64 y, .int .u8 1, .int .i64 z]] w fun e w' => e = .returned (.bool true) ∧ w.grownBy w' none := by
  have hw1 : IntKind.i64.wrap (cz - z) = cz - z := by rw [IntKind.wrap_i64]; omega
  have hm1 : (cz - z).tmod x = 0 := by
    rw [hcz.out]
    exact Int.tmod_eq_zero_of_dvd ⟨-(z / x), by have := Int.mul_ediv_add_emod z x; rw [Int.mul_neg]; omega⟩
  have hn0 : ¬ x = 0 := by omega
  have hn1 : ¬ cz < 0 := by omega
  have hn2 : ¬ x ≤ cz := by omega
  obtain ⟨W1, hW1, sz1, g1, B1⟩ := boxn w #[.int .u8 k, .int .i64 x, .int .i64 y, .int .u8 1, .int .i64 z] 23
  have b1_1_0 := B1.cell 0 (v := .int .u8 k) rfl
  have b1_1_1 := B1.cell 1 (v := .int .i64 x) rfl
  have b1_1_2 := B1.cell 2 (v := .int .i64 y) rfl
  have b1_1_3 := B1.cell 3 (v := .int .u8 1) rfl
  have b1_1_4 := B1.cell 4 (v := .int .i64 z) rfl
  go_enter Tryd.func5, Tryd.ntmps5
  go_wp2_with (first | (go_at_call 7; (fail_if_success (guard_hyp g2)); refine (aliveC _ tp p (enK hE g1) (tabK htab g1)).mono ?_; rintro e w2 ⟨rfl, g2⟩; have G2 := gb_trans g1 g2; have B1x := B1.kept g2 (by simp); have b1_2_0 := B1x.cell 0 (v := .int .u8 k) rfl; have b1_2_1 := B1x.cell 1 (v := .int .i64 x) rfl; have b1_2_2 := B1x.cell 2 (v := .int .i64 y) rfl; have b1_2_3 := B1x.cell 3 (v := .int .u8 1) rfl; have b1_2_4 := B1x.cell 4 (v := .int .i64 z) rfl) | (go_at_call 14; (fail_if_success (guard_hyp g3)); refine (canon1C _ _ _ _ h.out hcz _).mono ?_; rintro e w3 ⟨rfl, g3⟩; have G3 := gb_trans G2 g3; have B1xx := B1x.kept g3 (by simp); obtain ⟨W4, hW4, sz4, g4, B4⟩ := boxn w3 #[.int .u8 k, .int .i64 x, .int .i64 y, .int .u8 1, .int .i64 cz] 23; have G4 := gb_trans G3 g4; have B1xxx := B1xx.kept g4 (by simp); have b1_4_0 := B1xxx.cell 0 (v := .int .u8 k) rfl; have b1_4_1 := B1xxx.cell 1 (v := .int .i64 x) rfl; have b1_4_2 := B1xxx.cell 2 (v := .int .i64 y) rfl; have b1_4_3 := B1xxx.cell 3 (v := .int .u8 1) rfl; have b1_4_4 := B1xxx.cell 4 (v := .int .i64 z) rfl; have b4_4_0 := B4.cell 0 (v := .int .u8 k) rfl; have b4_4_1 := B4.cell 1 (v := .int .i64 x) rfl; have b4_4_2 := B4.cell 2 (v := .int .i64 y) rfl; have b4_4_3 := B4.cell 3 (v := .int .u8 1) rfl; have b4_4_4 := B4.cell 4 (v := .int .i64 cz) rfl) | (go_at_call 14; (fail_if_success (guard_hyp g5)); refine (canon1I _ _ _ _ h2.out hb _).mono ?_; rintro e w5 ⟨rfl, g5⟩; have G5 := gb_trans G4 g5; have B1xxxx := B1xxx.kept g5 (by simp); have B4x := B4.kept g5 (by simp); obtain ⟨W6, hW6, sz6, g6, B6⟩ := boxn w5 #[.int .u8 k, .int .i64 x, .int .i64 y, .int .u8 1, .int .i64 cz] 23; have G6 := gb_trans G5 g6; have B1xxxxx := B1xxxx.kept g6 (by simp); have B4xx := B4x.kept g6 (by simp); have b1_6_0 := B1xxxxx.cell 0 (v := .int .u8 k) rfl; have b1_6_1 := B1xxxxx.cell 1 (v := .int .i64 x) rfl; have b1_6_2 := B1xxxxx.cell 2 (v := .int .i64 y) rfl; have b1_6_3 := B1xxxxx.cell 3 (v := .int .u8 1) rfl; have b1_6_4 := B1xxxxx.cell 4 (v := .int .i64 z) rfl; have b4_6_0 := B4xx.cell 0 (v := .int .u8 k) rfl; have b4_6_1 := B4xx.cell 1 (v := .int .i64 x) rfl; have b4_6_2 := B4xx.cell 2 (v := .int .i64 y) rfl; have b4_6_3 := B4xx.cell 3 (v := .int .u8 1) rfl; have b4_6_4 := B4xx.cell 4 (v := .int .i64 cz) rfl; have b6_6_0 := B6.cell 0 (v := .int .u8 k) rfl; have b6_6_1 := B6.cell 1 (v := .int .i64 x) rfl; have b6_6_2 := B6.cell 2 (v := .int .i64 y) rfl; have b6_6_3 := B6.cell 3 (v := .int .u8 1) rfl; have b6_6_4 := B6.cell 4 (v := .int .i64 cz) rfl; have fz0 := B4xx.frozen 0; have fz1 := B4xx.frozen 1; have fz2 := B4xx.frozen 2; have fz3 := B4xx.frozen 3; have fz4 := B4xx.frozen 4; obtain ⟨W99, hW99⟩ : ∃ W99, W6.setCell ⟨w3.heap.size, 4, none⟩ (.int .i64 z) = W99 := ⟨_, rfl⟩; have BC9 : Bo W99 w3.heap.size 23 #[.int .u8 k, .int .i64 x, .int .i64 y, .int .u8 1, .int .i64 z] := (by rw [← hW99]; exact bo5x B4xx); have BT9 : Bo W99 w.heap.size 23 #[.int .u8 k, .int .i64 x, .int .i64 y, .int .u8 1, .int .i64 z] := (by rw [← hW99]; exact B1xxxxx.set2 (by have := B1xx.lt; omega)); have G99 : w.grownBy W99 none := (by rw [← hW99]; exact gb_new G6 (Nat.le_of_lt B1xx.lt) _); have yc0 := BC9.cell 0 (v := .int .u8 k) rfl; have yc1 := BC9.cell 1 (v := .int .i64 x) rfl; have yc2 := BC9.cell 2 (v := .int .i64 y) rfl; have yc3 := BC9.cell 3 (v := .int .u8 1) rfl; have yc4 := BC9.cell 4 (v := .int .i64 z) rfl; have yt0 := BT9.cell 0 (v := .int .u8 k) rfl; have yt1 := BT9.cell 1 (v := .int .i64 x) rfl; have yt2 := BT9.cell 2 (v := .int .i64 y) rfl; have yt3 := BT9.cell 3 (v := .int .u8 1) rfl; have yt4 := BT9.cell 4 (v := .int .i64 z) rfl))
  all_goals first | go_ret | (go_quiet (fail); go_wp2; go_ret)
  all_goals exact ⟨rfl, by first | exact G99 | exact gb_drewN G99 _⟩

theorem canon2C (k x y z : Int) (h : Tp.chk k x y 2 z = 0) {cz : Int} (hcz : Hid (cz = z % y)) (w : World) : Calls Tryd.prog 14 #[.agg #[.int .u8 k, .int .i64 x, .int .i64 y, .int .u8 2, .int .i64 z]] w fun e w' => e = .returned (.tuple #[.agg #[.int .u8 k, .int .i64 x, .int .i64 y, .int .u8 2, .int .i64 cz], .int .i64 0]) ∧ w.grownBy w' none := by
  have hc := canonC k x y 2 z (by decide) w
  unfold canonV canZ at hc
  rw [if_pos h, if_neg (by decide), h] at hc
  rw [hcz.out]
  exact hc
theorem canon2I (k x y cz : Int) (h : Tp.chk k x y 2 cz = 0) (hb : 0 ≤ cz ∧ cz < y) (w : World) : Calls Tryd.prog 14 #[.agg #[.int .u8 k, .int .i64 x, .int .i64 y, .int .u8 2, .int .i64 cz]] w fun e w' => e = .returned (.tuple #[.agg #[.int .u8 k, .int .i64 x, .int .i64 y, .int .u8 2, .int .i64 cz], .int .i64 0]) ∧ w.grownBy w' none := by
  have hc := canonC k x y 2 cz (by decide) w
  unfold canonV canZ at hc
  rw [if_pos h, if_neg (by decide), h, show Tp.sd x y 2 = y from rfl, Int.emod_eq_of_lt hb.1 hb.2] at hc
  exact hc

set_option maxHeartbeats 4000000 in
theorem canon_2 (k x y z cz : Int) (w : World) (tp : TypeId) (p : Value) (hE : Hid (En tp p w)) (htab : Hid (Tab w)) (h : Hid (Tp.chk k x y 2 z = 0)) (h2 : Hid (Tp.chk k x y 2 cz = 0)) (hcz : Hid (cz = z % y)) (hb : 0 ≤ cz ∧ cz < y) (hx : y ≤ 65536) (hzb : -65536 ≤ z ∧ z ≤ 65536) : Calls Tryd.prog 5 #[.agg #[.int .u8 k, .int .i64 x, .int .i64 y, .int .u8 2, .int .i64 z]] w fun e w' => e = .returned (.bool true) ∧ w.grownBy w' none := by
  have hw1 : IntKind.i64.wrap (cz - z) = cz - z := by rw [IntKind.wrap_i64]; omega
  have hm1 : (cz - z).tmod y = 0 := by
    rw [hcz.out]
    exact Int.tmod_eq_zero_of_dvd ⟨-(z / y), by have := Int.mul_ediv_add_emod z y; rw [Int.mul_neg]; omega⟩
  have hn0 : ¬ y = 0 := by omega
  have hn1 : ¬ cz < 0 := by omega
  have hn2 : ¬ y ≤ cz := by omega
  obtain ⟨W1, hW1, sz1, g1, B1⟩ := boxn w #[.int .u8 k, .int .i64 x, .int .i64 y, .int .u8 2, .int .i64 z] 23
  have b1_1_0 := B1.cell 0 (v := .int .u8 k) rfl
  have b1_1_1 := B1.cell 1 (v := .int .i64 x) rfl
  have b1_1_2 := B1.cell 2 (v := .int .i64 y) rfl
  have b1_1_3 := B1.cell 3 (v := .int .u8 2) rfl
  have b1_1_4 := B1.cell 4 (v := .int .i64 z) rfl
  go_enter Tryd.func5, Tryd.ntmps5
  go_wp2_with (first | (go_at_call 7; (fail_if_success (guard_hyp g2)); refine (aliveC _ tp p (enK hE g1) (tabK htab g1)).mono ?_; rintro e w2 ⟨rfl, g2⟩; have G2 := gb_trans g1 g2; have B1x := B1.kept g2 (by simp); have b1_2_0 := B1x.cell 0 (v := .int .u8 k) rfl; have b1_2_1 := B1x.cell 1 (v := .int .i64 x) rfl; have b1_2_2 := B1x.cell 2 (v := .int .i64 y) rfl; have b1_2_3 := B1x.cell 3 (v := .int .u8 2) rfl; have b1_2_4 := B1x.cell 4 (v := .int .i64 z) rfl) | (go_at_call 14; (fail_if_success (guard_hyp g3)); refine (canon2C _ _ _ _ h.out hcz _).mono ?_; rintro e w3 ⟨rfl, g3⟩; have G3 := gb_trans G2 g3; have B1xx := B1x.kept g3 (by simp); obtain ⟨W4, hW4, sz4, g4, B4⟩ := boxn w3 #[.int .u8 k, .int .i64 x, .int .i64 y, .int .u8 2, .int .i64 cz] 23; have G4 := gb_trans G3 g4; have B1xxx := B1xx.kept g4 (by simp); have b1_4_0 := B1xxx.cell 0 (v := .int .u8 k) rfl; have b1_4_1 := B1xxx.cell 1 (v := .int .i64 x) rfl; have b1_4_2 := B1xxx.cell 2 (v := .int .i64 y) rfl; have b1_4_3 := B1xxx.cell 3 (v := .int .u8 2) rfl; have b1_4_4 := B1xxx.cell 4 (v := .int .i64 z) rfl; have b4_4_0 := B4.cell 0 (v := .int .u8 k) rfl; have b4_4_1 := B4.cell 1 (v := .int .i64 x) rfl; have b4_4_2 := B4.cell 2 (v := .int .i64 y) rfl; have b4_4_3 := B4.cell 3 (v := .int .u8 2) rfl; have b4_4_4 := B4.cell 4 (v := .int .i64 cz) rfl) | (go_at_call 14; (fail_if_success (guard_hyp g5)); refine (canon2I _ _ _ _ h2.out hb _).mono ?_; rintro e w5 ⟨rfl, g5⟩; have G5 := gb_trans G4 g5; have B1xxxx := B1xxx.kept g5 (by simp); have B4x := B4.kept g5 (by simp); obtain ⟨W6, hW6, sz6, g6, B6⟩ := boxn w5 #[.int .u8 k, .int .i64 x, .int .i64 y, .int .u8 2, .int .i64 cz] 23; have G6 := gb_trans G5 g6; have B1xxxxx := B1xxxx.kept g6 (by simp); have B4xx := B4x.kept g6 (by simp); have b1_6_0 := B1xxxxx.cell 0 (v := .int .u8 k) rfl; have b1_6_1 := B1xxxxx.cell 1 (v := .int .i64 x) rfl; have b1_6_2 := B1xxxxx.cell 2 (v := .int .i64 y) rfl; have b1_6_3 := B1xxxxx.cell 3 (v := .int .u8 2) rfl; have b1_6_4 := B1xxxxx.cell 4 (v := .int .i64 z) rfl; have b4_6_0 := B4xx.cell 0 (v := .int .u8 k) rfl; have b4_6_1 := B4xx.cell 1 (v := .int .i64 x) rfl; have b4_6_2 := B4xx.cell 2 (v := .int .i64 y) rfl; have b4_6_3 := B4xx.cell 3 (v := .int .u8 2) rfl; have b4_6_4 := B4xx.cell 4 (v := .int .i64 cz) rfl; have b6_6_0 := B6.cell 0 (v := .int .u8 k) rfl; have b6_6_1 := B6.cell 1 (v := .int .i64 x) rfl; have b6_6_2 := B6.cell 2 (v := .int .i64 y) rfl; have b6_6_3 := B6.cell 3 (v := .int .u8 2) rfl; have b6_6_4 := B6.cell 4 (v := .int .i64 cz) rfl; have fz0 := B4xx.frozen 0; have fz1 := B4xx.frozen 1; have fz2 := B4xx.frozen 2; have fz3 := B4xx.frozen 3; have fz4 := B4xx.frozen 4; obtain ⟨W99, hW99⟩ : ∃ W99, W6.setCell ⟨w3.heap.size, 4, none⟩ (.int .i64 z) = W99 := ⟨_, rfl⟩; have BC9 : Bo W99 w3.heap.size 23 #[.int .u8 k, .int .i64 x, .int .i64 y, .int .u8 2, .int .i64 z] := (by rw [← hW99]; exact bo5x B4xx); have BT9 : Bo W99 w.heap.size 23 #[.int .u8 k, .int .i64 x, .int .i64 y, .int .u8 2, .int .i64 z] := (by rw [← hW99]; exact B1xxxxx.set2 (by have := B1xx.lt; omega)); have G99 : w.grownBy W99 none := (by rw [← hW99]; exact gb_new G6 (Nat.le_of_lt B1xx.lt) _); have yc0 := BC9.cell 0 (v := .int .u8 k) rfl; have yc1 := BC9.cell 1 (v := .int .i64 x) rfl; have yc2 := BC9.cell 2 (v := .int .i64 y) rfl; have yc3 := BC9.cell 3 (v := .int .u8 2) rfl; have yc4 := BC9.cell 4 (v := .int .i64 z) rfl; have yt0 := BT9.cell 0 (v := .int .u8 k) rfl; have yt1 := BT9.cell 1 (v := .int .i64 x) rfl; have yt2 := BT9.cell 2 (v := .int .i64 y) rfl; have yt3 := BT9.cell 3 (v := .int .u8 2) rfl; have yt4 := BT9.cell 4 (v := .int .i64 z) rfl))
  all_goals first | go_ret | (go_quiet (fail); go_wp2; go_ret)
  all_goals exact ⟨rfl, by first | exact G99 | exact gb_drewN G99 _⟩

theorem mod_ok {k x y t z : Int} (h : Tp.chk k x y t z = 0) (ht : ¬ t = 0) (htn : 0 ≤ t) : Tp.chk k x y t (z % Tp.sd x y t) = 0 ∧ 0 ≤ z % Tp.sd x y t ∧ z % Tp.sd x y t < Tp.sd x y t ∧ Tp.sd x y t ≤ 65536 ∧ -65536 ≤ z ∧ z ≤ 65536 := by
  have o := Tp.ok_of h
  obtain ⟨h1, h2⟩ := sd_bd o ht
  have b1 := o.near ht
  have e1 := Int.emod_nonneg z (show Tp.sd x y t ≠ 0 by omega)
  have e2 := Int.emod_lt_of_pos z (show 0 < Tp.sd x y t by omega)
  have hne : z ≠ 0 → z % Tp.sd x y t ≠ 0 := by
    intro hz he
    obtain ⟨q, hq⟩ := Int.dvd_of_emod_eq_zero he
    have : q = 0 := by
      by_cases hq0 : q = 0
      · exact hq0
      · exfalso
        by_cases hp : 1 ≤ q
        · have := Int.mul_le_mul_of_nonneg_left hp (show 0 ≤ Tp.sd x y t by omega)
          omega
        · have := Int.mul_le_mul_of_nonneg_left (show q ≤ -1 by omega) (show 0 ≤ Tp.sd x y t by omega)
          omega
    rw [this] at hq
    omega
  refine ⟨Tp.of_ok ⟨o.kind, o.wide, o.high, o.alike, o.ended, o.turn, o.turns, o.flips, fun h0 => absurd h0 ht, fun _ => ⟨e2, by omega⟩, fun a b => ⟨hne (o.torus a b).1, (o.torus a b).2⟩⟩ htn, e1, e2, h2, by omega, by omega⟩
theorem canon_walk (k x y t z : Int) (w : World) (hk : 0 ≤ k ∧ k ≤ 255) (hx : -9223372036854775808 ≤ x ∧ x ≤ 9223372036854775807) (hy : -9223372036854775808 ≤ y ∧ y ≤ 9223372036854775807) (htt : 0 ≤ t ∧ t ≤ 255) (hz : -9223372036854775808 ≤ z ∧ z ≤ 9223372036854775807) (tp : TypeId) (p : Value) (hE : En tp p w) (htab : Tab w) : Calls Tryd.prog 5 #[.agg #[.int .u8 k, .int .i64 x, .int .i64 y, .int .u8 t, .int .i64 z]] w fun e w' => e = .returned (.bool true) ∧ Below w.heap.size w w' := by
  have key : Calls Tryd.prog 5 #[.agg #[.int .u8 k, .int .i64 x, .int .i64 y, .int .u8 t, .int .i64 z]] w fun e w' => e = .returned (.bool true) ∧ w.grownBy w' none := by
    by_cases h : Tp.chk k x y t z = 0
    · have o := Tp.ok_of h
      have h2 := o.turn
      obtain h3 | h3 | h3 : t = 0 ∨ t = 1 ∨ t = 2 := by omega
      · subst h3
        have := o.none rfl
        exact canon_0 k x y z w tp p hE htab h (by omega)
      · subst h3
        obtain ⟨m1, m2, m3, m4, m5, m6⟩ := mod_ok h (by decide) (by decide)
        exact canon_1 k x y z (z % x) w tp p hE htab h m1 rfl ⟨m2, m3⟩ m4 ⟨m5, m6⟩
      · subst h3
        obtain ⟨m1, m2, m3, m4, m5, m6⟩ := mod_ok h (by decide) (by decide)
        exact canon_2 k x y z (z % y) w tp p hE htab h m1 rfl ⟨m2, m3⟩ m4 ⟨m5, m6⟩
    · exact canon_no k x y t z w tp p hE htab htt.1 h
  exact key.mono fun e w' ⟨h1, h2⟩ => ⟨h1, gb_below h2⟩
end Go.Proofs.YteegbhnfkcbnoabDoor
