/- The statement TopoFirst answers true (its walk). -/
import Derived.Test.YteegbhnfkcbnoabDoorP15
import Derived.Test.YteegbhnfkcbnoabDoorTt
import Derived.Test.YteegbhnfkcbnoabDoorP20z
namespace Go.Proofs.YteegbhnfkcbnoabDoor
open Go.RowKit
set_option linter.unusedVariables false
set_option linter.unusedSimpArgs false
set_option maxRecDepth 100000

set_option maxHeartbeats 4000000 in
theorem first_ok (s m : ByteArray) (w : World) (tp : TypeId) (p : Value) (hE : Hid (En tp p w)) (htab : Hid (Tab w)) (hs : s.size ≤ maxLen) (K X Y V Z : Int) (h1 : Hid (resV (Tp.parseR s) = #[.int .u8 K, .int .i64 X, .int .i64 Y, .int .u8 V, .int .i64 Z])) (hn : Hid ((Tp.parseR s).e = 0)) : Calls Tryd.prog 6 #[.string s, .string m] w fun e w' => e = .returned (.bool true) ∧ w.grownBy w' none := by
  go_enter Tryd.func6, Tryd.ntmps6
  go_wp2_with (first | (go_at_call 7; (fail_if_success (guard_hyp g1)); refine (aliveC _ tp p hE htab).mono ?_; rintro e w1 ⟨rfl, g1⟩) | (go_at_call 15; (fail_if_success (guard_hyp g2)); refine (parseY s _ hs tp p (enK hE g1) K X Y V Z h1 hn).mono ?_; rintro e w2 ⟨rfl, g2⟩; have G2 := gb_trans g1 g2; obtain ⟨W3, hW3, sz3, g3, B3⟩ := boxn w2 #[.int .u8 K, .int .i64 X, .int .i64 Y, .int .u8 V, .int .i64 Z] 23; have G3 := gb_trans G2 g3; have b3_3_0 := B3.cell 0 (v := .int .u8 K) rfl; have b3_3_1 := B3.cell 1 (v := .int .i64 X) rfl; have b3_3_2 := B3.cell 2 (v := .int .i64 Y) rfl; have b3_3_3 := B3.cell 3 (v := .int .u8 V) rfl; have b3_3_4 := B3.cell 4 (v := .int .i64 Z) rfl))
  all_goals first | go_ret | (go_quiet (fail); go_wp2; go_ret)
  all_goals exact ⟨rfl, by first | exact G3 | exact gb_drewN G3 _⟩

set_option maxHeartbeats 4000000 in
theorem first_3 (s m : ByteArray) (w : World) (tp : TypeId) (p : Value) (hE : Hid (En tp p w)) (htab : Hid (Tab w)) (hs : s.size ≤ maxLen) (a : Nat) (h1 : Hid (3 = (Tp.parseR s).e)) (h2 : Hid (a = (Tp.parseR s).a)) (hn : Hid ((Tp.parseR s).e ≠ 0))  : Calls Tryd.prog 6 #[.string s, .string m] w fun e w' => e = .returned (.bool true) ∧ w.grownBy w' none := by
  go_enter Tryd.func6, Tryd.ntmps6
  go_wp2_with (first | (go_at_call 7; (fail_if_success (guard_hyp g1)); refine (aliveC _ tp p hE htab).mono ?_; rintro e w1 ⟨rfl, g1⟩) | (go_at_call 15; (fail_if_success (guard_hyp g2)); refine (parseN s _ hs tp p (enK hE g1) 3 a h1 h2 hn).mono ?_; rintro e w2 ⟨rfl, g2⟩; have G2 := gb_trans g1 g2; have g3 : w2.grownBy (w2.alloc (.cells #[.int .u8 0, .int .i64 0, .int .i64 0, .int .u8 0, .int .i64 0] 23)) none := World.grownBy_alloc _ _ _; have G3 := gb_trans G2 g3; have B3 : Bo (w2.alloc (.cells #[.int .u8 0, .int .i64 0, .int .i64 0, .int .u8 0, .int .i64 0] 23)) w2.heap.size 23 #[.int .u8 0, .int .i64 0, .int .i64 0, .int .u8 0, .int .i64 0] := Bo.new _ _ _; have b3_3_0 := B3.cell 0 (v := .int .u8 0) rfl; have b3_3_1 := B3.cell 1 (v := .int .i64 0) rfl; have b3_3_2 := B3.cell 2 (v := .int .i64 0) rfl; have b3_3_3 := B3.cell 3 (v := .int .u8 0) rfl; have b3_3_4 := B3.cell 4 (v := .int .i64 0) rfl))
  all_goals first | go_ret | (go_quiet (fail); go_wp2; go_ret)
  all_goals exact ⟨rfl, by first | exact G3 | exact gb_drewN G3 _⟩

set_option maxHeartbeats 4000000 in
theorem first_end (s m : ByteArray) (w : World) (tp : TypeId) (p : Value) (hE : Hid (En tp p w)) (htab : Hid (Tab w)) (er : Nat) (e0 : ((er : Int) == 0) = false) (e3 : ((er : Int) == 3) = false) (hs : s.size ≤ maxLen) (a : Nat) (h1 : Hid (er = (Tp.parseR s).e)) (h2 : Hid (a = (Tp.parseR s).a)) (hn : Hid ((Tp.parseR s).e ≠ 0)) (ha : (s.size : Int) ≤ (a : Int)) : Calls Tryd.prog 6 #[.string s, .string m] w fun e w' => e = .returned (.bool true) ∧ w.grownBy w' none := by
  go_enter Tryd.func6, Tryd.ntmps6
  go_wp2_with (first | (go_at_call 7; (fail_if_success (guard_hyp g1)); refine (aliveC _ tp p hE htab).mono ?_; rintro e w1 ⟨rfl, g1⟩) | (go_at_call 15; (fail_if_success (guard_hyp g2)); refine (parseN s _ hs tp p (enK hE g1) er a h1 h2 hn).mono ?_; rintro e w2 ⟨rfl, g2⟩; have G2 := gb_trans g1 g2; have g3 : w2.grownBy (w2.alloc (.cells #[.int .u8 0, .int .i64 0, .int .i64 0, .int .u8 0, .int .i64 0] 23)) none := World.grownBy_alloc _ _ _; have G3 := gb_trans G2 g3; have B3 : Bo (w2.alloc (.cells #[.int .u8 0, .int .i64 0, .int .i64 0, .int .u8 0, .int .i64 0] 23)) w2.heap.size 23 #[.int .u8 0, .int .i64 0, .int .i64 0, .int .u8 0, .int .i64 0] := Bo.new _ _ _; have b3_3_0 := B3.cell 0 (v := .int .u8 0) rfl; have b3_3_1 := B3.cell 1 (v := .int .i64 0) rfl; have b3_3_2 := B3.cell 2 (v := .int .i64 0) rfl; have b3_3_3 := B3.cell 3 (v := .int .u8 0) rfl; have b3_3_4 := B3.cell 4 (v := .int .i64 0) rfl))
  all_goals first | go_ret | (go_quiet (fail); go_wp2; go_ret)
  all_goals exact ⟨rfl, by first | exact G3 | exact gb_drewN G3 _⟩

set_option maxHeartbeats 4000000 in
theorem first_more (s m : ByteArray) (w : World) (tp : TypeId) (p : Value) (hE : Hid (En tp p w)) (htab : Hid (Tab w)) (er : Nat) (e0 : ((er : Int) == 0) = false) (e3 : ((er : Int) == 3) = false) (hs : s.size ≤ maxLen) (a : Nat) (h1 : Hid (er = (Tp.parseR s).e)) (h2 : Hid (a = (Tp.parseR s).a)) (hn : Hid ((Tp.parseR s).e ≠ 0)) (ha : ¬ (s.size : Int) ≤ (a : Int)) (hm : 1000000 < (m.size : Int)) : Calls Tryd.prog 6 #[.string s, .string m] w fun e w' => e = .returned (.bool true) ∧ w.grownBy w' none := by
  go_enter Tryd.func6, Tryd.ntmps6
  go_wp2_with (first | (go_at_call 7; (fail_if_success (guard_hyp g1)); refine (aliveC _ tp p hE htab).mono ?_; rintro e w1 ⟨rfl, g1⟩) | (go_at_call 15; (fail_if_success (guard_hyp g2)); refine (parseN s _ hs tp p (enK hE g1) er a h1 h2 hn).mono ?_; rintro e w2 ⟨rfl, g2⟩; have G2 := gb_trans g1 g2; have g3 : w2.grownBy (w2.alloc (.cells #[.int .u8 0, .int .i64 0, .int .i64 0, .int .u8 0, .int .i64 0] 23)) none := World.grownBy_alloc _ _ _; have G3 := gb_trans G2 g3; have B3 : Bo (w2.alloc (.cells #[.int .u8 0, .int .i64 0, .int .i64 0, .int .u8 0, .int .i64 0] 23)) w2.heap.size 23 #[.int .u8 0, .int .i64 0, .int .i64 0, .int .u8 0, .int .i64 0] := Bo.new _ _ _; have b3_3_0 := B3.cell 0 (v := .int .u8 0) rfl; have b3_3_1 := B3.cell 1 (v := .int .i64 0) rfl; have b3_3_2 := B3.cell 2 (v := .int .i64 0) rfl; have b3_3_3 := B3.cell 3 (v := .int .u8 0) rfl; have b3_3_4 := B3.cell 4 (v := .int .i64 0) rfl))
  all_goals first | go_ret | (go_quiet (fail); go_wp2; go_ret)
  all_goals exact ⟨rfl, by first | exact G3 | exact gb_drewN G3 _⟩

set_option maxHeartbeats 4000000 in
theorem first_long (s m : ByteArray) (w : World) (tp : TypeId) (p : Value) (hE : Hid (En tp p w)) (htab : Hid (Tab w)) (er : Nat) (e0 : ((er : Int) == 0) = false) (e3 : ((er : Int) == 3) = false) (hs : s.size ≤ maxLen) (a : Nat) (h1 : Hid (er = (Tp.parseR s).e)) (h2 : Hid (a = (Tp.parseR s).a)) (hn : Hid ((Tp.parseR s).e ≠ 0)) (ha : ¬ (s.size : Int) ≤ (a : Int)) (hm : ¬ 1000000 < (m.size : Int)) (hl : 40000 < (s.size : Int)) : Calls Tryd.prog 6 #[.string s, .string m] w fun e w' => e = .returned (.bool true) ∧ w.grownBy w' none := by
  go_enter Tryd.func6, Tryd.ntmps6
  go_wp2_with (first | (go_at_call 7; (fail_if_success (guard_hyp g1)); refine (aliveC _ tp p hE htab).mono ?_; rintro e w1 ⟨rfl, g1⟩) | (go_at_call 15; (fail_if_success (guard_hyp g2)); refine (parseN s _ hs tp p (enK hE g1) er a h1 h2 hn).mono ?_; rintro e w2 ⟨rfl, g2⟩; have G2 := gb_trans g1 g2; have g3 : w2.grownBy (w2.alloc (.cells #[.int .u8 0, .int .i64 0, .int .i64 0, .int .u8 0, .int .i64 0] 23)) none := World.grownBy_alloc _ _ _; have G3 := gb_trans G2 g3; have B3 : Bo (w2.alloc (.cells #[.int .u8 0, .int .i64 0, .int .i64 0, .int .u8 0, .int .i64 0] 23)) w2.heap.size 23 #[.int .u8 0, .int .i64 0, .int .i64 0, .int .u8 0, .int .i64 0] := Bo.new _ _ _; have b3_3_0 := B3.cell 0 (v := .int .u8 0) rfl; have b3_3_1 := B3.cell 1 (v := .int .i64 0) rfl; have b3_3_2 := B3.cell 2 (v := .int .i64 0) rfl; have b3_3_3 := B3.cell 3 (v := .int .u8 0) rfl; have b3_3_4 := B3.cell 4 (v := .int .i64 0) rfl))
  all_goals first | go_ret | (go_quiet (fail); go_wp2; go_ret)
  all_goals exact ⟨rfl, by first | exact G3 | exact gb_drewN G3 _⟩

set_option maxHeartbeats 4000000 in
theorem first_44 (s m : ByteArray) (w : World) (tp : TypeId) (p : Value) (hE : Hid (En tp p w)) (htab : Hid (Tab w)) (hs : s.size ≤ maxLen) (a : Nat) (h1 : Hid (44 = (Tp.parseR s).e)) (h2 : Hid (a = (Tp.parseR s).a)) (hn : Hid ((Tp.parseR s).e ≠ 0)) (ha : ¬ (s.size : Int) ≤ (a : Int)) (hlt : a < s.size) (hm : ¬ 1000000 < (m.size : Int)) (hl : ¬ 40000 < (s.size : Int))  : Calls Tryd.prog 6 #[.string s, .string m] w fun e w' => e = .returned (.bool true) ∧ w.grownBy w' none := by
  go_enter Tryd.func6, Tryd.ntmps6
  go_wp2_with (first | (go_at_call 7; (fail_if_success (guard_hyp g1)); refine (aliveC _ tp p hE htab).mono ?_; rintro e w1 ⟨rfl, g1⟩) | (go_at_call 15; (fail_if_success (guard_hyp g2)); refine (parseN s _ hs tp p (enK hE g1) 44 a h1 h2 hn).mono ?_; rintro e w2 ⟨rfl, g2⟩; have G2 := gb_trans g1 g2; have g3 : w2.grownBy (w2.alloc (.cells #[.int .u8 0, .int .i64 0, .int .i64 0, .int .u8 0, .int .i64 0] 23)) none := World.grownBy_alloc _ _ _; have G3 := gb_trans G2 g3; have B3 : Bo (w2.alloc (.cells #[.int .u8 0, .int .i64 0, .int .i64 0, .int .u8 0, .int .i64 0] 23)) w2.heap.size 23 #[.int .u8 0, .int .i64 0, .int .i64 0, .int .u8 0, .int .i64 0] := Bo.new _ _ _; have b3_3_0 := B3.cell 0 (v := .int .u8 0) rfl; have b3_3_1 := B3.cell 1 (v := .int .i64 0) rfl; have b3_3_2 := B3.cell 2 (v := .int .i64 0) rfl; have b3_3_3 := B3.cell 3 (v := .int .u8 0) rfl; have b3_3_4 := B3.cell 4 (v := .int .i64 0) rfl))
  all_goals first | go_ret | (go_quiet (fail); go_wp2; go_ret)
  all_goals exact ⟨rfl, by first | exact G3 | exact gb_drewN G3 _⟩

set_option maxHeartbeats 4000000 in
theorem first_42 (s m : ByteArray) (w : World) (tp : TypeId) (p : Value) (hE : Hid (En tp p w)) (htab : Hid (Tab w)) (hs : s.size ≤ maxLen) (a : Nat) (h1 : Hid (42 = (Tp.parseR s).e)) (h2 : Hid (a = (Tp.parseR s).a)) (hn : Hid ((Tp.parseR s).e ≠ 0)) (ha : ¬ (s.size : Int) ≤ (a : Int)) (hlt : a < s.size) (hm : ¬ 1000000 < (m.size : Int)) (hl : ¬ 40000 < (s.size : Int))  : Calls Tryd.prog 6 #[.string s, .string m] w fun e w' => e = .returned (.bool true) ∧ w.grownBy w' none := by
  go_enter Tryd.func6, Tryd.ntmps6
  go_wp2_with (first | (go_at_call 7; (fail_if_success (guard_hyp g1)); refine (aliveC _ tp p hE htab).mono ?_; rintro e w1 ⟨rfl, g1⟩) | (go_at_call 15; (fail_if_success (guard_hyp g2)); refine (parseN s _ hs tp p (enK hE g1) 42 a h1 h2 hn).mono ?_; rintro e w2 ⟨rfl, g2⟩; have G2 := gb_trans g1 g2; have g3 : w2.grownBy (w2.alloc (.cells #[.int .u8 0, .int .i64 0, .int .i64 0, .int .u8 0, .int .i64 0] 23)) none := World.grownBy_alloc _ _ _; have G3 := gb_trans G2 g3; have B3 : Bo (w2.alloc (.cells #[.int .u8 0, .int .i64 0, .int .i64 0, .int .u8 0, .int .i64 0] 23)) w2.heap.size 23 #[.int .u8 0, .int .i64 0, .int .i64 0, .int .u8 0, .int .i64 0] := Bo.new _ _ _; have b3_3_0 := B3.cell 0 (v := .int .u8 0) rfl; have b3_3_1 := B3.cell 1 (v := .int .i64 0) rfl; have b3_3_2 := B3.cell 2 (v := .int .i64 0) rfl; have b3_3_3 := B3.cell 3 (v := .int .u8 0) rfl; have b3_3_4 := B3.cell 4 (v := .int .i64 0) rfl))
  all_goals first | go_ret | (go_quiet (fail); go_wp2; go_ret)
  all_goals exact ⟨rfl, by first | exact G3 | exact gb_drewN G3 _⟩

set_option maxHeartbeats 4000000 in
theorem first_41s (s m : ByteArray) (w : World) (tp : TypeId) (p : Value) (hE : Hid (En tp p w)) (htab : Hid (Tab w)) (hs : s.size ≤ maxLen) (a : Nat) (h1 : Hid (41 = (Tp.parseR s).e)) (h2 : Hid (a = (Tp.parseR s).a)) (hn : Hid ((Tp.parseR s).e ≠ 0)) (ha : ¬ (s.size : Int) ≤ (a : Int)) (hlt : a < s.size) (hm : ¬ 1000000 < (m.size : Int)) (hl : ¬ 40000 < (s.size : Int)) (d1 : 48 ≤ (Sc.bt s a : Int)) (d2 : (Sc.bt s a : Int) ≤ 57) : Calls Tryd.prog 6 #[.string s, .string m] w fun e w' => e = .returned (.bool true) ∧ w.grownBy w' none := by
  have hb := Sc.bt_at hlt
  have hlt' : (a : Int) < (s.size : Int) := by omega
  go_enter Tryd.func6, Tryd.ntmps6
  go_wp2_with (first | (go_at_call 7; (fail_if_success (guard_hyp g1)); refine (aliveC _ tp p hE htab).mono ?_; rintro e w1 ⟨rfl, g1⟩) | (go_at_call 15; (fail_if_success (guard_hyp g2)); refine (parseN s _ hs tp p (enK hE g1) 41 a h1 h2 hn).mono ?_; rintro e w2 ⟨rfl, g2⟩; have G2 := gb_trans g1 g2; have g3 : w2.grownBy (w2.alloc (.cells #[.int .u8 0, .int .i64 0, .int .i64 0, .int .u8 0, .int .i64 0] 23)) none := World.grownBy_alloc _ _ _; have G3 := gb_trans G2 g3; have B3 : Bo (w2.alloc (.cells #[.int .u8 0, .int .i64 0, .int .i64 0, .int .u8 0, .int .i64 0] 23)) w2.heap.size 23 #[.int .u8 0, .int .i64 0, .int .i64 0, .int .u8 0, .int .i64 0] := Bo.new _ _ _; have b3_3_0 := B3.cell 0 (v := .int .u8 0) rfl; have b3_3_1 := B3.cell 1 (v := .int .i64 0) rfl; have b3_3_2 := B3.cell 2 (v := .int .i64 0) rfl; have b3_3_3 := B3.cell 3 (v := .int .u8 0) rfl; have b3_3_4 := B3.cell 4 (v := .int .i64 0) rfl))
  all_goals first | go_ret | (go_quiet (fail); go_wp2; go_ret)
  all_goals exact ⟨rfl, by first | exact G3 | exact gb_drewN G3 _⟩

end Go.Proofs.YteegbhnfkcbnoabDoor
