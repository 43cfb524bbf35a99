/- The statement TopoFirst answers true (its walk). -/
import Derived.Test.YteegbhnfkcbnoabDoorP15
import Derived.Test.YteegbhnfkcbnoabDoorTt
import Derived.Test.YteegbhnfkcbnoabDoorP20z
namespace Go.Proofs.YteegbhnfkcbnoabDoor
open Go.RowKit
set_option linter.unusedVariables false
set_option linter.unusedSimpArgs false
set_option maxRecDepth 100000

set_option maxHeartbeats 4000000 in
theorem first_43s43 (s m : ByteArray) (w : World) (tp : TypeId) (p : Value) (hE : Hid (En tp p w)) (htab : Hid (Tab w)) (hs : s.size ≤ maxLen) (c : Nat) (h1 : Hid (43 = (Tp.parseR s).e)) (h2 : Hid (c + 1 = (Tp.parseR s).a)) (hn : Hid ((Tp.parseR s).e ≠ 0)) (ha : ¬ (s.size : Int) ≤ ((c + 1 : Nat) : Int)) (hlt : c + 1 < s.size) (hm : ¬ 1000000 < (m.size : Int)) (hl : ¬ 40000 < (s.size : Int)) (q1 : ((Sc.bt s (c + 1) : Int) == 43) = true) (u1 : ((Sc.bt s c : Int) != 43) = true) (u2 : ((Sc.bt s c : Int) != 45) = true) : Calls Tryd.prog 6 #[.string s, .string m] w fun e w' => e = .returned (.bool true) ∧ w.grownBy w' none := by
  have hb := Sc.bt_at hlt
  have hlt' : ((c + 1 : Nat) : Int) < (s.size : Int) := by omega
  have hlc : c < s.size := by omega
  have hbc := Sc.bt_at hlc
  have hlc' : (c : Int) < (s.size : Int) := by omega
  have hwc : IntKind.i64.wrap (((c + 1 : Nat) : Int) - 1) = (c : Int) := by rw [IntKind.wrap_i64]; omega
  have hwd : IntKind.i64.wrap ((c : Int) + 1 - 1) = (c : Int) := by rw [IntKind.wrap_i64]; omega
  go_enter Tryd.func6, Tryd.ntmps6
  go_wp2_with (first | (go_at_call 7; (fail_if_success (guard_hyp g1)); refine (aliveC _ tp p hE htab).mono ?_; rintro e w1 ⟨rfl, g1⟩) | (go_at_call 15; (fail_if_success (guard_hyp g2)); refine (parseN s _ hs tp p (enK hE g1) 43 (c + 1) h1 h2 hn).mono ?_; rintro e w2 ⟨rfl, g2⟩; have G2 := gb_trans g1 g2; have g3 : w2.grownBy (w2.alloc (.cells #[.int .u8 0, .int .i64 0, .int .i64 0, .int .u8 0, .int .i64 0] 23)) none := World.grownBy_alloc _ _ _; have G3 := gb_trans G2 g3; have B3 : Bo (w2.alloc (.cells #[.int .u8 0, .int .i64 0, .int .i64 0, .int .u8 0, .int .i64 0] 23)) w2.heap.size 23 #[.int .u8 0, .int .i64 0, .int .i64 0, .int .u8 0, .int .i64 0] := Bo.new _ _ _; have b3_3_0 := B3.cell 0 (v := .int .u8 0) rfl; have b3_3_1 := B3.cell 1 (v := .int .i64 0) rfl; have b3_3_2 := B3.cell 2 (v := .int .i64 0) rfl; have b3_3_3 := B3.cell 3 (v := .int .u8 0) rfl; have b3_3_4 := B3.cell 4 (v := .int .i64 0) rfl))
  all_goals first | go_ret | (go_quiet (fail); go_wp2; go_ret)
  all_goals exact ⟨rfl, by first | exact G3 | exact gb_drewN G3 _⟩

end Go.Proofs.YteegbhnfkcbnoabDoor
