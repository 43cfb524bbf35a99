/- The statement TopoFirst answers true (its walk). -/
import Derived.Test.YteegbhnfkcbnoabDoorP15
import Derived.Test.YteegbhnfkcbnoabDoorTt
import Derived.Test.YteegbhnfkcbnoabDoorP20z
namespace Go.Proofs.YteegbhnfkcbnoabDoor
open Go.RowKit
set_option linter.unusedVariables false
set_option linter.unusedSimpArgs false
set_option maxRecDepth 100000

set_option maxHeartbeats 4000000 in
theorem first_43n (s m : ByteArray) (w : World) (tp : TypeId) (p : Value) (hE : Hid (En tp p w)) (htab : Hid (Tab w)) (hs : s.size ≤ maxLen) (a : Nat) (h1 : Hid (43 = (Tp.parseR s).e)) (h2 : Hid (a = (Tp.parseR s).a)) (hn : Hid ((Tp.parseR s).e ≠ 0)) (ha : ¬ (s.size : Int) ≤ (a : Int)) (hlt : a < s.size) (hm : ¬ 1000000 < (m.size : Int)) (hl : ¬ 40000 < (s.size : Int)) (hrs : ((s.extract 0 (a + 1)) ++ m).size ≤ maxLen) (r1 : Hid (43 = (Tp.parseR ((s.extract 0 (a + 1)) ++ m)).e)) (r2 : Hid (a = (Tp.parseR ((s.extract 0 (a + 1)) ++ m)).a)) (rn : Hid ((Tp.parseR ((s.extract 0 (a + 1)) ++ m)).e ≠ 0)) (q1 : ((Sc.bt s a : Int) == 43) = false) (q2 : ((Sc.bt s a : Int) == 45) = false) : Calls Tryd.prog 6 #[.string s, .string m] w fun e w' => e = .returned (.bool true) ∧ w.grownBy w' none := by
  have hb := Sc.bt_at hlt
  have hlt' : (a : Int) < (s.size : Int) := by omega
  have hw1 : IntKind.i64.wrap ((a : Int) + 1) = ((a + 1 : Nat) : Int) := by rw [IntKind.wrap_i64]; omega
  have hs1 : ((a + 1 : Nat) : Int) ≤ (s.size : Int) := by omega
  have hz1 : (s.extract 0 (a + 1)).size = a + 1 := by rw [Sc.size_ext s (by omega)]; omega
  have hz2 : ¬ 9223372036854775807 < a + 1 + m.size := by omega
  go_enter Tryd.func6, Tryd.ntmps6
  go_wp2_with (first | (go_at_call 7; (fail_if_success (guard_hyp g1)); refine (aliveC _ tp p hE htab).mono ?_; rintro e w1 ⟨rfl, g1⟩) | (go_at_call 15; (fail_if_success (guard_hyp g2)); refine (parseN s _ hs tp p (enK hE g1) 43 a h1 h2 hn).mono ?_; rintro e w2 ⟨rfl, g2⟩; have G2 := gb_trans g1 g2; have g3 : w2.grownBy (w2.alloc (.cells #[.int .u8 0, .int .i64 0, .int .i64 0, .int .u8 0, .int .i64 0] 23)) none := World.grownBy_alloc _ _ _; have G3 := gb_trans G2 g3; have B3 : Bo (w2.alloc (.cells #[.int .u8 0, .int .i64 0, .int .i64 0, .int .u8 0, .int .i64 0] 23)) w2.heap.size 23 #[.int .u8 0, .int .i64 0, .int .i64 0, .int .u8 0, .int .i64 0] := Bo.new _ _ _; have b3_3_0 := B3.cell 0 (v := .int .u8 0) rfl; have b3_3_1 := B3.cell 1 (v := .int .i64 0) rfl; have b3_3_2 := B3.cell 2 (v := .int .i64 0) rfl; have b3_3_3 := B3.cell 3 (v := .int .u8 0) rfl; have b3_3_4 := B3.cell 4 (v := .int .i64 0) rfl) | (go_at_call 15; (fail_if_success (guard_hyp g4)); refine (parseN _ _ hrs tp p (enK hE G3) 43 a r1 r2 rn).mono ?_; rintro e w4 ⟨rfl, g4⟩; have G4 := gb_trans G3 g4; have B3x := B3.kept g4 (by simp); have g5 : w4.grownBy (w4.alloc (.cells #[.int .u8 0, .int .i64 0, .int .i64 0, .int .u8 0, .int .i64 0] 23)) none := World.grownBy_alloc _ _ _; have G5 := gb_trans G4 g5; have B3xx := B3x.kept g5 (by simp); have B5 : Bo (w4.alloc (.cells #[.int .u8 0, .int .i64 0, .int .i64 0, .int .u8 0, .int .i64 0] 23)) w4.heap.size 23 #[.int .u8 0, .int .i64 0, .int .i64 0, .int .u8 0, .int .i64 0] := Bo.new _ _ _; have b3_5_0 := B3xx.cell 0 (v := .int .u8 0) rfl; have b3_5_1 := B3xx.cell 1 (v := .int .i64 0) rfl; have b3_5_2 := B3xx.cell 2 (v := .int .i64 0) rfl; have b3_5_3 := B3xx.cell 3 (v := .int .u8 0) rfl; have b3_5_4 := B3xx.cell 4 (v := .int .i64 0) rfl; have b5_5_0 := B5.cell 0 (v := .int .u8 0) rfl; have b5_5_1 := B5.cell 1 (v := .int .i64 0) rfl; have b5_5_2 := B5.cell 2 (v := .int .i64 0) rfl; have b5_5_3 := B5.cell 3 (v := .int .u8 0) rfl; have b5_5_4 := B5.cell 4 (v := .int .i64 0) rfl))
  all_goals first | go_ret | (go_quiet (fail); go_wp2; go_ret)
  all_goals exact ⟨rfl, by first | exact G5 | exact gb_drewN G5 _⟩

end Go.Proofs.YteegbhnfkcbnoabDoor
