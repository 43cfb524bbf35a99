/- The statement TopoNames, a closed sentence, answers true (its walk). -/
import Derived.Test.YteegbhnfkcbnoaaDoorP15
namespace Go.Proofs.YteegbhnfkcbnoaaDoor
open Go.RowKit
set_option linter.unusedVariables false
set_option linter.unusedSimpArgs false
set_option maxRecDepth 100000

theorem nParse (w : World) (tp : TypeId) (p : Value) (hE : Hid (En tp p w)) : Calls Tryd.prog 7 #[.string ⟨#[80]⟩] w fun e w' => e = .returned (.tuple #[.agg #[.int .u8 1, .int .i64 0, .int .i64 0, .int .u8 0, .int .i64 0], .int .i64 0, .int .i64 0]) ∧ w.grownBy w' none := by
  have h := parseT ⟨#[80]⟩ w (by decide) tp p hE
  rw [Tp.pP] at h
  exact h
theorem nParse0 (w : World) (tp : TypeId) (p : Value) (hE : Hid (En tp p w)) : Calls Tryd.prog 7 #[.string ⟨#[]⟩] w fun e w' => e = .returned (.tuple #[.agg #[.int .u8 0, .int .i64 0, .int .i64 0, .int .u8 0, .int .i64 0], .int .i64 0, .int .i64 40]) ∧ w.grownBy w' none := by
  have h := parseT ⟨#[]⟩ w (by decide) tp p hE
  rw [Tp.pEmpty] at h
  exact h

set_option maxHeartbeats 4000000 in
theorem names_walk (w : World) (tp : TypeId) (p : Value) (hE0 : En tp p w) (htab0 : Tab w) : Calls Tryd.prog 3 #[] w fun e w' => e = .returned (.bool true) ∧ Below w.heap.size w w' := by
  have hE : Hid (En tp p w) := hE0
  have htab : Hid (Tab w) := htab0
  clear hE0 htab0
  go_enter Tryd.func3, Tryd.ntmps3
  go_wp2_with (first | (go_at_call_of 7 (Value.string ⟨#[80]⟩); (fail_if_success (guard_hyp g1)); refine (nParse _ tp p hE).mono ?_; rintro e w1 ⟨rfl, g1⟩; obtain ⟨W2, hW2, sz2, g2, B2⟩ := boxn w1 #[.int .u8 1, .int .i64 0, .int .i64 0, .int .u8 0, .int .i64 0] 23; have G2 := gb_trans g1 g2; have b2_2_0 := B2.cell 0 (v := .int .u8 1) rfl; have b2_2_1 := B2.cell 1 (v := .int .i64 0) rfl; have b2_2_2 := B2.cell 2 (v := .int .i64 0) rfl; have b2_2_3 := B2.cell 3 (v := .int .u8 0) rfl; have b2_2_4 := B2.cell 4 (v := .int .i64 0) rfl; have z1 := B2.same 1 (v := .int .i64 0) rfl; have z2 := B2.same 2 (v := .int .i64 0) rfl; have z3 := B2.same 3 (v := .int .u8 0) rfl; have z4 := B2.same 4 (v := .int .i64 0) rfl; have fz0 := B2.frozen 0; have fz1 := B2.frozen 1; have fz2 := B2.frozen 2; have fz3 := B2.frozen 3; have fz4 := B2.frozen 4) | (go_at_call_of 7 (Value.string ⟨#[]⟩); (fail_if_success (guard_hyp g3)); refine (nParse0 _ tp p (enK hE G2)).mono ?_; rintro e w3 ⟨rfl, g3⟩; have G3 := gb_trans G2 g3; have B2x := B2.kept g3 (by simp); have g4 : w3.grownBy (w3.alloc (.cells #[.int .u8 0, .int .i64 0, .int .i64 0, .int .u8 0, .int .i64 0] 23)) none := World.grownBy_alloc _ _ _; have G4 := gb_trans G3 g4; have B2xx := B2x.kept g4 (by simp); have B4 : Bo (w3.alloc (.cells #[.int .u8 0, .int .i64 0, .int .i64 0, .int .u8 0, .int .i64 0] 23)) w3.heap.size 23 #[.int .u8 0, .int .i64 0, .int .i64 0, .int .u8 0, .int .i64 0] := Bo.new _ _ _; have b2_4_0 := B2xx.cell 0 (v := .int .u8 1) rfl; have b2_4_1 := B2xx.cell 1 (v := .int .i64 0) rfl; have b2_4_2 := B2xx.cell 2 (v := .int .i64 0) rfl; have b2_4_3 := B2xx.cell 3 (v := .int .u8 0) rfl; have b2_4_4 := B2xx.cell 4 (v := .int .i64 0) rfl; have b4_4_0 := B4.cell 0 (v := .int .u8 0) rfl; have b4_4_1 := B4.cell 1 (v := .int .i64 0) rfl; have b4_4_2 := B4.cell 2 (v := .int .i64 0) rfl; have b4_4_3 := B4.cell 3 (v := .int .u8 0) rfl; have b4_4_4 := B4.cell 4 (v := .int .i64 0) rfl) | (go_at_call 8; (fail_if_success (guard_hyp g5)); refine (aliveC _ tp p (enK hE G4) (tabK htab G4)).mono ?_; rintro e w5 ⟨rfl, g5⟩; have G5 := gb_trans G4 g5; have B2xxx := B2xx.kept g5 (by simp); have B4x := B4.kept g5 (by simp); have b2_5_0 := B2xxx.cell 0 (v := .int .u8 1) rfl; have b2_5_1 := B2xxx.cell 1 (v := .int .i64 0) rfl; have b2_5_2 := B2xxx.cell 2 (v := .int .i64 0) rfl; have b2_5_3 := B2xxx.cell 3 (v := .int .u8 0) rfl; have b2_5_4 := B2xxx.cell 4 (v := .int .i64 0) rfl; have b4_5_0 := B4x.cell 0 (v := .int .u8 0) rfl; have b4_5_1 := B4x.cell 1 (v := .int .i64 0) rfl; have b4_5_2 := B4x.cell 2 (v := .int .i64 0) rfl; have b4_5_3 := B4x.cell 3 (v := .int .u8 0) rfl; have b4_5_4 := B4x.cell 4 (v := .int .i64 0) rfl))
  all_goals first | go_ret | (go_quiet (fail); go_wp2; go_ret)
  all_goals exact ⟨rfl, by first | exact gb_below G5 | exact gb_below (gb_drewN G5 _)⟩
end Go.Proofs.YteegbhnfkcbnoaaDoor
