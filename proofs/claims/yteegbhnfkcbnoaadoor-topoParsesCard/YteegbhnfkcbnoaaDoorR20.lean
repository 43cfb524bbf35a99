/- The statement TopoParses answers true (its walk): any text is read as the document reads it. -/
import Derived.Test.YteegbhnfkcbnoaaDoorR19
import Derived.Test.YteegbhnfkcbnoaaDoorP12
namespace Go.Proofs.YteegbhnfkcbnoaaDoor
open Go.RowKit
set_option linter.unusedVariables false
set_option linter.unusedSimpArgs false
set_option maxRecDepth 100000

theorem parses_core (s : ByteArray) (K X Y V Z A0 E0 : Int) (w : World) (hT : Calls Tryd.prog 7 #[.string s] w fun e w' => e = .returned (.tuple #[.agg #[.int .u8 K, .int .i64 X, .int .i64 Y, .int .u8 V, .int .i64 Z], .int .i64 A0, .int .i64 E0]) ∧ w.grownBy w' none) (hD : ∀ w, Calls Tryd.prog 9 #[.string s] w fun e w' => e = .returned (.tuple #[.agg #[.int .u8 K, .int .i64 X, .int .i64 Y, .int .u8 V, .int .i64 Z], .int .i64 A0, .int .i64 E0]) ∧ w.grownBy w' none) :
    Calls Tryd.prog 4 #[.string s] w fun e w' => e = .returned (.bool true) ∧ w.grownBy w' none := by
  go_enter Tryd.func4, Tryd.ntmps4
  go_wp2_with (first | (go_at_call 7; refine hT.mono ?_; rintro e w1 ⟨rfl, g1⟩; obtain ⟨W2, hW2, sz2, h2, B2⟩ := boxn w1 #[.int .u8 K, .int .i64 X, .int .i64 Y, .int .u8 V, .int .i64 Z] 23; have sm2_0 := Bo.same B2 0 (v := .int .u8 K) rfl; have sm2_1 := Bo.same B2 1 (v := .int .i64 X) rfl; have sm2_2 := Bo.same B2 2 (v := .int .i64 Y) rfl; have sm2_3 := Bo.same B2 3 (v := .int .u8 V) rfl; have sm2_4 := Bo.same B2 4 (v := .int .i64 Z) rfl; have fz2_0 := B2.frozen 0; have fz2_1 := B2.frozen 1; have fz2_2 := B2.frozen 2; have fz2_3 := B2.frozen 3; have fz2_4 := B2.frozen 4; have b2_0 := B2.cell 0 (v := .int .u8 K) rfl; have b2_1 := B2.cell 1 (v := .int .i64 X) rfl; have b2_2 := B2.cell 2 (v := .int .i64 Y) rfl; have b2_3 := B2.cell 3 (v := .int .u8 V) rfl; have b2_4 := B2.cell 4 (v := .int .i64 Z) rfl) | (go_at_call 9; refine (hD _).mono ?_; rintro e w3 ⟨rfl, g3⟩; have C2 := B2.kept g3 (by simp); obtain ⟨W4, hW4, sz4, h4, B4⟩ := boxn w3 #[.int .u8 K, .int .i64 X, .int .i64 Y, .int .u8 V, .int .i64 Z] 23; have sm4_0 := Bo.same B4 0 (v := .int .u8 K) rfl; have sm4_1 := Bo.same B4 1 (v := .int .i64 X) rfl; have sm4_2 := Bo.same B4 2 (v := .int .i64 Y) rfl; have sm4_3 := Bo.same B4 3 (v := .int .u8 V) rfl; have sm4_4 := Bo.same B4 4 (v := .int .i64 Z) rfl; have fz4_0 := B4.frozen 0; have fz4_1 := B4.frozen 1; have fz4_2 := B4.frozen 2; have fz4_3 := B4.frozen 3; have fz4_4 := B4.frozen 4; have b4_0 := B4.cell 0 (v := .int .u8 K) rfl; have b4_1 := B4.cell 1 (v := .int .i64 X) rfl; have b4_2 := B4.cell 2 (v := .int .i64 Y) rfl; have b4_3 := B4.cell 3 (v := .int .u8 V) rfl; have b4_4 := B4.cell 4 (v := .int .i64 Z) rfl; have C4 := C2.kept h4 (by simp); have c4_0 := C4.cell 0 (v := .int .u8 K) rfl; have c4_1 := C4.cell 1 (v := .int .i64 X) rfl; have c4_2 := C4.cell 2 (v := .int .i64 Y) rfl; have c4_3 := C4.cell 3 (v := .int .u8 V) rfl; have c4_4 := C4.cell 4 (v := .int .i64 Z) rfl))
  all_goals first | go_ret | (go_quiet (fail); go_wp2; go_ret)
  all_goals exact ⟨rfl, by first | exact gb_trans (gb_trans (gb_trans g1 h2) g3) h4 | exact gb_drewN (gb_trans (gb_trans (gb_trans g1 h2) g3) h4) _⟩
theorem parses_walk (s : ByteArray) (w : World) (hs : s.size ≤ maxLen) (tp : TypeId) (p : Value) (hE : En tp p w) (htab : Tab w) : Calls Tryd.prog 4 #[.string s] w fun e w' => e = .returned (.bool true) ∧ Below w.heap.size w w' := by
  refine Calls.mono (R := fun e w' => e = .returned (.bool true) ∧ w.grownBy w' none) ?_ (fun e w' h => ⟨h.1, gb_below h.2⟩)
  exact parses_core s _ _ _ _ _ _ _ w (parseT s w hs tp p hE) (parseD s)
end Go.Proofs.YteegbhnfkcbnoaaDoor
