/- What the document's Check answers. -/
import Derived.Test.YthjiiljglgmkpaaGreatDoorT3
namespace Go.Proofs.YthjiiljglgmkpaaGreatDoor.To
open Go.RowKit
set_option linter.unusedVariables false
set_option linter.unusedSimpArgs false

theorem refSideC (k x y t z : Int) (w : World) : Calls Tryz.prog 101 #[.agg #[.int .u8 k, .int .i64 x, .int .i64 y, .int .u8 t, .int .i64 z]] w fun e w' => e = .returned (.int .i64 (Tp.sd x y t)) ∧ w.grownBy w' none := by
  by_cases h1 : t = 2
  all_goals
    go_enter Tryz.func101, Tryz.ntmps101
    go_wp2
    all_goals go_ret
    all_goals refine ⟨retI ?_, World.grownBy_alloc _ _ _⟩
    all_goals simp [Tp.sd, h1]

theorem wneg {n : Int} (h1 : 0 ≤ n) (h2 : n ≤ 65536) : IntKind.i64.wrap (-n) = -n := by rw [IntKind.wrap_i64]; omega
set_option maxHeartbeats 4000000 in
theorem refCheckC (k x y t z : Int) (ht : 0 ≤ t) (w : World) : Calls Tryz.prog 70 #[.agg #[.int .u8 k, .int .i64 x, .int .i64 y, .int .u8 t, .int .i64 z]] w fun e w' => e = .returned (.int .i64 (Tp.chk k x y t z)) ∧ w.grownBy w' none := by
  obtain ⟨W1, hW1, sz1, g1, B1⟩ := boxn w #[.int .u8 k, .int .i64 x, .int .i64 y, .int .u8 t, .int .i64 z] 30
  have c1_0 := B1.cell 0 (v := .int .u8 k) rfl
  have c1_1 := B1.cell 1 (v := .int .i64 x) rfl
  have c1_2 := B1.cell 2 (v := .int .i64 y) rfl
  have c1_3 := B1.cell 3 (v := .int .u8 t) rfl
  have c1_4 := B1.cell 4 (v := .int .i64 z) rfl
  go_enter Tryz.func70, Tryz.ntmps70
  go_wp2_with (go_at_call 101; refine (refSideC _ _ _ _ _ _).mono ?_; rintro e w2 ⟨rfl, g2⟩; have B2 := B1.kept g2 (by simp); have y0 := B2.cell 0 (v := .int .u8 k) rfl; have y1 := B2.cell 1 (v := .int .i64 x) rfl; have y2 := B2.cell 2 (v := .int .i64 y) rfl; have y3 := B2.cell 3 (v := .int .u8 t) rfl; have y4 := B2.cell 4 (v := .int .i64 z) rfl)
  all_goals go_ret
  all_goals refine ⟨retI ?_, by first | exact g1 | exact gb_trans g1 g2⟩
  all_goals clear c1_0 c1_1 c1_2 c1_3 c1_4 B1 hW1 sz1
  all_goals try clear y0 y1 y2 y3 y4 B2
  all_goals try simp only [Bool.or_eq_true, Bool.and_eq_true, Bool.or_eq_false_iff, Bool.and_eq_false_iff, decide_eq_true_eq, decide_eq_false_iff_not, beq_iff_eq, bne_iff_ne, ne_eq, beq_eq_false_iff_ne, bne_eq_false_iff_eq, Bool.not_eq_true] at *

  all_goals unfold Tp.chk
  all_goals repeat' split
  all_goals first
    | omega
    | (have hb : 0 ≤ Tp.sd x y t ∧ Tp.sd x y t ≤ 65536 := by (unfold Tp.sd; split <;> omega)
       have hw : wrap64 (-(Tp.sd x y t)) = -(Tp.sd x y t) := by (unfold wrap64; omega)
       omega)
end Go.Proofs.YthjiiljglgmkpaaGreatDoor.To
