/- The statement TopoPrints answers true (its walk). -/
import Derived.Test.YteegbhnfkcbnoaaDoorP24
namespace Go.Proofs.YteegbhnfkcbnoaaDoor
open Go.RowKit
set_option linter.unusedVariables false
set_option linter.unusedSimpArgs false
set_option maxRecDepth 100000

set_option maxHeartbeats 4000000 in
theorem prints_walk (k x y t z : Int) (w : World) (hk : 0 ≤ k ∧ k ≤ 255) (hx : -9223372036854775808 ≤ x ∧ x ≤ 9223372036854775807) (hy : -9223372036854775808 ≤ y ∧ y ≤ 9223372036854775807) (htt : 0 ≤ t ∧ t ≤ 255) (hz : -9223372036854775808 ≤ z ∧ z ≤ 9223372036854775807) (hT0 : Tf w) (htab0 : Tab w) : Calls Tryd.prog 5 #[.agg #[.int .u8 k, .int .i64 x, .int .i64 y, .int .u8 t, .int .i64 z]] w fun e w' => e = .returned (.bool true) ∧ Below w.heap.size w w' := by
  have hT : Hid (Tf w) := hT0
  have htab : Hid (Tab w) := htab0
  have ht := htt.1
  clear hT0 htab0 hk hx hy htt
  obtain ⟨W1, hW1, sz1, g1, B1⟩ := boxn w #[.int .u8 k, .int .i64 x, .int .i64 y, .int .u8 t, .int .i64 z] 23
  have b1_1_0 := B1.cell 0 (v := .int .u8 k) rfl
  have b1_1_1 := B1.cell 1 (v := .int .i64 x) rfl
  have b1_1_2 := B1.cell 2 (v := .int .i64 y) rfl
  have b1_1_3 := B1.cell 3 (v := .int .u8 t) rfl
  have b1_1_4 := B1.cell 4 (v := .int .i64 z) rfl
  go_enter Tryd.func5, Tryd.ntmps5
  go_wp2_with (first | (go_at_call 10; (fail_if_success (guard_hyp g2)); refine (printC k x y t z _ ht hz.1 hz.2 (tabK htab g1) (tfK hT g1)).mono ?_; rintro e w2 ⟨rfl, g2⟩; have G2 := gb_trans g1 g2; have B1x := B1.kept g2 (by simp); have b1_2_0 := B1x.cell 0 (v := .int .u8 k) rfl; have b1_2_1 := B1x.cell 1 (v := .int .i64 x) rfl; have b1_2_2 := B1x.cell 2 (v := .int .i64 y) rfl; have b1_2_3 := B1x.cell 3 (v := .int .u8 t) rfl; have b1_2_4 := B1x.cell 4 (v := .int .i64 z) rfl) | (go_at_call 11; (fail_if_success (guard_hyp g3)); refine (rprintC k x y t z _ ht hz).mono ?_; rintro e w3 ⟨rfl, g3⟩; have G3 := gb_trans G2 g3; have B1xx := B1x.kept g3 (by simp); have b1_3_0 := B1xx.cell 0 (v := .int .u8 k) rfl; have b1_3_1 := B1xx.cell 1 (v := .int .i64 x) rfl; have b1_3_2 := B1xx.cell 2 (v := .int .i64 y) rfl; have b1_3_3 := B1xx.cell 3 (v := .int .u8 t) rfl; have b1_3_4 := B1xx.cell 4 (v := .int .i64 z) rfl))
  go_region_held2 (fun w' => w'.cell? ⟨w.heap.size, 0, none⟩ = some (.int .u8 k) ∧ w'.cell? ⟨w.heap.size, 1, none⟩ = some (.int .i64 x) ∧ w'.cell? ⟨w.heap.size, 2, none⟩ = some (.int .i64 y) ∧ w'.cell? ⟨w.heap.size, 3, none⟩ = some (.int .u8 t) ∧ w'.cell? ⟨w.heap.size, 4, none⟩ = some (.int .i64 z)) (go_keep) (first | (go_at_call 12; refine (checkC k x y t z ht _).mono ?_; rintro e w8 ⟨rfl, g8⟩; have BK8 := B1xx.dr.kept g8 (by simp); have G8 := gb_trans (gb_drew G3) g8; have u0 := BK8.cell 0 (v := .int .u8 k) rfl; have u1 := BK8.cell 1 (v := .int .i64 x) rfl; have u2 := BK8.cell 2 (v := .int .i64 y) rfl; have u3 := BK8.cell 3 (v := .int .u8 t) rfl; have u4 := BK8.cell 4 (v := .int .i64 z) rfl) | (go_at_call 13; refine (refCheckC k x y t z ht _).mono ?_; rintro e w9 ⟨rfl, g9⟩; have BK9 := BK8.kept g9 (by simp); have G9 := gb_trans G8 g9; have v0 := BK9.cell 0 (v := .int .u8 k) rfl; have v1 := BK9.cell 1 (v := .int .i64 x) rfl; have v2 := BK9.cell 2 (v := .int .i64 y) rfl; have v3 := BK9.cell 3 (v := .int .u8 t) rfl; have v4 := BK9.cell 4 (v := .int .i64 z) rfl))
  all_goals go_wp2
  all_goals go_ret
  all_goals exact ⟨rfl, by first | exact gb_below G9 | exact gb_below (gb_drewN G9 _)⟩
end Go.Proofs.YteegbhnfkcbnoaaDoor
