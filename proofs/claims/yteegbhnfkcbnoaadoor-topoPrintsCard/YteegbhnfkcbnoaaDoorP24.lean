/- What the document's Print answers; the statement TopoPrints answers true (its walk). -/
import Derived.Test.YteegbhnfkcbnoaaDoorP23
namespace Go.Proofs.YteegbhnfkcbnoaaDoor
open Go.RowKit
set_option linter.unusedVariables false
set_option linter.unusedSimpArgs false
set_option maxRecDepth 100000

theorem rtL_le (k t z i : Int) (hz : -9223372036854775808 ≤ z ∧ z ≤ 9223372036854775807) : (rtL k t z i).length ≤ 23 := by
  have := Lib.itoa_length_le z hz.1 hz.2
  unfold rtL
  repeat' split
  all_goals simp <;> omega

set_option maxHeartbeats 2000000 in
theorem rprint_no (k x y t z : Int) (w : World) (ht : 0 ≤ t) (hz : -9223372036854775808 ≤ z ∧ z ≤ 9223372036854775807) (h : ¬ Tp.chk k x y t z = 0) :
    Calls Tryd.prog 11 #[.agg #[.int .u8 k, .int .i64 x, .int .i64 y, .int .u8 t, .int .i64 z]] w fun e w' => e = .returned (.tuple #[.string (⟨#[]⟩), .int .i64 (Tp.chk k x y t z)]) ∧ w.grownBy w' none := by
  obtain ⟨W1, hW1, sz1, g1, B1⟩ := boxn w #[.int .u8 k, .int .i64 x, .int .i64 y, .int .u8 t, .int .i64 z] 23
  have c0 := B1.cell 0 (v := .int .u8 k) rfl
  have c1 := B1.cell 1 (v := .int .i64 x) rfl
  have c2 := B1.cell 2 (v := .int .i64 y) rfl
  have c3 := B1.cell 3 (v := .int .u8 t) rfl
  have c4 := B1.cell 4 (v := .int .i64 z) rfl
  go_enter Tryd.func11, Tryd.ntmps11
  go_wp2_with (first | (go_at_call 13; refine (refCheckC _ _ _ _ _ ht _).mono ?_; rintro e w2 ⟨rfl, g2⟩; have BT2 := B1.kept g2 (by simp); have G2 := gb_trans g1 g2; have d0 := BT2.cell 0 (v := .int .u8 k) rfl; have d1 := BT2.cell 1 (v := .int .i64 x) rfl; have d2 := BT2.cell 2 (v := .int .i64 y) rfl; have d3 := BT2.cell 3 (v := .int .u8 t) rfl; have d4 := BT2.cell 4 (v := .int .i64 z) rfl))
  go_ret2
  exact ⟨rfl, G2⟩

set_option maxHeartbeats 2000000 in
theorem rprint_z1 (x y t z : Int) (w : World) (ht : 0 ≤ t) (hz : -9223372036854775808 ≤ z ∧ z ≤ 9223372036854775807) (h : Tp.chk 1 x y t z = 0) (hx0 : (x == 0) = true) (hy0 : (y == 0) = true) :
    Calls Tryd.prog 11 #[.agg #[.int .u8 1, .int .i64 x, .int .i64 y, .int .u8 t, .int .i64 z]] w fun e w' => e = .returned (.tuple #[.string (Tp.tx [80]), .int .i64 0]) ∧ w.grownBy w' none := by
  have cg : (ByteArray.mk #[80, 84, 75, 67, 83]).extract 0 1 = ⟨#[80]⟩ := by decide
  obtain ⟨W1, hW1, sz1, g1, B1⟩ := boxn w #[.int .u8 1, .int .i64 x, .int .i64 y, .int .u8 t, .int .i64 z] 23
  have c0 := B1.cell 0 (v := .int .u8 1) rfl
  have c1 := B1.cell 1 (v := .int .i64 x) rfl
  have c2 := B1.cell 2 (v := .int .i64 y) rfl
  have c3 := B1.cell 3 (v := .int .u8 t) rfl
  have c4 := B1.cell 4 (v := .int .i64 z) rfl
  go_enter Tryd.func11, Tryd.ntmps11
  go_wp2_with (first | (go_at_call 13; refine (refCheckC _ _ _ _ _ ht _).mono ?_; rintro e w2 ⟨rfl, g2⟩; have BT2 := B1.kept g2 (by simp); have G2 := gb_trans g1 g2; have d0 := BT2.cell 0 (v := .int .u8 1) rfl; have d1 := BT2.cell 1 (v := .int .i64 x) rfl; have d2 := BT2.cell 2 (v := .int .i64 y) rfl; have d3 := BT2.cell 3 (v := .int .u8 t) rfl; have d4 := BT2.cell 4 (v := .int .i64 z) rfl))
  all_goals first | go_ret2 | (go_quiet (fail); go_wp2; go_ret2)
  all_goals exact ⟨rfl, by first | exact G2 | exact gb_drewN G2 _⟩

set_option maxHeartbeats 2000000 in
theorem rprint_z2 (x y t z : Int) (w : World) (ht : 0 ≤ t) (hz : -9223372036854775808 ≤ z ∧ z ≤ 9223372036854775807) (h : Tp.chk 2 x y t z = 0) (hx0 : (x == 0) = true) (hy0 : (y == 0) = true) :
    Calls Tryd.prog 11 #[.agg #[.int .u8 2, .int .i64 x, .int .i64 y, .int .u8 t, .int .i64 z]] w fun e w' => e = .returned (.tuple #[.string (Tp.tx [84]), .int .i64 0]) ∧ w.grownBy w' none := by
  have cg : (ByteArray.mk #[80, 84, 75, 67, 83]).extract 1 2 = ⟨#[84]⟩ := by decide
  obtain ⟨W1, hW1, sz1, g1, B1⟩ := boxn w #[.int .u8 2, .int .i64 x, .int .i64 y, .int .u8 t, .int .i64 z] 23
  have c0 := B1.cell 0 (v := .int .u8 2) rfl
  have c1 := B1.cell 1 (v := .int .i64 x) rfl
  have c2 := B1.cell 2 (v := .int .i64 y) rfl
  have c3 := B1.cell 3 (v := .int .u8 t) rfl
  have c4 := B1.cell 4 (v := .int .i64 z) rfl
  go_enter Tryd.func11, Tryd.ntmps11
  go_wp2_with (first | (go_at_call 13; refine (refCheckC _ _ _ _ _ ht _).mono ?_; rintro e w2 ⟨rfl, g2⟩; have BT2 := B1.kept g2 (by simp); have G2 := gb_trans g1 g2; have d0 := BT2.cell 0 (v := .int .u8 2) rfl; have d1 := BT2.cell 1 (v := .int .i64 x) rfl; have d2 := BT2.cell 2 (v := .int .i64 y) rfl; have d3 := BT2.cell 3 (v := .int .u8 t) rfl; have d4 := BT2.cell 4 (v := .int .i64 z) rfl))
  all_goals first | go_ret2 | (go_quiet (fail); go_wp2; go_ret2)
  all_goals exact ⟨rfl, by first | exact G2 | exact gb_drewN G2 _⟩

set_option maxHeartbeats 2000000 in
theorem rprint_5 (x y t z : Int) (w : World) (ht : 0 ≤ t) (hz : -9223372036854775808 ≤ z ∧ z ≤ 9223372036854775807) (h : Tp.chk 5 x y t z = 0) (hx : -9223372036854775808 ≤ x ∧ x ≤ 9223372036854775807) (hx0 : (x == 0) = false) :
    Calls Tryd.prog 11 #[.agg #[.int .u8 5, .int .i64 x, .int .i64 y, .int .u8 t, .int .i64 z]] w fun e w' => e = .returned (.tuple #[.string (Tp.tx (83 :: Lib.itoa x)), .int .i64 0]) ∧ w.grownBy w' none := by
  have cg : (ByteArray.mk #[80, 84, 75, 67, 83]).extract 4 5 = ⟨#[83]⟩ := by decide
  have hl : ¬ 9223372036854775807 < 1 + (Lib.itoa x).length := by
    have := Lib.itoa_length_le x hx.1 hx.2
    omega
  obtain ⟨W1, hW1, sz1, g1, B1⟩ := boxn w #[.int .u8 5, .int .i64 x, .int .i64 y, .int .u8 t, .int .i64 z] 23
  have c0 := B1.cell 0 (v := .int .u8 5) rfl
  have c1 := B1.cell 1 (v := .int .i64 x) rfl
  have c2 := B1.cell 2 (v := .int .i64 y) rfl
  have c3 := B1.cell 3 (v := .int .u8 t) rfl
  have c4 := B1.cell 4 (v := .int .i64 z) rfl
  go_enter Tryd.func11, Tryd.ntmps11
  go_wp2_with (first | (go_at_call 13; refine (refCheckC _ _ _ _ _ ht _).mono ?_; rintro e w2 ⟨rfl, g2⟩; have BT2 := B1.kept g2 (by simp); have G2 := gb_trans g1 g2; have d0 := BT2.cell 0 (v := .int .u8 5) rfl; have d1 := BT2.cell 1 (v := .int .i64 x) rfl; have d2 := BT2.cell 2 (v := .int .i64 y) rfl; have d3 := BT2.cell 3 (v := .int .u8 t) rfl; have d4 := BT2.cell 4 (v := .int .i64 z) rfl) | (go_at_call 27; refine (rTextC _ _ hx).mono ?_; rintro e w4 ⟨rfl, g4⟩; have G4 := gb_trans G2 g4))
  go_ret2
  exact ⟨ret_si (tx_app [83] _) rfl, G4⟩

set_option maxHeartbeats 2000000 in
theorem rprint_g1x (x y t z : Int) (w : World) (ht : 0 ≤ t) (hz : -9223372036854775808 ≤ z ∧ z ≤ 9223372036854775807) (h : Tp.chk 1 x y t z = 0) (hx : -9223372036854775808 ≤ x ∧ x ≤ 9223372036854775807) (hy : -9223372036854775808 ≤ y ∧ y ≤ 9223372036854775807) (hx0 : (x == 0) = false) :
    Calls Tryd.prog 11 #[.agg #[.int .u8 1, .int .i64 x, .int .i64 y, .int .u8 t, .int .i64 z]] w fun e w' => e = .returned (.tuple #[.string (Tp.tx (80 :: (Lib.itoa x ++ (rtL 1 t z 1 ++ (44 :: (Lib.itoa y ++ rtL 1 t z 2)))))), .int .i64 0]) ∧ w.grownBy w' none := by
  have cg : (ByteArray.mk #[80, 84, 75, 67, 83]).extract 0 1 = ⟨#[80]⟩ := by decide
  have l1 := Lib.itoa_length_le x hx.1 hx.2
  have l2 := Lib.itoa_length_le y hy.1 hy.2
  have l3 := rtL_le 1 t z 1 hz
  have l4 := rtL_le 1 t z 2 hz
  have hz0 : ¬ 9223372036854775807 < 1 + (Lib.itoa x).length := by omega
  have hz1 : ¬ 9223372036854775807 < 1 + (Lib.itoa x).length + (rtL 1 t z 1).length := by omega
  have hz2 : ¬ 9223372036854775807 < 1 + (Lib.itoa x).length + (rtL 1 t z 1).length + 1 := by omega
  have hz3 : ¬ 9223372036854775807 < 1 + (Lib.itoa x).length + (rtL 1 t z 1).length + 1 + (Lib.itoa y).length := by omega
  have hz4 : ¬ 9223372036854775807 < 1 + (Lib.itoa x).length + (rtL 1 t z 1).length + 1 + (Lib.itoa y).length + (rtL 1 t z 2).length := by omega
  clear l1 l2 l3 l4
  obtain ⟨W1, hW1, sz1, g1, B1⟩ := boxn w #[.int .u8 1, .int .i64 x, .int .i64 y, .int .u8 t, .int .i64 z] 23
  have c0 := B1.cell 0 (v := .int .u8 1) rfl
  have c1 := B1.cell 1 (v := .int .i64 x) rfl
  have c2 := B1.cell 2 (v := .int .i64 y) rfl
  have c3 := B1.cell 3 (v := .int .u8 t) rfl
  have c4 := B1.cell 4 (v := .int .i64 z) rfl
  go_enter Tryd.func11, Tryd.ntmps11
  go_wp2_with (first | (go_at_call 13; refine (refCheckC _ _ _ _ _ ht _).mono ?_; rintro e w2 ⟨rfl, g2⟩; have BT2 := B1.kept g2 (by simp); have G2 := gb_trans g1 g2; have d0 := BT2.cell 0 (v := .int .u8 1) rfl; have d1 := BT2.cell 1 (v := .int .i64 x) rfl; have d2 := BT2.cell 2 (v := .int .i64 y) rfl; have d3 := BT2.cell 3 (v := .int .u8 t) rfl; have d4 := BT2.cell 4 (v := .int .i64 z) rfl))
  go_region_held2 (fun w' => w'.cell? ⟨w.heap.size, 0, none⟩ = some (.int .u8 1) ∧ w'.cell? ⟨w.heap.size, 1, none⟩ = some (.int .i64 x) ∧ w'.cell? ⟨w.heap.size, 2, none⟩ = some (.int .i64 y) ∧ w'.cell? ⟨w.heap.size, 3, none⟩ = some (.int .u8 t) ∧ w'.cell? ⟨w.heap.size, 4, none⟩ = some (.int .i64 z)) (go_keep) (first | (go_at_call_of 27 (Value.int IntKind.i64 x); (fail_if_success (guard_hyp g4)); refine (rTextC x _ hx).mono ?_; rintro e w4 ⟨rfl, g4⟩; have BT4 := BT2.dr.kept g4 (by simp); have G4 := gb_trans (gb_drew G2) g4; have f0 := BT4.cell 0 (v := .int .u8 1) rfl; have f1 := BT4.cell 1 (v := .int .i64 x) rfl; have f2 := BT4.cell 2 (v := .int .i64 y) rfl; have f3 := BT4.cell 3 (v := .int .u8 t) rfl; have f4 := BT4.cell 4 (v := .int .i64 z) rfl) | (go_at_call_of 28 (Value.int IntKind.u8 1); (fail_if_success (guard_hyp g5)); refine (rt1C _ _ _ _ _ _ hz).mono ?_; rintro e w5 ⟨rfl, g5⟩; have BT5 := BT4.kept g5 (by simp); have G5 := gb_trans G4 g5; have i0 := BT5.cell 0 (v := .int .u8 1) rfl; have i1 := BT5.cell 1 (v := .int .i64 x) rfl; have i2 := BT5.cell 2 (v := .int .i64 y) rfl; have i3 := BT5.cell 3 (v := .int .u8 t) rfl; have i4 := BT5.cell 4 (v := .int .i64 z) rfl) | (go_at_call_of 27 (Value.int IntKind.i64 y); refine (rTextC y _ hy).mono ?_; rintro e w6 ⟨rfl, g6⟩; have BT6 := BT5.kept g6 (by simp); have G6 := gb_trans G5 g6; have j0 := BT6.cell 0 (v := .int .u8 1) rfl; have j1 := BT6.cell 1 (v := .int .i64 x) rfl; have j2 := BT6.cell 2 (v := .int .i64 y) rfl; have j3 := BT6.cell 3 (v := .int .u8 t) rfl; have j4 := BT6.cell 4 (v := .int .i64 z) rfl) | (go_at_call_of 28 (Value.int IntKind.u8 2); refine (rt2C _ _ _ _ _ _ hz).mono ?_; rintro e w7 ⟨rfl, g7⟩; have BT7 := BT6.kept g7 (by simp); have G7 := gb_trans G6 g7; have m0 := BT7.cell 0 (v := .int .u8 1) rfl; have m1 := BT7.cell 1 (v := .int .i64 x) rfl; have m2 := BT7.cell 2 (v := .int .i64 y) rfl; have m3 := BT7.cell 3 (v := .int .u8 t) rfl; have m4 := BT7.cell 4 (v := .int .i64 z) rfl))
  all_goals go_wp2
  all_goals go_ret2
  all_goals refine ⟨ret_si ?_ rfl, by first | exact G7 | exact gb_drewN G7 _⟩
  all_goals rw [show (⟨#[80]⟩ : ByteArray) = Tp.tx [80] from rfl, show (⟨#[44]⟩ : ByteArray) = Tp.tx [44] from rfl]
  all_goals simp only [tx_app]
  all_goals simp

set_option maxHeartbeats 2000000 in
theorem rprint_g1y (x y t z : Int) (w : World) (ht : 0 ≤ t) (hz : -9223372036854775808 ≤ z ∧ z ≤ 9223372036854775807) (h : Tp.chk 1 x y t z = 0) (hx : -9223372036854775808 ≤ x ∧ x ≤ 9223372036854775807) (hy : -9223372036854775808 ≤ y ∧ y ≤ 9223372036854775807) (hx0 : (x == 0) = true) (hy0 : (y == 0) = false) :
    Calls Tryd.prog 11 #[.agg #[.int .u8 1, .int .i64 x, .int .i64 y, .int .u8 t, .int .i64 z]] w fun e w' => e = .returned (.tuple #[.string (Tp.tx (80 :: (Lib.itoa x ++ (rtL 1 t z 1 ++ (44 :: (Lib.itoa y ++ rtL 1 t z 2)))))), .int .i64 0]) ∧ w.grownBy w' none := by
  have cg : (ByteArray.mk #[80, 84, 75, 67, 83]).extract 0 1 = ⟨#[80]⟩ := by decide
  have l1 := Lib.itoa_length_le x hx.1 hx.2
  have l2 := Lib.itoa_length_le y hy.1 hy.2
  have l3 := rtL_le 1 t z 1 hz
  have l4 := rtL_le 1 t z 2 hz
  have hz0 : ¬ 9223372036854775807 < 1 + (Lib.itoa x).length := by omega
  have hz1 : ¬ 9223372036854775807 < 1 + (Lib.itoa x).length + (rtL 1 t z 1).length := by omega
  have hz2 : ¬ 9223372036854775807 < 1 + (Lib.itoa x).length + (rtL 1 t z 1).length + 1 := by omega
  have hz3 : ¬ 9223372036854775807 < 1 + (Lib.itoa x).length + (rtL 1 t z 1).length + 1 + (Lib.itoa y).length := by omega
  have hz4 : ¬ 9223372036854775807 < 1 + (Lib.itoa x).length + (rtL 1 t z 1).length + 1 + (Lib.itoa y).length + (rtL 1 t z 2).length := by omega
  clear l1 l2 l3 l4
  obtain ⟨W1, hW1, sz1, g1, B1⟩ := boxn w #[.int .u8 1, .int .i64 x, .int .i64 y, .int .u8 t, .int .i64 z] 23
  have c0 := B1.cell 0 (v := .int .u8 1) rfl
  have c1 := B1.cell 1 (v := .int .i64 x) rfl
  have c2 := B1.cell 2 (v := .int .i64 y) rfl
  have c3 := B1.cell 3 (v := .int .u8 t) rfl
  have c4 := B1.cell 4 (v := .int .i64 z) rfl
  go_enter Tryd.func11, Tryd.ntmps11
  go_wp2_with (first | (go_at_call 13; refine (refCheckC _ _ _ _ _ ht _).mono ?_; rintro e w2 ⟨rfl, g2⟩; have BT2 := B1.kept g2 (by simp); have G2 := gb_trans g1 g2; have d0 := BT2.cell 0 (v := .int .u8 1) rfl; have d1 := BT2.cell 1 (v := .int .i64 x) rfl; have d2 := BT2.cell 2 (v := .int .i64 y) rfl; have d3 := BT2.cell 3 (v := .int .u8 t) rfl; have d4 := BT2.cell 4 (v := .int .i64 z) rfl))
  go_region_held2 (fun w' => w'.cell? ⟨w.heap.size, 0, none⟩ = some (.int .u8 1) ∧ w'.cell? ⟨w.heap.size, 1, none⟩ = some (.int .i64 x) ∧ w'.cell? ⟨w.heap.size, 2, none⟩ = some (.int .i64 y) ∧ w'.cell? ⟨w.heap.size, 3, none⟩ = some (.int .u8 t) ∧ w'.cell? ⟨w.heap.size, 4, none⟩ = some (.int .i64 z)) (go_keep) (first | (go_at_call_of 27 (Value.int IntKind.i64 x); (fail_if_success (guard_hyp g4)); refine (rTextC x _ hx).mono ?_; rintro e w4 ⟨rfl, g4⟩; have BT4 := BT2.dr.kept g4 (by simp); have G4 := gb_trans (gb_drew G2) g4; have f0 := BT4.cell 0 (v := .int .u8 1) rfl; have f1 := BT4.cell 1 (v := .int .i64 x) rfl; have f2 := BT4.cell 2 (v := .int .i64 y) rfl; have f3 := BT4.cell 3 (v := .int .u8 t) rfl; have f4 := BT4.cell 4 (v := .int .i64 z) rfl) | (go_at_call_of 28 (Value.int IntKind.u8 1); (fail_if_success (guard_hyp g5)); refine (rt1C _ _ _ _ _ _ hz).mono ?_; rintro e w5 ⟨rfl, g5⟩; have BT5 := BT4.kept g5 (by simp); have G5 := gb_trans G4 g5; have i0 := BT5.cell 0 (v := .int .u8 1) rfl; have i1 := BT5.cell 1 (v := .int .i64 x) rfl; have i2 := BT5.cell 2 (v := .int .i64 y) rfl; have i3 := BT5.cell 3 (v := .int .u8 t) rfl; have i4 := BT5.cell 4 (v := .int .i64 z) rfl) | (go_at_call_of 27 (Value.int IntKind.i64 y); refine (rTextC y _ hy).mono ?_; rintro e w6 ⟨rfl, g6⟩; have BT6 := BT5.kept g6 (by simp); have G6 := gb_trans G5 g6; have j0 := BT6.cell 0 (v := .int .u8 1) rfl; have j1 := BT6.cell 1 (v := .int .i64 x) rfl; have j2 := BT6.cell 2 (v := .int .i64 y) rfl; have j3 := BT6.cell 3 (v := .int .u8 t) rfl; have j4 := BT6.cell 4 (v := .int .i64 z) rfl) | (go_at_call_of 28 (Value.int IntKind.u8 2); refine (rt2C _ _ _ _ _ _ hz).mono ?_; rintro e w7 ⟨rfl, g7⟩; have BT7 := BT6.kept g7 (by simp); have G7 := gb_trans G6 g7; have m0 := BT7.cell 0 (v := .int .u8 1) rfl; have m1 := BT7.cell 1 (v := .int .i64 x) rfl; have m2 := BT7.cell 2 (v := .int .i64 y) rfl; have m3 := BT7.cell 3 (v := .int .u8 t) rfl; have m4 := BT7.cell 4 (v := .int .i64 z) rfl))
  all_goals go_wp2
  all_goals go_ret2
  all_goals refine ⟨ret_si ?_ rfl, by first | exact G7 | exact gb_drewN G7 _⟩
  all_goals rw [show (⟨#[80]⟩ : ByteArray) = Tp.tx [80] from rfl, show (⟨#[44]⟩ : ByteArray) = Tp.tx [44] from rfl]
  all_goals simp only [tx_app]
  all_goals simp

set_option maxHeartbeats 2000000 in
theorem rprint_g2x (x y t z : Int) (w : World) (ht : 0 ≤ t) (hz : -9223372036854775808 ≤ z ∧ z ≤ 9223372036854775807) (h : Tp.chk 2 x y t z = 0) (hx : -9223372036854775808 ≤ x ∧ x ≤ 9223372036854775807) (hy : -9223372036854775808 ≤ y ∧ y ≤ 9223372036854775807) (hx0 : (x == 0) = false) :
    Calls Tryd.prog 11 #[.agg #[.int .u8 2, .int .i64 x, .int .i64 y, .int .u8 t, .int .i64 z]] w fun e w' => e = .returned (.tuple #[.string (Tp.tx (84 :: (Lib.itoa x ++ (rtL 2 t z 1 ++ (44 :: (Lib.itoa y ++ rtL 2 t z 2)))))), .int .i64 0]) ∧ w.grownBy w' none := by
  have cg : (ByteArray.mk #[80, 84, 75, 67, 83]).extract 1 2 = ⟨#[84]⟩ := by decide
  have l1 := Lib.itoa_length_le x hx.1 hx.2
  have l2 := Lib.itoa_length_le y hy.1 hy.2
  have l3 := rtL_le 2 t z 1 hz
  have l4 := rtL_le 2 t z 2 hz
  have hz0 : ¬ 9223372036854775807 < 1 + (Lib.itoa x).length := by omega
  have hz1 : ¬ 9223372036854775807 < 1 + (Lib.itoa x).length + (rtL 2 t z 1).length := by omega
  have hz2 : ¬ 9223372036854775807 < 1 + (Lib.itoa x).length + (rtL 2 t z 1).length + 1 := by omega
  have hz3 : ¬ 9223372036854775807 < 1 + (Lib.itoa x).length + (rtL 2 t z 1).length + 1 + (Lib.itoa y).length := by omega
  have hz4 : ¬ 9223372036854775807 < 1 + (Lib.itoa x).length + (rtL 2 t z 1).length + 1 + (Lib.itoa y).length + (rtL 2 t z 2).length := by omega
  clear l1 l2 l3 l4
  obtain ⟨W1, hW1, sz1, g1, B1⟩ := boxn w #[.int .u8 2, .int .i64 x, .int .i64 y, .int .u8 t, .int .i64 z] 23
  have c0 := B1.cell 0 (v := .int .u8 2) rfl
  have c1 := B1.cell 1 (v := .int .i64 x) rfl
  have c2 := B1.cell 2 (v := .int .i64 y) rfl
  have c3 := B1.cell 3 (v := .int .u8 t) rfl
  have c4 := B1.cell 4 (v := .int .i64 z) rfl
  go_enter Tryd.func11, Tryd.ntmps11
  go_wp2_with (first | (go_at_call 13; refine (refCheckC _ _ _ _ _ ht _).mono ?_; rintro e w2 ⟨rfl, g2⟩; have BT2 := B1.kept g2 (by simp); have G2 := gb_trans g1 g2; have d0 := BT2.cell 0 (v := .int .u8 2) rfl; have d1 := BT2.cell 1 (v := .int .i64 x) rfl; have d2 := BT2.cell 2 (v := .int .i64 y) rfl; have d3 := BT2.cell 3 (v := .int .u8 t) rfl; have d4 := BT2.cell 4 (v := .int .i64 z) rfl))
  go_region_held2 (fun w' => w'.cell? ⟨w.heap.size, 0, none⟩ = some (.int .u8 2) ∧ w'.cell? ⟨w.heap.size, 1, none⟩ = some (.int .i64 x) ∧ w'.cell? ⟨w.heap.size, 2, none⟩ = some (.int .i64 y) ∧ w'.cell? ⟨w.heap.size, 3, none⟩ = some (.int .u8 t) ∧ w'.cell? ⟨w.heap.size, 4, none⟩ = some (.int .i64 z)) (go_keep) (first | (go_at_call_of 27 (Value.int IntKind.i64 x); (fail_if_success (guard_hyp g4)); refine (rTextC x _ hx).mono ?_; rintro e w4 ⟨rfl, g4⟩; have BT4 := BT2.dr.kept g4 (by simp); have G4 := gb_trans (gb_drew G2) g4; have f0 := BT4.cell 0 (v := .int .u8 2) rfl; have f1 := BT4.cell 1 (v := .int .i64 x) rfl; have f2 := BT4.cell 2 (v := .int .i64 y) rfl; have f3 := BT4.cell 3 (v := .int .u8 t) rfl; have f4 := BT4.cell 4 (v := .int .i64 z) rfl) | (go_at_call_of 28 (Value.int IntKind.u8 1); (fail_if_success (guard_hyp g5)); refine (rt1C _ _ _ _ _ _ hz).mono ?_; rintro e w5 ⟨rfl, g5⟩; have BT5 := BT4.kept g5 (by simp); have G5 := gb_trans G4 g5; have i0 := BT5.cell 0 (v := .int .u8 2) rfl; have i1 := BT5.cell 1 (v := .int .i64 x) rfl; have i2 := BT5.cell 2 (v := .int .i64 y) rfl; have i3 := BT5.cell 3 (v := .int .u8 t) rfl; have i4 := BT5.cell 4 (v := .int .i64 z) rfl) | (go_at_call_of 27 (Value.int IntKind.i64 y); refine (rTextC y _ hy).mono ?_; rintro e w6 ⟨rfl, g6⟩; have BT6 := BT5.kept g6 (by simp); have G6 := gb_trans G5 g6; have j0 := BT6.cell 0 (v := .int .u8 2) rfl; have j1 := BT6.cell 1 (v := .int .i64 x) rfl; have j2 := BT6.cell 2 (v := .int .i64 y) rfl; have j3 := BT6.cell 3 (v := .int .u8 t) rfl; have j4 := BT6.cell 4 (v := .int .i64 z) rfl) | (go_at_call_of 28 (Value.int IntKind.u8 2); refine (rt2C _ _ _ _ _ _ hz).mono ?_; rintro e w7 ⟨rfl, g7⟩; have BT7 := BT6.kept g7 (by simp); have G7 := gb_trans G6 g7; have m0 := BT7.cell 0 (v := .int .u8 2) rfl; have m1 := BT7.cell 1 (v := .int .i64 x) rfl; have m2 := BT7.cell 2 (v := .int .i64 y) rfl; have m3 := BT7.cell 3 (v := .int .u8 t) rfl; have m4 := BT7.cell 4 (v := .int .i64 z) rfl))
  all_goals go_wp2
  all_goals go_ret2
  all_goals refine ⟨ret_si ?_ rfl, by first | exact G7 | exact gb_drewN G7 _⟩
  all_goals rw [show (⟨#[84]⟩ : ByteArray) = Tp.tx [84] from rfl, show (⟨#[44]⟩ : ByteArray) = Tp.tx [44] from rfl]
  all_goals simp only [tx_app]
  all_goals simp

set_option maxHeartbeats 2000000 in
theorem rprint_g2y (x y t z : Int) (w : World) (ht : 0 ≤ t) (hz : -9223372036854775808 ≤ z ∧ z ≤ 9223372036854775807) (h : Tp.chk 2 x y t z = 0) (hx : -9223372036854775808 ≤ x ∧ x ≤ 9223372036854775807) (hy : -9223372036854775808 ≤ y ∧ y ≤ 9223372036854775807) (hx0 : (x == 0) = true) (hy0 : (y == 0) = false) :
    Calls Tryd.prog 11 #[.agg #[.int .u8 2, .int .i64 x, .int .i64 y, .int .u8 t, .int .i64 z]] w fun e w' => e = .returned (.tuple #[.string (Tp.tx (84 :: (Lib.itoa x ++ (rtL 2 t z 1 ++ (44 :: (Lib.itoa y ++ rtL 2 t z 2)))))), .int .i64 0]) ∧ w.grownBy w' none := by
  have cg : (ByteArray.mk #[80, 84, 75, 67, 83]).extract 1 2 = ⟨#[84]⟩ := by decide
  have l1 := Lib.itoa_length_le x hx.1 hx.2
  have l2 := Lib.itoa_length_le y hy.1 hy.2
  have l3 := rtL_le 2 t z 1 hz
  have l4 := rtL_le 2 t z 2 hz
  have hz0 : ¬ 9223372036854775807 < 1 + (Lib.itoa x).length := by omega
  have hz1 : ¬ 9223372036854775807 < 1 + (Lib.itoa x).length + (rtL 2 t z 1).length := by omega
  have hz2 : ¬ 9223372036854775807 < 1 + (Lib.itoa x).length + (rtL 2 t z 1).length + 1 := by omega
  have hz3 : ¬ 9223372036854775807 < 1 + (Lib.itoa x).length + (rtL 2 t z 1).length + 1 + (Lib.itoa y).length := by omega
  have hz4 : ¬ 9223372036854775807 < 1 + (Lib.itoa x).length + (rtL 2 t z 1).length + 1 + (Lib.itoa y).length + (rtL 2 t z 2).length := by omega
  clear l1 l2 l3 l4
  obtain ⟨W1, hW1, sz1, g1, B1⟩ := boxn w #[.int .u8 2, .int .i64 x, .int .i64 y, .int .u8 t, .int .i64 z] 23
  have c0 := B1.cell 0 (v := .int .u8 2) rfl
  have c1 := B1.cell 1 (v := .int .i64 x) rfl
  have c2 := B1.cell 2 (v := .int .i64 y) rfl
  have c3 := B1.cell 3 (v := .int .u8 t) rfl
  have c4 := B1.cell 4 (v := .int .i64 z) rfl
  go_enter Tryd.func11, Tryd.ntmps11
  go_wp2_with (first | (go_at_call 13; refine (refCheckC _ _ _ _ _ ht _).mono ?_; rintro e w2 ⟨rfl, g2⟩; have BT2 := B1.kept g2 (by simp); have G2 := gb_trans g1 g2; have d0 := BT2.cell 0 (v := .int .u8 2) rfl; have d1 := BT2.cell 1 (v := .int .i64 x) rfl; have d2 := BT2.cell 2 (v := .int .i64 y) rfl; have d3 := BT2.cell 3 (v := .int .u8 t) rfl; have d4 := BT2.cell 4 (v := .int .i64 z) rfl))
  go_region_held2 (fun w' => w'.cell? ⟨w.heap.size, 0, none⟩ = some (.int .u8 2) ∧ w'.cell? ⟨w.heap.size, 1, none⟩ = some (.int .i64 x) ∧ w'.cell? ⟨w.heap.size, 2, none⟩ = some (.int .i64 y) ∧ w'.cell? ⟨w.heap.size, 3, none⟩ = some (.int .u8 t) ∧ w'.cell? ⟨w.heap.size, 4, none⟩ = some (.int .i64 z)) (go_keep) (first | (go_at_call_of 27 (Value.int IntKind.i64 x); (fail_if_success (guard_hyp g4)); refine (rTextC x _ hx).mono ?_; rintro e w4 ⟨rfl, g4⟩; have BT4 := BT2.dr.kept g4 (by simp); have G4 := gb_trans (gb_drew G2) g4; have f0 := BT4.cell 0 (v := .int .u8 2) rfl; have f1 := BT4.cell 1 (v := .int .i64 x) rfl; have f2 := BT4.cell 2 (v := .int .i64 y) rfl; have f3 := BT4.cell 3 (v := .int .u8 t) rfl; have f4 := BT4.cell 4 (v := .int .i64 z) rfl) | (go_at_call_of 28 (Value.int IntKind.u8 1); (fail_if_success (guard_hyp g5)); refine (rt1C _ _ _ _ _ _ hz).mono ?_; rintro e w5 ⟨rfl, g5⟩; have BT5 := BT4.kept g5 (by simp); have G5 := gb_trans G4 g5; have i0 := BT5.cell 0 (v := .int .u8 2) rfl; have i1 := BT5.cell 1 (v := .int .i64 x) rfl; have i2 := BT5.cell 2 (v := .int .i64 y) rfl; have i3 := BT5.cell 3 (v := .int .u8 t) rfl; have i4 := BT5.cell 4 (v := .int .i64 z) rfl) | (go_at_call_of 27 (Value.int IntKind.i64 y); refine (rTextC y _ hy).mono ?_; rintro e w6 ⟨rfl, g6⟩; have BT6 := BT5.kept g6 (by simp); have G6 := gb_trans G5 g6; have j0 := BT6.cell 0 (v := .int .u8 2) rfl; have j1 := BT6.cell 1 (v := .int .i64 x) rfl; have j2 := BT6.cell 2 (v := .int .i64 y) rfl; have j3 := BT6.cell 3 (v := .int .u8 t) rfl; have j4 := BT6.cell 4 (v := .int .i64 z) rfl) | (go_at_call_of 28 (Value.int IntKind.u8 2); refine (rt2C _ _ _ _ _ _ hz).mono ?_; rintro e w7 ⟨rfl, g7⟩; have BT7 := BT6.kept g7 (by simp); have G7 := gb_trans G6 g7; have m0 := BT7.cell 0 (v := .int .u8 2) rfl; have m1 := BT7.cell 1 (v := .int .i64 x) rfl; have m2 := BT7.cell 2 (v := .int .i64 y) rfl; have m3 := BT7.cell 3 (v := .int .u8 t) rfl; have m4 := BT7.cell 4 (v := .int .i64 z) rfl))
  all_goals go_wp2
  all_goals go_ret2
  all_goals refine ⟨ret_si ?_ rfl, by first | exact G7 | exact gb_drewN G7 _⟩
  all_goals rw [show (⟨#[84]⟩ : ByteArray) = Tp.tx [84] from rfl, show (⟨#[44]⟩ : ByteArray) = Tp.tx [44] from rfl]
  all_goals simp only [tx_app]
  all_goals simp

set_option maxHeartbeats 2000000 in
theorem rprint_g3x (x y t z : Int) (w : World) (ht : 0 ≤ t) (hz : -9223372036854775808 ≤ z ∧ z ≤ 9223372036854775807) (h : Tp.chk 3 x y t z = 0) (hx : -9223372036854775808 ≤ x ∧ x ≤ 9223372036854775807) (hy : -9223372036854775808 ≤ y ∧ y ≤ 9223372036854775807) (hx0 : (x == 0) = false) :
    Calls Tryd.prog 11 #[.agg #[.int .u8 3, .int .i64 x, .int .i64 y, .int .u8 t, .int .i64 z]] w fun e w' => e = .returned (.tuple #[.string (Tp.tx (75 :: (Lib.itoa x ++ (rtL 3 t z 1 ++ (44 :: (Lib.itoa y ++ rtL 3 t z 2)))))), .int .i64 0]) ∧ w.grownBy w' none := by
  have cg : (ByteArray.mk #[80, 84, 75, 67, 83]).extract 2 3 = ⟨#[75]⟩ := by decide
  have l1 := Lib.itoa_length_le x hx.1 hx.2
  have l2 := Lib.itoa_length_le y hy.1 hy.2
  have l3 := rtL_le 3 t z 1 hz
  have l4 := rtL_le 3 t z 2 hz
  have hz0 : ¬ 9223372036854775807 < 1 + (Lib.itoa x).length := by omega
  have hz1 : ¬ 9223372036854775807 < 1 + (Lib.itoa x).length + (rtL 3 t z 1).length := by omega
  have hz2 : ¬ 9223372036854775807 < 1 + (Lib.itoa x).length + (rtL 3 t z 1).length + 1 := by omega
  have hz3 : ¬ 9223372036854775807 < 1 + (Lib.itoa x).length + (rtL 3 t z 1).length + 1 + (Lib.itoa y).length := by omega
  have hz4 : ¬ 9223372036854775807 < 1 + (Lib.itoa x).length + (rtL 3 t z 1).length + 1 + (Lib.itoa y).length + (rtL 3 t z 2).length := by omega
  clear l1 l2 l3 l4
  obtain ⟨W1, hW1, sz1, g1, B1⟩ := boxn w #[.int .u8 3, .int .i64 x, .int .i64 y, .int .u8 t, .int .i64 z] 23
  have c0 := B1.cell 0 (v := .int .u8 3) rfl
  have c1 := B1.cell 1 (v := .int .i64 x) rfl
  have c2 := B1.cell 2 (v := .int .i64 y) rfl
  have c3 := B1.cell 3 (v := .int .u8 t) rfl
  have c4 := B1.cell 4 (v := .int .i64 z) rfl
  go_enter Tryd.func11, Tryd.ntmps11
  go_wp2_with (first | (go_at_call 13; refine (refCheckC _ _ _ _ _ ht _).mono ?_; rintro e w2 ⟨rfl, g2⟩; have BT2 := B1.kept g2 (by simp); have G2 := gb_trans g1 g2; have d0 := BT2.cell 0 (v := .int .u8 3) rfl; have d1 := BT2.cell 1 (v := .int .i64 x) rfl; have d2 := BT2.cell 2 (v := .int .i64 y) rfl; have d3 := BT2.cell 3 (v := .int .u8 t) rfl; have d4 := BT2.cell 4 (v := .int .i64 z) rfl))
  go_region_held2 (fun w' => w'.cell? ⟨w.heap.size, 0, none⟩ = some (.int .u8 3) ∧ w'.cell? ⟨w.heap.size, 1, none⟩ = some (.int .i64 x) ∧ w'.cell? ⟨w.heap.size, 2, none⟩ = some (.int .i64 y) ∧ w'.cell? ⟨w.heap.size, 3, none⟩ = some (.int .u8 t) ∧ w'.cell? ⟨w.heap.size, 4, none⟩ = some (.int .i64 z)) (go_keep) (first | (go_at_call_of 27 (Value.int IntKind.i64 x); (fail_if_success (guard_hyp g4)); refine (rTextC x _ hx).mono ?_; rintro e w4 ⟨rfl, g4⟩; have BT4 := BT2.dr.kept g4 (by simp); have G4 := gb_trans (gb_drew G2) g4; have f0 := BT4.cell 0 (v := .int .u8 3) rfl; have f1 := BT4.cell 1 (v := .int .i64 x) rfl; have f2 := BT4.cell 2 (v := .int .i64 y) rfl; have f3 := BT4.cell 3 (v := .int .u8 t) rfl; have f4 := BT4.cell 4 (v := .int .i64 z) rfl) | (go_at_call_of 28 (Value.int IntKind.u8 1); (fail_if_success (guard_hyp g5)); refine (rt1C _ _ _ _ _ _ hz).mono ?_; rintro e w5 ⟨rfl, g5⟩; have BT5 := BT4.kept g5 (by simp); have G5 := gb_trans G4 g5; have i0 := BT5.cell 0 (v := .int .u8 3) rfl; have i1 := BT5.cell 1 (v := .int .i64 x) rfl; have i2 := BT5.cell 2 (v := .int .i64 y) rfl; have i3 := BT5.cell 3 (v := .int .u8 t) rfl; have i4 := BT5.cell 4 (v := .int .i64 z) rfl) | (go_at_call_of 27 (Value.int IntKind.i64 y); refine (rTextC y _ hy).mono ?_; rintro e w6 ⟨rfl, g6⟩; have BT6 := BT5.kept g6 (by simp); have G6 := gb_trans G5 g6; have j0 := BT6.cell 0 (v := .int .u8 3) rfl; have j1 := BT6.cell 1 (v := .int .i64 x) rfl; have j2 := BT6.cell 2 (v := .int .i64 y) rfl; have j3 := BT6.cell 3 (v := .int .u8 t) rfl; have j4 := BT6.cell 4 (v := .int .i64 z) rfl) | (go_at_call_of 28 (Value.int IntKind.u8 2); refine (rt2C _ _ _ _ _ _ hz).mono ?_; rintro e w7 ⟨rfl, g7⟩; have BT7 := BT6.kept g7 (by simp); have G7 := gb_trans G6 g7; have m0 := BT7.cell 0 (v := .int .u8 3) rfl; have m1 := BT7.cell 1 (v := .int .i64 x) rfl; have m2 := BT7.cell 2 (v := .int .i64 y) rfl; have m3 := BT7.cell 3 (v := .int .u8 t) rfl; have m4 := BT7.cell 4 (v := .int .i64 z) rfl))
  all_goals go_wp2
  all_goals go_ret2
  all_goals refine ⟨ret_si ?_ rfl, by first | exact G7 | exact gb_drewN G7 _⟩
  all_goals rw [show (⟨#[75]⟩ : ByteArray) = Tp.tx [75] from rfl, show (⟨#[44]⟩ : ByteArray) = Tp.tx [44] from rfl]
  all_goals simp only [tx_app]
  all_goals simp

set_option maxHeartbeats 2000000 in
theorem rprint_g4x (x y t z : Int) (w : World) (ht : 0 ≤ t) (hz : -9223372036854775808 ≤ z ∧ z ≤ 9223372036854775807) (h : Tp.chk 4 x y t z = 0) (hx : -9223372036854775808 ≤ x ∧ x ≤ 9223372036854775807) (hy : -9223372036854775808 ≤ y ∧ y ≤ 9223372036854775807) (hx0 : (x == 0) = false) :
    Calls Tryd.prog 11 #[.agg #[.int .u8 4, .int .i64 x, .int .i64 y, .int .u8 t, .int .i64 z]] w fun e w' => e = .returned (.tuple #[.string (Tp.tx (67 :: (Lib.itoa x ++ (rtL 4 t z 1 ++ (44 :: (Lib.itoa y ++ rtL 4 t z 2)))))), .int .i64 0]) ∧ w.grownBy w' none := by
  have cg : (ByteArray.mk #[80, 84, 75, 67, 83]).extract 3 4 = ⟨#[67]⟩ := by decide
  have l1 := Lib.itoa_length_le x hx.1 hx.2
  have l2 := Lib.itoa_length_le y hy.1 hy.2
  have l3 := rtL_le 4 t z 1 hz
  have l4 := rtL_le 4 t z 2 hz
  have hz0 : ¬ 9223372036854775807 < 1 + (Lib.itoa x).length := by omega
  have hz1 : ¬ 9223372036854775807 < 1 + (Lib.itoa x).length + (rtL 4 t z 1).length := by omega
  have hz2 : ¬ 9223372036854775807 < 1 + (Lib.itoa x).length + (rtL 4 t z 1).length + 1 := by omega
  have hz3 : ¬ 9223372036854775807 < 1 + (Lib.itoa x).length + (rtL 4 t z 1).length + 1 + (Lib.itoa y).length := by omega
  have hz4 : ¬ 9223372036854775807 < 1 + (Lib.itoa x).length + (rtL 4 t z 1).length + 1 + (Lib.itoa y).length + (rtL 4 t z 2).length := by omega
  clear l1 l2 l3 l4
  obtain ⟨W1, hW1, sz1, g1, B1⟩ := boxn w #[.int .u8 4, .int .i64 x, .int .i64 y, .int .u8 t, .int .i64 z] 23
  have c0 := B1.cell 0 (v := .int .u8 4) rfl
  have c1 := B1.cell 1 (v := .int .i64 x) rfl
  have c2 := B1.cell 2 (v := .int .i64 y) rfl
  have c3 := B1.cell 3 (v := .int .u8 t) rfl
  have c4 := B1.cell 4 (v := .int .i64 z) rfl
  go_enter Tryd.func11, Tryd.ntmps11
  go_wp2_with (first | (go_at_call 13; refine (refCheckC _ _ _ _ _ ht _).mono ?_; rintro e w2 ⟨rfl, g2⟩; have BT2 := B1.kept g2 (by simp); have G2 := gb_trans g1 g2; have d0 := BT2.cell 0 (v := .int .u8 4) rfl; have d1 := BT2.cell 1 (v := .int .i64 x) rfl; have d2 := BT2.cell 2 (v := .int .i64 y) rfl; have d3 := BT2.cell 3 (v := .int .u8 t) rfl; have d4 := BT2.cell 4 (v := .int .i64 z) rfl))
  go_region_held2 (fun w' => w'.cell? ⟨w.heap.size, 0, none⟩ = some (.int .u8 4) ∧ w'.cell? ⟨w.heap.size, 1, none⟩ = some (.int .i64 x) ∧ w'.cell? ⟨w.heap.size, 2, none⟩ = some (.int .i64 y) ∧ w'.cell? ⟨w.heap.size, 3, none⟩ = some (.int .u8 t) ∧ w'.cell? ⟨w.heap.size, 4, none⟩ = some (.int .i64 z)) (go_keep) (first | (go_at_call_of 27 (Value.int IntKind.i64 x); (fail_if_success (guard_hyp g4)); refine (rTextC x _ hx).mono ?_; rintro e w4 ⟨rfl, g4⟩; have BT4 := BT2.dr.kept g4 (by simp); have G4 := gb_trans (gb_drew G2) g4; have f0 := BT4.cell 0 (v := .int .u8 4) rfl; have f1 := BT4.cell 1 (v := .int .i64 x) rfl; have f2 := BT4.cell 2 (v := .int .i64 y) rfl; have f3 := BT4.cell 3 (v := .int .u8 t) rfl; have f4 := BT4.cell 4 (v := .int .i64 z) rfl) | (go_at_call_of 28 (Value.int IntKind.u8 1); (fail_if_success (guard_hyp g5)); refine (rt1C _ _ _ _ _ _ hz).mono ?_; rintro e w5 ⟨rfl, g5⟩; have BT5 := BT4.kept g5 (by simp); have G5 := gb_trans G4 g5; have i0 := BT5.cell 0 (v := .int .u8 4) rfl; have i1 := BT5.cell 1 (v := .int .i64 x) rfl; have i2 := BT5.cell 2 (v := .int .i64 y) rfl; have i3 := BT5.cell 3 (v := .int .u8 t) rfl; have i4 := BT5.cell 4 (v := .int .i64 z) rfl) | (go_at_call_of 27 (Value.int IntKind.i64 y); refine (rTextC y _ hy).mono ?_; rintro e w6 ⟨rfl, g6⟩; have BT6 := BT5.kept g6 (by simp); have G6 := gb_trans G5 g6; have j0 := BT6.cell 0 (v := .int .u8 4) rfl; have j1 := BT6.cell 1 (v := .int .i64 x) rfl; have j2 := BT6.cell 2 (v := .int .i64 y) rfl; have j3 := BT6.cell 3 (v := .int .u8 t) rfl; have j4 := BT6.cell 4 (v := .int .i64 z) rfl) | (go_at_call_of 28 (Value.int IntKind.u8 2); refine (rt2C _ _ _ _ _ _ hz).mono ?_; rintro e w7 ⟨rfl, g7⟩; have BT7 := BT6.kept g7 (by simp); have G7 := gb_trans G6 g7; have m0 := BT7.cell 0 (v := .int .u8 4) rfl; have m1 := BT7.cell 1 (v := .int .i64 x) rfl; have m2 := BT7.cell 2 (v := .int .i64 y) rfl; have m3 := BT7.cell 3 (v := .int .u8 t) rfl; have m4 := BT7.cell 4 (v := .int .i64 z) rfl))
  all_goals go_wp2
  all_goals go_ret2
  all_goals refine ⟨ret_si ?_ rfl, by first | exact G7 | exact gb_drewN G7 _⟩
  all_goals rw [show (⟨#[67]⟩ : ByteArray) = Tp.tx [67] from rfl, show (⟨#[44]⟩ : ByteArray) = Tp.tx [44] from rfl]
  all_goals simp only [tx_app]
  all_goals simp

theorem rtL_ttL {k x y t z : Int} (o : Tp.Ok k x y t z) (ht : 0 ≤ t) (i : Int) (hi : i = 1 ∨ i = 2) : rtL k t z i = ttL k t z i := by
  unfold rtL ttL sgT
  by_cases h : t = i
  · rw [if_pos h, if_pos h]
    by_cases hk : k = 3
    · rw [if_pos hk, if_pos hk]
      by_cases z1 : 0 < z
      · rw [if_pos z1, if_neg (by omega), if_neg (by omega), if_neg (by omega)]; rfl
      · rw [if_neg z1]
        by_cases z2 : z = 0
        · rw [if_pos z2, if_pos z2]; rfl
        · rw [if_neg z2, if_neg z2, if_pos (by omega)]; rfl
    · have h1 := o.turns (by omega)
      have h2 := (o.torus (by omega) (by omega)).1
      rw [if_neg hk, if_neg hk]
      by_cases z1 : 0 < z
      · rw [if_pos z1, if_neg h2, if_neg (by omega)]; rfl
      · rw [if_neg z1, if_neg h2, if_pos (by omega)]; rfl
  · rw [if_neg h, if_neg h]
theorem rprintC (k x y t z : Int) (w : World) (ht : 0 ≤ t) (hz : -9223372036854775808 ≤ z ∧ z ≤ 9223372036854775807) :
    Calls Tryd.prog 11 #[.agg #[.int .u8 k, .int .i64 x, .int .i64 y, .int .u8 t, .int .i64 z]] w fun e w' => e = .returned (.tuple #[.string (pTxt k x y t z), .int .i64 (Tp.chk k x y t z)]) ∧ w.grownBy w' none := by
  unfold pTxt
  by_cases h : Tp.chk k x y t z = 0
  · have ok := Tp.ok_of h
    have a1 := ok.kind
    have hx : -9223372036854775808 ≤ x ∧ x ≤ 9223372036854775807 := by have := ok.wide; omega
    have hy : -9223372036854775808 ≤ y ∧ y ≤ 9223372036854775807 := by have := ok.high; omega
    have e1 := rtL_ttL ok ht 1 (Or.inl rfl)
    have e2 := rtL_ttL ok ht 2 (Or.inr rfl)
    rw [if_pos h, h]
    unfold pTx
    rw [← e1, ← e2]
    obtain h3 | h3 | h3 | h3 | h3 : k = 1 ∨ k = 2 ∨ k = 3 ∨ k = 4 ∨ k = 5 := by omega
    · subst h3
      rw [if_neg (by decide)]
      by_cases hx0 : x = 0
      · by_cases hy0 : y = 0
        · rw [if_pos ⟨hx0, hy0⟩]; exact rprint_z1 x y t z w ht hz h (by simp [hx0]) (by simp [hy0])
        · rw [if_neg (by omega)]; exact rprint_g1y x y t z w ht hz h hx hy (by simp [hx0]) (by simp [hy0])
      · rw [if_neg (by omega)]; exact rprint_g1x x y t z w ht hz h hx hy (by simp [hx0])
    · subst h3
      rw [if_neg (by decide)]
      by_cases hx0 : x = 0
      · by_cases hy0 : y = 0
        · rw [if_pos ⟨hx0, hy0⟩]; exact rprint_z2 x y t z w ht hz h (by simp [hx0]) (by simp [hy0])
        · rw [if_neg (by omega)]; exact rprint_g2y x y t z w ht hz h hx hy (by simp [hx0]) (by simp [hy0])
      · rw [if_neg (by omega)]; exact rprint_g2x x y t z w ht hz h hx hy (by simp [hx0])
    · subst h3
      have := ok.ended (by decide)
      rw [if_neg (by decide), if_neg (by omega)]
      exact rprint_g3x x y t z w ht hz h hx hy (by simp; omega)
    · subst h3
      have := ok.ended (by decide)
      rw [if_neg (by decide), if_neg (by omega)]
      exact rprint_g4x x y t z w ht hz h hx hy (by simp; omega)
    · subst h3
      have := ok.ended (by decide)
      rw [if_pos rfl]
      exact rprint_5 x y t z w ht hz h hx (by simp; omega)
  · rw [if_neg h]
    exact rprint_no k x y t z w ht hz h
end Go.Proofs.YteegbhnfkcbnoaaDoor
