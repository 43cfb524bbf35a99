/- What Print of package topo answers. -/
import Derived.Test.YteegbhnfkcbnoabDoorP12
import Derived.Deep.AppendLies
import Derived.Deep.RegionHeld2
namespace Go.Proofs.YteegbhnfkcbnoabDoor
open Go.RowKit
set_option linter.unusedVariables false
set_option linter.unusedSimpArgs false
set_option maxRecDepth 100000

theorem uBS : Tryd.prog.underlying 70 = some (.slice 5) := by kernel_rfl
theorem uU8 : Tryd.prog.underlying 5 = some (.int .u8) := by kernel_rfl
theorem uSt : Tryd.prog.underlying 9 = some .string := by kernel_rfl
theorem conv1 (w : World) (x : Int) : (convert 70 9 (.slice (some ⟨w.heap.size, 0, none⟩) 1 1)).run Tryd.prog (w.alloc (.cells #[.int .u8 x] 5)) = .ok (.string ⟨#[UInt8.ofNat x.toNat]⟩) (w.alloc (.cells #[.int .u8 x] 5)) := by
  rw [run_convert_bytes_string _ 70 9 5 _ 1 1 uBS uU8 uSt]
  have hl := run_loadCells_list (P := Tryd.prog) (w.alloc (.cells #[.int .u8 x] 5)) ⟨w.heap.size, 0, none⟩ ([x].map (Value.int .u8)) (World.news_of_block (cs := #[.int .u8 x]) (heap_alloc_new w _))
  exact run_bytesToString _ _ 1 1 [x] hl
theorem ret_si {a b : ByteArray} {c d : Int} (h : a = b) (h2 : c = d) : Ending.returned (.tuple #[.string a, .int .i64 c]) = .returned (.tuple #[.string b, .int .i64 d]) := by rw [h, h2]

set_option maxHeartbeats 2000000 in
theorem print_no (k x y t z : Int) (w : World) (ht : 0 ≤ t) (h0 : -9223372036854775808 ≤ z) (h1 : z ≤ 9223372036854775807) (htab : Hid (Tab w)) (hT : Hid (Tf w)) (h : ¬ Tp.chk k x y t z = 0) :
    Calls Tryd.prog 16 #[.agg #[.int .u8 k, .int .i64 x, .int .i64 y, .int .u8 t, .int .i64 z]] w fun e w' => e = .returned (.tuple #[.string (⟨#[]⟩), .int .i64 (Tp.chk k x y t z)]) ∧ w.grownBy w' none := by
  obtain ⟨W1, hW1, sz1, g1, B1⟩ := boxn w #[.int .u8 k, .int .i64 x, .int .i64 y, .int .u8 t, .int .i64 z] 23
  have c0 := B1.cell 0 (v := .int .u8 k) rfl
  have c1 := B1.cell 1 (v := .int .i64 x) rfl
  have c2 := B1.cell 2 (v := .int .i64 y) rfl
  have c3 := B1.cell 3 (v := .int .u8 t) rfl
  have c4 := B1.cell 4 (v := .int .i64 z) rfl
  go_enter Tryd.func16, Tryd.ntmps16
  go_wp2_with (first | (go_at_call 9; refine (checkC _ _ _ _ _ ht _).mono ?_; rintro e w2 ⟨rfl, g2⟩; have BT2 := B1.kept g2 (by simp); have G2 := gb_trans g1 g2; have d0 := BT2.cell 0 (v := .int .u8 k) rfl; have d1 := BT2.cell 1 (v := .int .i64 x) rfl; have d2 := BT2.cell 2 (v := .int .i64 y) rfl; have d3 := BT2.cell 3 (v := .int .u8 t) rfl; have d4 := BT2.cell 4 (v := .int .i64 z) rfl))
  go_ret2
  exact ⟨rfl, G2⟩

theorem ttL_le (k t z i : Int) (h0 : -9223372036854775808 ≤ z) (h1 : z ≤ 9223372036854775807) : (ttL k t z i).length ≤ 23 := by
  have := sgT_le z h0 h1
  unfold ttL
  repeat' split
  all_goals simp <;> omega

set_option maxHeartbeats 2000000 in
theorem print_5 (x y t z : Int) (w : World) (ht : 0 ≤ t) (h0 : -9223372036854775808 ≤ z) (h1 : z ≤ 9223372036854775807) (htab : Hid (Tab w)) (hT : Hid (Tf w)) (h : Tp.chk 5 x y t z = 0) (hx : -9223372036854775808 ≤ x ∧ x ≤ 9223372036854775807) :
    Calls Tryd.prog 16 #[.agg #[.int .u8 5, .int .i64 x, .int .i64 y, .int .u8 t, .int .i64 z]] w fun e w' => e = .returned (.tuple #[.string (Tp.tx (83 :: Lib.itoa x)), .int .i64 0]) ∧ w.grownBy w' none := by
  have cg : ((ByteArray.mk #[80, 84, 75, 67, 83])[4]'(by decide)).toNat = 83 := rfl
  have hz : ¬ 9223372036854775807 < 1 + (Lib.itoa x).length := by
    have := Lib.itoa_length_le x hx.1 hx.2
    omega
  obtain ⟨W1, hW1, sz1, g1, B1⟩ := boxn w #[.int .u8 5, .int .i64 x, .int .i64 y, .int .u8 t, .int .i64 z] 23
  have c0 := B1.cell 0 (v := .int .u8 5) rfl
  have c1 := B1.cell 1 (v := .int .i64 x) rfl
  have c2 := B1.cell 2 (v := .int .i64 y) rfl
  have c3 := B1.cell 3 (v := .int .u8 t) rfl
  have c4 := B1.cell 4 (v := .int .i64 z) rfl
  go_enter Tryd.func16, Tryd.ntmps16
  go_wp2_with (first | (go_at_call 9; refine (checkC _ _ _ _ _ ht _).mono ?_; rintro e w2 ⟨rfl, g2⟩; have BT2 := B1.kept g2 (by simp); have G2 := gb_trans g1 g2; have d0 := BT2.cell 0 (v := .int .u8 5) rfl; have d1 := BT2.cell 1 (v := .int .i64 x) rfl; have d2 := BT2.cell 2 (v := .int .i64 y) rfl; have d3 := BT2.cell 3 (v := .int .u8 t) rfl; have d4 := BT2.cell 4 (v := .int .i64 z) rfl; obtain ⟨W3, hW3, sz3, g3, B3⟩ := boxn w2 #[.int .u8 83] 5; have BT3 := BT2.kept g3 (by simp); have G3 := gb_trans G2 g3; have ht3 := tabK htab G3; have hT3 := tfK hT G3; have e0 := BT3.cell 0 (v := .int .u8 5) rfl; have e1 := BT3.cell 1 (v := .int .i64 x) rfl; have e2 := BT3.cell 2 (v := .int .i64 y) rfl; have e3 := BT3.cell 3 (v := .int .u8 t) rfl; have e4 := BT3.cell 4 (v := .int .i64 z) rfl; have HC : (convert 70 9 (.slice (some ⟨w2.heap.size, 0, none⟩) 1 1)).run Tryd.prog W3 = .ok (.string ⟨#[83]⟩) W3 := (by rw [← hW3]; exact conv1 w2 83)) | (go_at_call 32; refine (textC _ _ hx.1 hx.2 ht3).mono ?_; rintro e w4 ⟨rfl, g4⟩))
  go_ret2
  exact ⟨ret_si (tx_app [83] _) rfl, gb_trans G3 g4⟩

set_option maxHeartbeats 2000000 in
theorem print_z1 (x y t z : Int) (w : World) (ht : 0 ≤ t) (h0 : -9223372036854775808 ≤ z) (h1 : z ≤ 9223372036854775807) (htab : Hid (Tab w)) (hT : Hid (Tf w)) (h : Tp.chk 1 x y t z = 0) (hx0 : (x == 0) = true) (hy0 : (y == 0) = true) :
    Calls Tryd.prog 16 #[.agg #[.int .u8 1, .int .i64 x, .int .i64 y, .int .u8 t, .int .i64 z]] w fun e w' => e = .returned (.tuple #[.string (Tp.tx [80]), .int .i64 0]) ∧ w.grownBy w' none := by
  have cg : ((ByteArray.mk #[80, 84, 75, 67, 83])[0]'(by decide)).toNat = 80 := rfl
  obtain ⟨W1, hW1, sz1, g1, B1⟩ := boxn w #[.int .u8 1, .int .i64 x, .int .i64 y, .int .u8 t, .int .i64 z] 23
  have c0 := B1.cell 0 (v := .int .u8 1) rfl
  have c1 := B1.cell 1 (v := .int .i64 x) rfl
  have c2 := B1.cell 2 (v := .int .i64 y) rfl
  have c3 := B1.cell 3 (v := .int .u8 t) rfl
  have c4 := B1.cell 4 (v := .int .i64 z) rfl
  go_enter Tryd.func16, Tryd.ntmps16
  go_wp2_with (first | (go_at_call 9; refine (checkC _ _ _ _ _ ht _).mono ?_; rintro e w2 ⟨rfl, g2⟩; have BT2 := B1.kept g2 (by simp); have G2 := gb_trans g1 g2; have d0 := BT2.cell 0 (v := .int .u8 1) rfl; have d1 := BT2.cell 1 (v := .int .i64 x) rfl; have d2 := BT2.cell 2 (v := .int .i64 y) rfl; have d3 := BT2.cell 3 (v := .int .u8 t) rfl; have d4 := BT2.cell 4 (v := .int .i64 z) rfl; obtain ⟨W3, hW3, sz3, g3, B3⟩ := boxn w2 #[.int .u8 80] 5; have BT3 := BT2.kept g3 (by simp); have G3 := gb_trans G2 g3; have ht3 := tabK htab G3; have hT3 := tfK hT G3; have e0 := BT3.cell 0 (v := .int .u8 1) rfl; have e1 := BT3.cell 1 (v := .int .i64 x) rfl; have e2 := BT3.cell 2 (v := .int .i64 y) rfl; have e3 := BT3.cell 3 (v := .int .u8 t) rfl; have e4 := BT3.cell 4 (v := .int .i64 z) rfl; have HC : (convert 70 9 (.slice (some ⟨w2.heap.size, 0, none⟩) 1 1)).run Tryd.prog W3 = .ok (.string ⟨#[80]⟩) W3 := (by rw [← hW3]; exact conv1 w2 80)))
  go_ret2
  exact ⟨rfl, by first | exact G3 | exact gb_drewN G3 _⟩

set_option maxHeartbeats 2000000 in
theorem print_z2 (x y t z : Int) (w : World) (ht : 0 ≤ t) (h0 : -9223372036854775808 ≤ z) (h1 : z ≤ 9223372036854775807) (htab : Hid (Tab w)) (hT : Hid (Tf w)) (h : Tp.chk 2 x y t z = 0) (hx0 : (x == 0) = true) (hy0 : (y == 0) = true) :
    Calls Tryd.prog 16 #[.agg #[.int .u8 2, .int .i64 x, .int .i64 y, .int .u8 t, .int .i64 z]] w fun e w' => e = .returned (.tuple #[.string (Tp.tx [84]), .int .i64 0]) ∧ w.grownBy w' none := by
  have cg : ((ByteArray.mk #[80, 84, 75, 67, 83])[1]'(by decide)).toNat = 84 := rfl
  obtain ⟨W1, hW1, sz1, g1, B1⟩ := boxn w #[.int .u8 2, .int .i64 x, .int .i64 y, .int .u8 t, .int .i64 z] 23
  have c0 := B1.cell 0 (v := .int .u8 2) rfl
  have c1 := B1.cell 1 (v := .int .i64 x) rfl
  have c2 := B1.cell 2 (v := .int .i64 y) rfl
  have c3 := B1.cell 3 (v := .int .u8 t) rfl
  have c4 := B1.cell 4 (v := .int .i64 z) rfl
  go_enter Tryd.func16, Tryd.ntmps16
  go_wp2_with (first | (go_at_call 9; refine (checkC _ _ _ _ _ ht _).mono ?_; rintro e w2 ⟨rfl, g2⟩; have BT2 := B1.kept g2 (by simp); have G2 := gb_trans g1 g2; have d0 := BT2.cell 0 (v := .int .u8 2) rfl; have d1 := BT2.cell 1 (v := .int .i64 x) rfl; have d2 := BT2.cell 2 (v := .int .i64 y) rfl; have d3 := BT2.cell 3 (v := .int .u8 t) rfl; have d4 := BT2.cell 4 (v := .int .i64 z) rfl; obtain ⟨W3, hW3, sz3, g3, B3⟩ := boxn w2 #[.int .u8 84] 5; have BT3 := BT2.kept g3 (by simp); have G3 := gb_trans G2 g3; have ht3 := tabK htab G3; have hT3 := tfK hT G3; have e0 := BT3.cell 0 (v := .int .u8 2) rfl; have e1 := BT3.cell 1 (v := .int .i64 x) rfl; have e2 := BT3.cell 2 (v := .int .i64 y) rfl; have e3 := BT3.cell 3 (v := .int .u8 t) rfl; have e4 := BT3.cell 4 (v := .int .i64 z) rfl; have HC : (convert 70 9 (.slice (some ⟨w2.heap.size, 0, none⟩) 1 1)).run Tryd.prog W3 = .ok (.string ⟨#[84]⟩) W3 := (by rw [← hW3]; exact conv1 w2 84)))
  go_ret2
  exact ⟨rfl, by first | exact G3 | exact gb_drewN G3 _⟩

set_option maxHeartbeats 2000000 in
theorem print_g1x (x y t z : Int) (w : World) (ht : 0 ≤ t) (h0 : -9223372036854775808 ≤ z) (h1 : z ≤ 9223372036854775807) (htab : Hid (Tab w)) (hT : Hid (Tf w)) (h : Tp.chk 1 x y t z = 0) (hx : -9223372036854775808 ≤ x ∧ x ≤ 9223372036854775807) (hy : -9223372036854775808 ≤ y ∧ y ≤ 9223372036854775807) (hx0 : (x == 0) = false) :
    Calls Tryd.prog 16 #[.agg #[.int .u8 1, .int .i64 x, .int .i64 y, .int .u8 t, .int .i64 z]] w fun e w' => e = .returned (.tuple #[.string (Tp.tx (80 :: (Lib.itoa x ++ (ttL 1 t z 1 ++ (44 :: (Lib.itoa y ++ ttL 1 t z 2)))))), .int .i64 0]) ∧ w.grownBy w' none := by
  have cg : ((ByteArray.mk #[80, 84, 75, 67, 83])[0]'(by decide)).toNat = 80 := rfl
  have l1 := Lib.itoa_length_le x hx.1 hx.2
  have l2 := Lib.itoa_length_le y hy.1 hy.2
  have l3 := ttL_le 1 t z 1 h0 h1
  have l4 := ttL_le 1 t z 2 h0 h1
  have hz0 : ¬ 9223372036854775807 < 1 + (Lib.itoa x).length := by omega
  have hz1 : ¬ 9223372036854775807 < 1 + (Lib.itoa x).length + (ttL 1 t z 1).length := by omega
  have hz2 : ¬ 9223372036854775807 < 1 + (Lib.itoa x).length + (ttL 1 t z 1).length + 1 := by omega
  have hz3 : ¬ 9223372036854775807 < 1 + (Lib.itoa x).length + (ttL 1 t z 1).length + 1 + (Lib.itoa y).length := by omega
  have hz4 : ¬ 9223372036854775807 < 1 + (Lib.itoa x).length + (ttL 1 t z 1).length + 1 + (Lib.itoa y).length + (ttL 1 t z 2).length := by omega
  clear l1 l2 l3 l4
  obtain ⟨W1, hW1, sz1, g1, B1⟩ := boxn w #[.int .u8 1, .int .i64 x, .int .i64 y, .int .u8 t, .int .i64 z] 23
  have c0 := B1.cell 0 (v := .int .u8 1) rfl
  have c1 := B1.cell 1 (v := .int .i64 x) rfl
  have c2 := B1.cell 2 (v := .int .i64 y) rfl
  have c3 := B1.cell 3 (v := .int .u8 t) rfl
  have c4 := B1.cell 4 (v := .int .i64 z) rfl
  go_enter Tryd.func16, Tryd.ntmps16
  go_wp2_with (first | (go_at_call 9; refine (checkC _ _ _ _ _ ht _).mono ?_; rintro e w2 ⟨rfl, g2⟩; have BT2 := B1.kept g2 (by simp); have G2 := gb_trans g1 g2; have d0 := BT2.cell 0 (v := .int .u8 1) rfl; have d1 := BT2.cell 1 (v := .int .i64 x) rfl; have d2 := BT2.cell 2 (v := .int .i64 y) rfl; have d3 := BT2.cell 3 (v := .int .u8 t) rfl; have d4 := BT2.cell 4 (v := .int .i64 z) rfl; obtain ⟨W3, hW3, sz3, g3, B3⟩ := boxn w2 #[.int .u8 80] 5; have BT3 := BT2.kept g3 (by simp); have G3 := gb_trans G2 g3; have ht3 := tabK htab G3; have hT3 := tfK hT G3; have e0 := BT3.cell 0 (v := .int .u8 1) rfl; have e1 := BT3.cell 1 (v := .int .i64 x) rfl; have e2 := BT3.cell 2 (v := .int .i64 y) rfl; have e3 := BT3.cell 3 (v := .int .u8 t) rfl; have e4 := BT3.cell 4 (v := .int .i64 z) rfl; have HC : (convert 70 9 (.slice (some ⟨w2.heap.size, 0, none⟩) 1 1)).run Tryd.prog W3 = .ok (.string ⟨#[80]⟩) W3 := (by rw [← hW3]; exact conv1 w2 80)))
  go_region_held2 (fun w' => w'.cell? ⟨w.heap.size, 0, none⟩ = some (.int .u8 1) ∧ w'.cell? ⟨w.heap.size, 1, none⟩ = some (.int .i64 x) ∧ w'.cell? ⟨w.heap.size, 2, none⟩ = some (.int .i64 y) ∧ w'.cell? ⟨w.heap.size, 3, none⟩ = some (.int .u8 t) ∧ w'.cell? ⟨w.heap.size, 4, none⟩ = some (.int .i64 z)) (go_keep) (first | (go_at_call_of 32 (Value.int IntKind.i64 x); (fail_if_success (guard_hyp g4)); refine (textC x _ hx.1 hx.2 (show Hid (Tab W3.drew) from ht3)).mono ?_; rintro e w4 ⟨rfl, g4⟩; have BT4 := BT3.dr.kept g4 (by simp); have G4 := gb_trans (gb_drew G3) g4; have ht4 := tabK htab G4; have hT4 := tfK hT G4; have f0 := BT4.cell 0 (v := .int .u8 1) rfl; have f1 := BT4.cell 1 (v := .int .i64 x) rfl; have f2 := BT4.cell 2 (v := .int .i64 y) rfl; have f3 := BT4.cell 3 (v := .int .u8 t) rfl; have f4 := BT4.cell 4 (v := .int .i64 z) rfl) | (go_at_call_of 33 (Value.int IntKind.i64 0); refine (tt0C _ _ _ _ _ _ h0 h1 ht4 hT4).mono ?_; rintro e w5 ⟨rfl, g5⟩; have BT5 := BT4.kept g5 (by simp); have G5 := gb_trans G4 g5; have ht5 := tabK htab G5; have hT5 := tfK hT G5; have i0 := BT5.cell 0 (v := .int .u8 1) rfl; have i1 := BT5.cell 1 (v := .int .i64 x) rfl; have i2 := BT5.cell 2 (v := .int .i64 y) rfl; have i3 := BT5.cell 3 (v := .int .u8 t) rfl; have i4 := BT5.cell 4 (v := .int .i64 z) rfl) | (go_at_call_of 32 (Value.int IntKind.i64 y); refine (textC y _ hy.1 hy.2 ht5).mono ?_; rintro e w6 ⟨rfl, g6⟩; have BT6 := BT5.kept g6 (by simp); have G6 := gb_trans G5 g6; have ht6 := tabK htab G6; have hT6 := tfK hT G6; have j0 := BT6.cell 0 (v := .int .u8 1) rfl; have j1 := BT6.cell 1 (v := .int .i64 x) rfl; have j2 := BT6.cell 2 (v := .int .i64 y) rfl; have j3 := BT6.cell 3 (v := .int .u8 t) rfl; have j4 := BT6.cell 4 (v := .int .i64 z) rfl) | (go_at_call_of 33 (Value.int IntKind.i64 1); refine (tt1C _ _ _ _ _ _ h0 h1 ht6 hT6).mono ?_; rintro e w7 ⟨rfl, g7⟩; have BT7 := BT6.kept g7 (by simp); have G7 := gb_trans G6 g7; have ht7 := tabK htab G7; have hT7 := tfK hT G7; have m0 := BT7.cell 0 (v := .int .u8 1) rfl; have m1 := BT7.cell 1 (v := .int .i64 x) rfl; have m2 := BT7.cell 2 (v := .int .i64 y) rfl; have m3 := BT7.cell 3 (v := .int .u8 t) rfl; have m4 := BT7.cell 4 (v := .int .i64 z) rfl))
  all_goals go_wp2
  all_goals go_ret2
  all_goals refine ⟨ret_si ?_ rfl, by first | exact G7 | exact gb_drewN G7 _⟩
  all_goals rw [show (⟨#[80]⟩ : ByteArray) = Tp.tx [80] from rfl, show (⟨#[44]⟩ : ByteArray) = Tp.tx [44] from rfl]
  all_goals simp only [tx_app]
  all_goals simp

set_option maxHeartbeats 2000000 in
theorem print_g1y (x y t z : Int) (w : World) (ht : 0 ≤ t) (h0 : -9223372036854775808 ≤ z) (h1 : z ≤ 9223372036854775807) (htab : Hid (Tab w)) (hT : Hid (Tf w)) (h : Tp.chk 1 x y t z = 0) (hx : -9223372036854775808 ≤ x ∧ x ≤ 9223372036854775807) (hy : -9223372036854775808 ≤ y ∧ y ≤ 9223372036854775807) (hx0 : (x == 0) = true) (hy0 : (y == 0) = false) :
    Calls Tryd.prog 16 #[.agg #[.int .u8 1, .int .i64 x, .int .i64 y, .int .u8 t, .int .i64 z]] w fun e w' => e = .returned (.tuple #[.string (Tp.tx (80 :: (Lib.itoa x ++ (ttL 1 t z 1 ++ (44 :: (Lib.itoa y ++ ttL 1 t z 2)))))), .int .i64 0]) ∧ w.grownBy w' none := by
  have cg : ((ByteArray.mk #[80, 84, 75, 67, 83])[0]'(by decide)).toNat = 80 := rfl
  have l1 := Lib.itoa_length_le x hx.1 hx.2
  have l2 := Lib.itoa_length_le y hy.1 hy.2
  have l3 := ttL_le 1 t z 1 h0 h1
  have l4 := ttL_le 1 t z 2 h0 h1
  have hz0 : ¬ 9223372036854775807 < 1 + (Lib.itoa x).length := by omega
  have hz1 : ¬ 9223372036854775807 < 1 + (Lib.itoa x).length + (ttL 1 t z 1).length := by omega
  have hz2 : ¬ 9223372036854775807 < 1 + (Lib.itoa x).length + (ttL 1 t z 1).length + 1 := by omega
  have hz3 : ¬ 9223372036854775807 < 1 + (Lib.itoa x).length + (ttL 1 t z 1).length + 1 + (Lib.itoa y).length := by omega
  have hz4 : ¬ 9223372036854775807 < 1 + (Lib.itoa x).length + (ttL 1 t z 1).length + 1 + (Lib.itoa y).length + (ttL 1 t z 2).length := by omega
  clear l1 l2 l3 l4
  obtain ⟨W1, hW1, sz1, g1, B1⟩ := boxn w #[.int .u8 1, .int .i64 x, .int .i64 y, .int .u8 t, .int .i64 z] 23
  have c0 := B1.cell 0 (v := .int .u8 1) rfl
  have c1 := B1.cell 1 (v := .int .i64 x) rfl
  have c2 := B1.cell 2 (v := .int .i64 y) rfl
  have c3 := B1.cell 3 (v := .int .u8 t) rfl
  have c4 := B1.cell 4 (v := .int .i64 z) rfl
  go_enter Tryd.func16, Tryd.ntmps16
  go_wp2_with (first | (go_at_call 9; refine (checkC _ _ _ _ _ ht _).mono ?_; rintro e w2 ⟨rfl, g2⟩; have BT2 := B1.kept g2 (by simp); have G2 := gb_trans g1 g2; have d0 := BT2.cell 0 (v := .int .u8 1) rfl; have d1 := BT2.cell 1 (v := .int .i64 x) rfl; have d2 := BT2.cell 2 (v := .int .i64 y) rfl; have d3 := BT2.cell 3 (v := .int .u8 t) rfl; have d4 := BT2.cell 4 (v := .int .i64 z) rfl; obtain ⟨W3, hW3, sz3, g3, B3⟩ := boxn w2 #[.int .u8 80] 5; have BT3 := BT2.kept g3 (by simp); have G3 := gb_trans G2 g3; have ht3 := tabK htab G3; have hT3 := tfK hT G3; have e0 := BT3.cell 0 (v := .int .u8 1) rfl; have e1 := BT3.cell 1 (v := .int .i64 x) rfl; have e2 := BT3.cell 2 (v := .int .i64 y) rfl; have e3 := BT3.cell 3 (v := .int .u8 t) rfl; have e4 := BT3.cell 4 (v := .int .i64 z) rfl; have HC : (convert 70 9 (.slice (some ⟨w2.heap.size, 0, none⟩) 1 1)).run Tryd.prog W3 = .ok (.string ⟨#[80]⟩) W3 := (by rw [← hW3]; exact conv1 w2 80)))
  go_region_held2 (fun w' => w'.cell? ⟨w.heap.size, 0, none⟩ = some (.int .u8 1) ∧ w'.cell? ⟨w.heap.size, 1, none⟩ = some (.int .i64 x) ∧ w'.cell? ⟨w.heap.size, 2, none⟩ = some (.int .i64 y) ∧ w'.cell? ⟨w.heap.size, 3, none⟩ = some (.int .u8 t) ∧ w'.cell? ⟨w.heap.size, 4, none⟩ = some (.int .i64 z)) (go_keep) (first | (go_at_call_of 32 (Value.int IntKind.i64 x); (fail_if_success (guard_hyp g4)); refine (textC x _ hx.1 hx.2 (show Hid (Tab W3.drew) from ht3)).mono ?_; rintro e w4 ⟨rfl, g4⟩; have BT4 := BT3.dr.kept g4 (by simp); have G4 := gb_trans (gb_drew G3) g4; have ht4 := tabK htab G4; have hT4 := tfK hT G4; have f0 := BT4.cell 0 (v := .int .u8 1) rfl; have f1 := BT4.cell 1 (v := .int .i64 x) rfl; have f2 := BT4.cell 2 (v := .int .i64 y) rfl; have f3 := BT4.cell 3 (v := .int .u8 t) rfl; have f4 := BT4.cell 4 (v := .int .i64 z) rfl) | (go_at_call_of 33 (Value.int IntKind.i64 0); refine (tt0C _ _ _ _ _ _ h0 h1 ht4 hT4).mono ?_; rintro e w5 ⟨rfl, g5⟩; have BT5 := BT4.kept g5 (by simp); have G5 := gb_trans G4 g5; have ht5 := tabK htab G5; have hT5 := tfK hT G5; have i0 := BT5.cell 0 (v := .int .u8 1) rfl; have i1 := BT5.cell 1 (v := .int .i64 x) rfl; have i2 := BT5.cell 2 (v := .int .i64 y) rfl; have i3 := BT5.cell 3 (v := .int .u8 t) rfl; have i4 := BT5.cell 4 (v := .int .i64 z) rfl) | (go_at_call_of 32 (Value.int IntKind.i64 y); refine (textC y _ hy.1 hy.2 ht5).mono ?_; rintro e w6 ⟨rfl, g6⟩; have BT6 := BT5.kept g6 (by simp); have G6 := gb_trans G5 g6; have ht6 := tabK htab G6; have hT6 := tfK hT G6; have j0 := BT6.cell 0 (v := .int .u8 1) rfl; have j1 := BT6.cell 1 (v := .int .i64 x) rfl; have j2 := BT6.cell 2 (v := .int .i64 y) rfl; have j3 := BT6.cell 3 (v := .int .u8 t) rfl; have j4 := BT6.cell 4 (v := .int .i64 z) rfl) | (go_at_call_of 33 (Value.int IntKind.i64 1); refine (tt1C _ _ _ _ _ _ h0 h1 ht6 hT6).mono ?_; rintro e w7 ⟨rfl, g7⟩; have BT7 := BT6.kept g7 (by simp); have G7 := gb_trans G6 g7; have ht7 := tabK htab G7; have hT7 := tfK hT G7; have m0 := BT7.cell 0 (v := .int .u8 1) rfl; have m1 := BT7.cell 1 (v := .int .i64 x) rfl; have m2 := BT7.cell 2 (v := .int .i64 y) rfl; have m3 := BT7.cell 3 (v := .int .u8 t) rfl; have m4 := BT7.cell 4 (v := .int .i64 z) rfl))
  all_goals go_wp2
  all_goals go_ret2
  all_goals refine ⟨ret_si ?_ rfl, by first | exact G7 | exact gb_drewN G7 _⟩
  all_goals rw [show (⟨#[80]⟩ : ByteArray) = Tp.tx [80] from rfl, show (⟨#[44]⟩ : ByteArray) = Tp.tx [44] from rfl]
  all_goals simp only [tx_app]
  all_goals simp

set_option maxHeartbeats 2000000 in
theorem print_g2x (x y t z : Int) (w : World) (ht : 0 ≤ t) (h0 : -9223372036854775808 ≤ z) (h1 : z ≤ 9223372036854775807) (htab : Hid (Tab w)) (hT : Hid (Tf w)) (h : Tp.chk 2 x y t z = 0) (hx : -9223372036854775808 ≤ x ∧ x ≤ 9223372036854775807) (hy : -9223372036854775808 ≤ y ∧ y ≤ 9223372036854775807) (hx0 : (x == 0) = false) :
    Calls Tryd.prog 16 #[.agg #[.int .u8 2, .int .i64 x, .int .i64 y, .int .u8 t, .int .i64 z]] w fun e w' => e = .returned (.tuple #[.string (Tp.tx (84 :: (Lib.itoa x ++ (ttL 2 t z 1 ++ (44 :: (Lib.itoa y ++ ttL 2 t z 2)))))), .int .i64 0]) ∧ w.grownBy w' none := by
  have cg : ((ByteArray.mk #[80, 84, 75, 67, 83])[1]'(by decide)).toNat = 84 := rfl
  have l1 := Lib.itoa_length_le x hx.1 hx.2
  have l2 := Lib.itoa_length_le y hy.1 hy.2
  have l3 := ttL_le 2 t z 1 h0 h1
  have l4 := ttL_le 2 t z 2 h0 h1
  have hz0 : ¬ 9223372036854775807 < 1 + (Lib.itoa x).length := by omega
  have hz1 : ¬ 9223372036854775807 < 1 + (Lib.itoa x).length + (ttL 2 t z 1).length := by omega
  have hz2 : ¬ 9223372036854775807 < 1 + (Lib.itoa x).length + (ttL 2 t z 1).length + 1 := by omega
  have hz3 : ¬ 9223372036854775807 < 1 + (Lib.itoa x).length + (ttL 2 t z 1).length + 1 + (Lib.itoa y).length := by omega
  have hz4 : ¬ 9223372036854775807 < 1 + (Lib.itoa x).length + (ttL 2 t z 1).length + 1 + (Lib.itoa y).length + (ttL 2 t z 2).length := by omega
  clear l1 l2 l3 l4
  obtain ⟨W1, hW1, sz1, g1, B1⟩ := boxn w #[.int .u8 2, .int .i64 x, .int .i64 y, .int .u8 t, .int .i64 z] 23
  have c0 := B1.cell 0 (v := .int .u8 2) rfl
  have c1 := B1.cell 1 (v := .int .i64 x) rfl
  have c2 := B1.cell 2 (v := .int .i64 y) rfl
  have c3 := B1.cell 3 (v := .int .u8 t) rfl
  have c4 := B1.cell 4 (v := .int .i64 z) rfl
  go_enter Tryd.func16, Tryd.ntmps16
  go_wp2_with (first | (go_at_call 9; refine (checkC _ _ _ _ _ ht _).mono ?_; rintro e w2 ⟨rfl, g2⟩; have BT2 := B1.kept g2 (by simp); have G2 := gb_trans g1 g2; have d0 := BT2.cell 0 (v := .int .u8 2) rfl; have d1 := BT2.cell 1 (v := .int .i64 x) rfl; have d2 := BT2.cell 2 (v := .int .i64 y) rfl; have d3 := BT2.cell 3 (v := .int .u8 t) rfl; have d4 := BT2.cell 4 (v := .int .i64 z) rfl; obtain ⟨W3, hW3, sz3, g3, B3⟩ := boxn w2 #[.int .u8 84] 5; have BT3 := BT2.kept g3 (by simp); have G3 := gb_trans G2 g3; have ht3 := tabK htab G3; have hT3 := tfK hT G3; have e0 := BT3.cell 0 (v := .int .u8 2) rfl; have e1 := BT3.cell 1 (v := .int .i64 x) rfl; have e2 := BT3.cell 2 (v := .int .i64 y) rfl; have e3 := BT3.cell 3 (v := .int .u8 t) rfl; have e4 := BT3.cell 4 (v := .int .i64 z) rfl; have HC : (convert 70 9 (.slice (some ⟨w2.heap.size, 0, none⟩) 1 1)).run Tryd.prog W3 = .ok (.string ⟨#[84]⟩) W3 := (by rw [← hW3]; exact conv1 w2 84)))
  go_region_held2 (fun w' => w'.cell? ⟨w.heap.size, 0, none⟩ = some (.int .u8 2) ∧ w'.cell? ⟨w.heap.size, 1, none⟩ = some (.int .i64 x) ∧ w'.cell? ⟨w.heap.size, 2, none⟩ = some (.int .i64 y) ∧ w'.cell? ⟨w.heap.size, 3, none⟩ = some (.int .u8 t) ∧ w'.cell? ⟨w.heap.size, 4, none⟩ = some (.int .i64 z)) (go_keep) (first | (go_at_call_of 32 (Value.int IntKind.i64 x); (fail_if_success (guard_hyp g4)); refine (textC x _ hx.1 hx.2 (show Hid (Tab W3.drew) from ht3)).mono ?_; rintro e w4 ⟨rfl, g4⟩; have BT4 := BT3.dr.kept g4 (by simp); have G4 := gb_trans (gb_drew G3) g4; have ht4 := tabK htab G4; have hT4 := tfK hT G4; have f0 := BT4.cell 0 (v := .int .u8 2) rfl; have f1 := BT4.cell 1 (v := .int .i64 x) rfl; have f2 := BT4.cell 2 (v := .int .i64 y) rfl; have f3 := BT4.cell 3 (v := .int .u8 t) rfl; have f4 := BT4.cell 4 (v := .int .i64 z) rfl) | (go_at_call_of 33 (Value.int IntKind.i64 0); refine (tt0C _ _ _ _ _ _ h0 h1 ht4 hT4).mono ?_; rintro e w5 ⟨rfl, g5⟩; have BT5 := BT4.kept g5 (by simp); have G5 := gb_trans G4 g5; have ht5 := tabK htab G5; have hT5 := tfK hT G5; have i0 := BT5.cell 0 (v := .int .u8 2) rfl; have i1 := BT5.cell 1 (v := .int .i64 x) rfl; have i2 := BT5.cell 2 (v := .int .i64 y) rfl; have i3 := BT5.cell 3 (v := .int .u8 t) rfl; have i4 := BT5.cell 4 (v := .int .i64 z) rfl) | (go_at_call_of 32 (Value.int IntKind.i64 y); refine (textC y _ hy.1 hy.2 ht5).mono ?_; rintro e w6 ⟨rfl, g6⟩; have BT6 := BT5.kept g6 (by simp); have G6 := gb_trans G5 g6; have ht6 := tabK htab G6; have hT6 := tfK hT G6; have j0 := BT6.cell 0 (v := .int .u8 2) rfl; have j1 := BT6.cell 1 (v := .int .i64 x) rfl; have j2 := BT6.cell 2 (v := .int .i64 y) rfl; have j3 := BT6.cell 3 (v := .int .u8 t) rfl; have j4 := BT6.cell 4 (v := .int .i64 z) rfl) | (go_at_call_of 33 (Value.int IntKind.i64 1); refine (tt1C _ _ _ _ _ _ h0 h1 ht6 hT6).mono ?_; rintro e w7 ⟨rfl, g7⟩; have BT7 := BT6.kept g7 (by simp); have G7 := gb_trans G6 g7; have ht7 := tabK htab G7; have hT7 := tfK hT G7; have m0 := BT7.cell 0 (v := .int .u8 2) rfl; have m1 := BT7.cell 1 (v := .int .i64 x) rfl; have m2 := BT7.cell 2 (v := .int .i64 y) rfl; have m3 := BT7.cell 3 (v := .int .u8 t) rfl; have m4 := BT7.cell 4 (v := .int .i64 z) rfl))
  all_goals go_wp2
  all_goals go_ret2
  all_goals refine ⟨ret_si ?_ rfl, by first | exact G7 | exact gb_drewN G7 _⟩
  all_goals rw [show (⟨#[84]⟩ : ByteArray) = Tp.tx [84] from rfl, show (⟨#[44]⟩ : ByteArray) = Tp.tx [44] from rfl]
  all_goals simp only [tx_app]
  all_goals simp

set_option maxHeartbeats 2000000 in
theorem print_g2y (x y t z : Int) (w : World) (ht : 0 ≤ t) (h0 : -9223372036854775808 ≤ z) (h1 : z ≤ 9223372036854775807) (htab : Hid (Tab w)) (hT : Hid (Tf w)) (h : Tp.chk 2 x y t z = 0) (hx : -9223372036854775808 ≤ x ∧ x ≤ 9223372036854775807) (hy : -9223372036854775808 ≤ y ∧ y ≤ 9223372036854775807) (hx0 : (x == 0) = true) (hy0 : (y == 0) = false) :
    Calls Tryd.prog 16 #[.agg #[.int .u8 2, .int .i64 x, .int .i64 y, .int .u8 t, .int .i64 z]] w fun e w' => e = .returned (.tuple #[.string (Tp.tx (84 :: (Lib.itoa x ++ (ttL 2 t z 1 ++ (44 :: (Lib.itoa y ++ ttL 2 t z 2)))))), .int .i64 0]) ∧ w.grownBy w' none := by
  have cg : ((ByteArray.mk #[80, 84, 75, 67, 83])[1]'(by decide)).toNat = 84 := rfl
  have l1 := Lib.itoa_length_le x hx.1 hx.2
  have l2 := Lib.itoa_length_le y hy.1 hy.2
  have l3 := ttL_le 2 t z 1 h0 h1
  have l4 := ttL_le 2 t z 2 h0 h1
  have hz0 : ¬ 9223372036854775807 < 1 + (Lib.itoa x).length := by omega
  have hz1 : ¬ 9223372036854775807 < 1 + (Lib.itoa x).length + (ttL 2 t z 1).length := by omega
  have hz2 : ¬ 9223372036854775807 < 1 + (Lib.itoa x).length + (ttL 2 t z 1).length + 1 := by omega
  have hz3 : ¬ 9223372036854775807 < 1 + (Lib.itoa x).length + (ttL 2 t z 1).length + 1 + (Lib.itoa y).length := by omega
  have hz4 : ¬ 9223372036854775807 < 1 + (Lib.itoa x).length + (ttL 2 t z 1).length + 1 + (Lib.itoa y).length + (ttL 2 t z 2).length := by omega
  clear l1 l2 l3 l4
  obtain ⟨W1, hW1, sz1, g1, B1⟩ := boxn w #[.int .u8 2, .int .i64 x, .int .i64 y, .int .u8 t, .int .i64 z] 23
  have c0 := B1.cell 0 (v := .int .u8 2) rfl
  have c1 := B1.cell 1 (v := .int .i64 x) rfl
  have c2 := B1.cell 2 (v := .int .i64 y) rfl
  have c3 := B1.cell 3 (v := .int .u8 t) rfl
  have c4 := B1.cell 4 (v := .int .i64 z) rfl
  go_enter Tryd.func16, Tryd.ntmps16
  go_wp2_with (first | (go_at_call 9; refine (checkC _ _ _ _ _ ht _).mono ?_; rintro e w2 ⟨rfl, g2⟩; have BT2 := B1.kept g2 (by simp); have G2 := gb_trans g1 g2; have d0 := BT2.cell 0 (v := .int .u8 2) rfl; have d1 := BT2.cell 1 (v := .int .i64 x) rfl; have d2 := BT2.cell 2 (v := .int .i64 y) rfl; have d3 := BT2.cell 3 (v := .int .u8 t) rfl; have d4 := BT2.cell 4 (v := .int .i64 z) rfl; obtain ⟨W3, hW3, sz3, g3, B3⟩ := boxn w2 #[.int .u8 84] 5; have BT3 := BT2.kept g3 (by simp); have G3 := gb_trans G2 g3; have ht3 := tabK htab G3; have hT3 := tfK hT G3; have e0 := BT3.cell 0 (v := .int .u8 2) rfl; have e1 := BT3.cell 1 (v := .int .i64 x) rfl; have e2 := BT3.cell 2 (v := .int .i64 y) rfl; have e3 := BT3.cell 3 (v := .int .u8 t) rfl; have e4 := BT3.cell 4 (v := .int .i64 z) rfl; have HC : (convert 70 9 (.slice (some ⟨w2.heap.size, 0, none⟩) 1 1)).run Tryd.prog W3 = .ok (.string ⟨#[84]⟩) W3 := (by rw [← hW3]; exact conv1 w2 84)))
  go_region_held2 (fun w' => w'.cell? ⟨w.heap.size, 0, none⟩ = some (.int .u8 2) ∧ w'.cell? ⟨w.heap.size, 1, none⟩ = some (.int .i64 x) ∧ w'.cell? ⟨w.heap.size, 2, none⟩ = some (.int .i64 y) ∧ w'.cell? ⟨w.heap.size, 3, none⟩ = some (.int .u8 t) ∧ w'.cell? ⟨w.heap.size, 4, none⟩ = some (.int .i64 z)) (go_keep) (first | (go_at_call_of 32 (Value.int IntKind.i64 x); (fail_if_success (guard_hyp g4)); refine (textC x _ hx.1 hx.2 (show Hid (Tab W3.drew) from ht3)).mono ?_; rintro e w4 ⟨rfl, g4⟩; have BT4 := BT3.dr.kept g4 (by simp); have G4 := gb_trans (gb_drew G3) g4; have ht4 := tabK htab G4; have hT4 := tfK hT G4; have f0 := BT4.cell 0 (v := .int .u8 2) rfl; have f1 := BT4.cell 1 (v := .int .i64 x) rfl; have f2 := BT4.cell 2 (v := .int .i64 y) rfl; have f3 := BT4.cell 3 (v := .int .u8 t) rfl; have f4 := BT4.cell 4 (v := .int .i64 z) rfl) | (go_at_call_of 33 (Value.int IntKind.i64 0); refine (tt0C _ _ _ _ _ _ h0 h1 ht4 hT4).mono ?_; rintro e w5 ⟨rfl, g5⟩; have BT5 := BT4.kept g5 (by simp); have G5 := gb_trans G4 g5; have ht5 := tabK htab G5; have hT5 := tfK hT G5; have i0 := BT5.cell 0 (v := .int .u8 2) rfl; have i1 := BT5.cell 1 (v := .int .i64 x) rfl; have i2 := BT5.cell 2 (v := .int .i64 y) rfl; have i3 := BT5.cell 3 (v := .int .u8 t) rfl; have i4 := BT5.cell 4 (v := .int .i64 z) rfl) | (go_at_call_of 32 (Value.int IntKind.i64 y); refine (textC y _ hy.1 hy.2 ht5).mono ?_; rintro e w6 ⟨rfl, g6⟩; have BT6 := BT5.kept g6 (by simp); have G6 := gb_trans G5 g6; have ht6 := tabK htab G6; have hT6 := tfK hT G6; have j0 := BT6.cell 0 (v := .int .u8 2) rfl; have j1 := BT6.cell 1 (v := .int .i64 x) rfl; have j2 := BT6.cell 2 (v := .int .i64 y) rfl; have j3 := BT6.cell 3 (v := .int .u8 t) rfl; have j4 := BT6.cell 4 (v := .int .i64 z) rfl) | (go_at_call_of 33 (Value.int IntKind.i64 1); refine (tt1C _ _ _ _ _ _ h0 h1 ht6 hT6).mono ?_; rintro e w7 ⟨rfl, g7⟩; have BT7 := BT6.kept g7 (by simp); have G7 := gb_trans G6 g7; have ht7 := tabK htab G7; have hT7 := tfK hT G7; have m0 := BT7.cell 0 (v := .int .u8 2) rfl; have m1 := BT7.cell 1 (v := .int .i64 x) rfl; have m2 := BT7.cell 2 (v := .int .i64 y) rfl; have m3 := BT7.cell 3 (v := .int .u8 t) rfl; have m4 := BT7.cell 4 (v := .int .i64 z) rfl))
  all_goals go_wp2
  all_goals go_ret2
  all_goals refine ⟨ret_si ?_ rfl, by first | exact G7 | exact gb_drewN G7 _⟩
  all_goals rw [show (⟨#[84]⟩ : ByteArray) = Tp.tx [84] from rfl, show (⟨#[44]⟩ : ByteArray) = Tp.tx [44] from rfl]
  all_goals simp only [tx_app]
  all_goals simp

set_option maxHeartbeats 2000000 in
theorem print_g3x (x y t z : Int) (w : World) (ht : 0 ≤ t) (h0 : -9223372036854775808 ≤ z) (h1 : z ≤ 9223372036854775807) (htab : Hid (Tab w)) (hT : Hid (Tf w)) (h : Tp.chk 3 x y t z = 0) (hx : -9223372036854775808 ≤ x ∧ x ≤ 9223372036854775807) (hy : -9223372036854775808 ≤ y ∧ y ≤ 9223372036854775807) (hx0 : (x == 0) = false) :
    Calls Tryd.prog 16 #[.agg #[.int .u8 3, .int .i64 x, .int .i64 y, .int .u8 t, .int .i64 z]] w fun e w' => e = .returned (.tuple #[.string (Tp.tx (75 :: (Lib.itoa x ++ (ttL 3 t z 1 ++ (44 :: (Lib.itoa y ++ ttL 3 t z 2)))))), .int .i64 0]) ∧ w.grownBy w' none := by
  have cg : ((ByteArray.mk #[80, 84, 75, 67, 83])[2]'(by decide)).toNat = 75 := rfl
  have l1 := Lib.itoa_length_le x hx.1 hx.2
  have l2 := Lib.itoa_length_le y hy.1 hy.2
  have l3 := ttL_le 3 t z 1 h0 h1
  have l4 := ttL_le 3 t z 2 h0 h1
  have hz0 : ¬ 9223372036854775807 < 1 + (Lib.itoa x).length := by omega
  have hz1 : ¬ 9223372036854775807 < 1 + (Lib.itoa x).length + (ttL 3 t z 1).length := by omega
  have hz2 : ¬ 9223372036854775807 < 1 + (Lib.itoa x).length + (ttL 3 t z 1).length + 1 := by omega
  have hz3 : ¬ 9223372036854775807 < 1 + (Lib.itoa x).length + (ttL 3 t z 1).length + 1 + (Lib.itoa y).length := by omega
  have hz4 : ¬ 9223372036854775807 < 1 + (Lib.itoa x).length + (ttL 3 t z 1).length + 1 + (Lib.itoa y).length + (ttL 3 t z 2).length := by omega
  clear l1 l2 l3 l4
  obtain ⟨W1, hW1, sz1, g1, B1⟩ := boxn w #[.int .u8 3, .int .i64 x, .int .i64 y, .int .u8 t, .int .i64 z] 23
  have c0 := B1.cell 0 (v := .int .u8 3) rfl
  have c1 := B1.cell 1 (v := .int .i64 x) rfl
  have c2 := B1.cell 2 (v := .int .i64 y) rfl
  have c3 := B1.cell 3 (v := .int .u8 t) rfl
  have c4 := B1.cell 4 (v := .int .i64 z) rfl
  go_enter Tryd.func16, Tryd.ntmps16
  go_wp2_with (first | (go_at_call 9; refine (checkC _ _ _ _ _ ht _).mono ?_; rintro e w2 ⟨rfl, g2⟩; have BT2 := B1.kept g2 (by simp); have G2 := gb_trans g1 g2; have d0 := BT2.cell 0 (v := .int .u8 3) rfl; have d1 := BT2.cell 1 (v := .int .i64 x) rfl; have d2 := BT2.cell 2 (v := .int .i64 y) rfl; have d3 := BT2.cell 3 (v := .int .u8 t) rfl; have d4 := BT2.cell 4 (v := .int .i64 z) rfl; obtain ⟨W3, hW3, sz3, g3, B3⟩ := boxn w2 #[.int .u8 75] 5; have BT3 := BT2.kept g3 (by simp); have G3 := gb_trans G2 g3; have ht3 := tabK htab G3; have hT3 := tfK hT G3; have e0 := BT3.cell 0 (v := .int .u8 3) rfl; have e1 := BT3.cell 1 (v := .int .i64 x) rfl; have e2 := BT3.cell 2 (v := .int .i64 y) rfl; have e3 := BT3.cell 3 (v := .int .u8 t) rfl; have e4 := BT3.cell 4 (v := .int .i64 z) rfl; have HC : (convert 70 9 (.slice (some ⟨w2.heap.size, 0, none⟩) 1 1)).run Tryd.prog W3 = .ok (.string ⟨#[75]⟩) W3 := (by rw [← hW3]; exact conv1 w2 75)))
  go_region_held2 (fun w' => w'.cell? ⟨w.heap.size, 0, none⟩ = some (.int .u8 3) ∧ w'.cell? ⟨w.heap.size, 1, none⟩ = some (.int .i64 x) ∧ w'.cell? ⟨w.heap.size, 2, none⟩ = some (.int .i64 y) ∧ w'.cell? ⟨w.heap.size, 3, none⟩ = some (.int .u8 t) ∧ w'.cell? ⟨w.heap.size, 4, none⟩ = some (.int .i64 z)) (go_keep) (first | (go_at_call_of 32 (Value.int IntKind.i64 x); (fail_if_success (guard_hyp g4)); refine (textC x _ hx.1 hx.2 (show Hid (Tab W3.drew) from ht3)).mono ?_; rintro e w4 ⟨rfl, g4⟩; have BT4 := BT3.dr.kept g4 (by simp); have G4 := gb_trans (gb_drew G3) g4; have ht4 := tabK htab G4; have hT4 := tfK hT G4; have f0 := BT4.cell 0 (v := .int .u8 3) rfl; have f1 := BT4.cell 1 (v := .int .i64 x) rfl; have f2 := BT4.cell 2 (v := .int .i64 y) rfl; have f3 := BT4.cell 3 (v := .int .u8 t) rfl; have f4 := BT4.cell 4 (v := .int .i64 z) rfl) | (go_at_call_of 33 (Value.int IntKind.i64 0); refine (tt0C _ _ _ _ _ _ h0 h1 ht4 hT4).mono ?_; rintro e w5 ⟨rfl, g5⟩; have BT5 := BT4.kept g5 (by simp); have G5 := gb_trans G4 g5; have ht5 := tabK htab G5; have hT5 := tfK hT G5; have i0 := BT5.cell 0 (v := .int .u8 3) rfl; have i1 := BT5.cell 1 (v := .int .i64 x) rfl; have i2 := BT5.cell 2 (v := .int .i64 y) rfl; have i3 := BT5.cell 3 (v := .int .u8 t) rfl; have i4 := BT5.cell 4 (v := .int .i64 z) rfl) | (go_at_call_of 32 (Value.int IntKind.i64 y); refine (textC y _ hy.1 hy.2 ht5).mono ?_; rintro e w6 ⟨rfl, g6⟩; have BT6 := BT5.kept g6 (by simp); have G6 := gb_trans G5 g6; have ht6 := tabK htab G6; have hT6 := tfK hT G6; have j0 := BT6.cell 0 (v := .int .u8 3) rfl; have j1 := BT6.cell 1 (v := .int .i64 x) rfl; have j2 := BT6.cell 2 (v := .int .i64 y) rfl; have j3 := BT6.cell 3 (v := .int .u8 t) rfl; have j4 := BT6.cell 4 (v := .int .i64 z) rfl) | (go_at_call_of 33 (Value.int IntKind.i64 1); refine (tt1C _ _ _ _ _ _ h0 h1 ht6 hT6).mono ?_; rintro e w7 ⟨rfl, g7⟩; have BT7 := BT6.kept g7 (by simp); have G7 := gb_trans G6 g7; have ht7 := tabK htab G7; have hT7 := tfK hT G7; have m0 := BT7.cell 0 (v := .int .u8 3) rfl; have m1 := BT7.cell 1 (v := .int .i64 x) rfl; have m2 := BT7.cell 2 (v := .int .i64 y) rfl; have m3 := BT7.cell 3 (v := .int .u8 t) rfl; have m4 := BT7.cell 4 (v := .int .i64 z) rfl))
  all_goals go_wp2
  all_goals go_ret2
  all_goals refine ⟨ret_si ?_ rfl, by first | exact G7 | exact gb_drewN G7 _⟩
  all_goals rw [show (⟨#[75]⟩ : ByteArray) = Tp.tx [75] from rfl, show (⟨#[44]⟩ : ByteArray) = Tp.tx [44] from rfl]
  all_goals simp only [tx_app]
  all_goals simp

set_option maxHeartbeats 2000000 in
theorem print_g3y (x y t z : Int) (w : World) (ht : 0 ≤ t) (h0 : -9223372036854775808 ≤ z) (h1 : z ≤ 9223372036854775807) (htab : Hid (Tab w)) (hT : Hid (Tf w)) (h : Tp.chk 3 x y t z = 0) (hx : -9223372036854775808 ≤ x ∧ x ≤ 9223372036854775807) (hy : -9223372036854775808 ≤ y ∧ y ≤ 9223372036854775807) (hx0 : (x == 0) = true) (hy0 : (y == 0) = false) :
    Calls Tryd.prog 16 #[.agg #[.int .u8 3, .int .i64 x, .int .i64 y, .int .u8 t, .int .i64 z]] w fun e w' => e = .returned (.tuple #[.string (Tp.tx (75 :: (Lib.itoa x ++ (ttL 3 t z 1 ++ (44 :: (Lib.itoa y ++ ttL 3 t z 2)))))), .int .i64 0]) ∧ w.grownBy w' none := by
  have cg : ((ByteArray.mk #[80, 84, 75, 67, 83])[2]'(by decide)).toNat = 75 := rfl
  have l1 := Lib.itoa_length_le x hx.1 hx.2
  have l2 := Lib.itoa_length_le y hy.1 hy.2
  have l3 := ttL_le 3 t z 1 h0 h1
  have l4 := ttL_le 3 t z 2 h0 h1
  have hz0 : ¬ 9223372036854775807 < 1 + (Lib.itoa x).length := by omega
  have hz1 : ¬ 9223372036854775807 < 1 + (Lib.itoa x).length + (ttL 3 t z 1).length := by omega
  have hz2 : ¬ 9223372036854775807 < 1 + (Lib.itoa x).length + (ttL 3 t z 1).length + 1 := by omega
  have hz3 : ¬ 9223372036854775807 < 1 + (Lib.itoa x).length + (ttL 3 t z 1).length + 1 + (Lib.itoa y).length := by omega
  have hz4 : ¬ 9223372036854775807 < 1 + (Lib.itoa x).length + (ttL 3 t z 1).length + 1 + (Lib.itoa y).length + (ttL 3 t z 2).length := by omega
  clear l1 l2 l3 l4
  obtain ⟨W1, hW1, sz1, g1, B1⟩ := boxn w #[.int .u8 3, .int .i64 x, .int .i64 y, .int .u8 t, .int .i64 z] 23
  have c0 := B1.cell 0 (v := .int .u8 3) rfl
  have c1 := B1.cell 1 (v := .int .i64 x) rfl
  have c2 := B1.cell 2 (v := .int .i64 y) rfl
  have c3 := B1.cell 3 (v := .int .u8 t) rfl
  have c4 := B1.cell 4 (v := .int .i64 z) rfl
  go_enter Tryd.func16, Tryd.ntmps16
  go_wp2_with (first | (go_at_call 9; refine (checkC _ _ _ _ _ ht _).mono ?_; rintro e w2 ⟨rfl, g2⟩; have BT2 := B1.kept g2 (by simp); have G2 := gb_trans g1 g2; have d0 := BT2.cell 0 (v := .int .u8 3) rfl; have d1 := BT2.cell 1 (v := .int .i64 x) rfl; have d2 := BT2.cell 2 (v := .int .i64 y) rfl; have d3 := BT2.cell 3 (v := .int .u8 t) rfl; have d4 := BT2.cell 4 (v := .int .i64 z) rfl; obtain ⟨W3, hW3, sz3, g3, B3⟩ := boxn w2 #[.int .u8 75] 5; have BT3 := BT2.kept g3 (by simp); have G3 := gb_trans G2 g3; have ht3 := tabK htab G3; have hT3 := tfK hT G3; have e0 := BT3.cell 0 (v := .int .u8 3) rfl; have e1 := BT3.cell 1 (v := .int .i64 x) rfl; have e2 := BT3.cell 2 (v := .int .i64 y) rfl; have e3 := BT3.cell 3 (v := .int .u8 t) rfl; have e4 := BT3.cell 4 (v := .int .i64 z) rfl; have HC : (convert 70 9 (.slice (some ⟨w2.heap.size, 0, none⟩) 1 1)).run Tryd.prog W3 = .ok (.string ⟨#[75]⟩) W3 := (by rw [← hW3]; exact conv1 w2 75)))
  go_region_held2 (fun w' => w'.cell? ⟨w.heap.size, 0, none⟩ = some (.int .u8 3) ∧ w'.cell? ⟨w.heap.size, 1, none⟩ = some (.int .i64 x) ∧ w'.cell? ⟨w.heap.size, 2, none⟩ = some (.int .i64 y) ∧ w'.cell? ⟨w.heap.size, 3, none⟩ = some (.int .u8 t) ∧ w'.cell? ⟨w.heap.size, 4, none⟩ = some (.int .i64 z)) (go_keep) (first | (go_at_call_of 32 (Value.int IntKind.i64 x); (fail_if_success (guard_hyp g4)); refine (textC x _ hx.1 hx.2 (show Hid (Tab W3.drew) from ht3)).mono ?_; rintro e w4 ⟨rfl, g4⟩; have BT4 := BT3.dr.kept g4 (by simp); have G4 := gb_trans (gb_drew G3) g4; have ht4 := tabK htab G4; have hT4 := tfK hT G4; have f0 := BT4.cell 0 (v := .int .u8 3) rfl; have f1 := BT4.cell 1 (v := .int .i64 x) rfl; have f2 := BT4.cell 2 (v := .int .i64 y) rfl; have f3 := BT4.cell 3 (v := .int .u8 t) rfl; have f4 := BT4.cell 4 (v := .int .i64 z) rfl) | (go_at_call_of 33 (Value.int IntKind.i64 0); refine (tt0C _ _ _ _ _ _ h0 h1 ht4 hT4).mono ?_; rintro e w5 ⟨rfl, g5⟩; have BT5 := BT4.kept g5 (by simp); have G5 := gb_trans G4 g5; have ht5 := tabK htab G5; have hT5 := tfK hT G5; have i0 := BT5.cell 0 (v := .int .u8 3) rfl; have i1 := BT5.cell 1 (v := .int .i64 x) rfl; have i2 := BT5.cell 2 (v := .int .i64 y) rfl; have i3 := BT5.cell 3 (v := .int .u8 t) rfl; have i4 := BT5.cell 4 (v := .int .i64 z) rfl) | (go_at_call_of 32 (Value.int IntKind.i64 y); refine (textC y _ hy.1 hy.2 ht5).mono ?_; rintro e w6 ⟨rfl, g6⟩; have BT6 := BT5.kept g6 (by simp); have G6 := gb_trans G5 g6; have ht6 := tabK htab G6; have hT6 := tfK hT G6; have j0 := BT6.cell 0 (v := .int .u8 3) rfl; have j1 := BT6.cell 1 (v := .int .i64 x) rfl; have j2 := BT6.cell 2 (v := .int .i64 y) rfl; have j3 := BT6.cell 3 (v := .int .u8 t) rfl; have j4 := BT6.cell 4 (v := .int .i64 z) rfl) | (go_at_call_of 33 (Value.int IntKind.i64 1); refine (tt1C _ _ _ _ _ _ h0 h1 ht6 hT6).mono ?_; rintro e w7 ⟨rfl, g7⟩; have BT7 := BT6.kept g7 (by simp); have G7 := gb_trans G6 g7; have ht7 := tabK htab G7; have hT7 := tfK hT G7; have m0 := BT7.cell 0 (v := .int .u8 3) rfl; have m1 := BT7.cell 1 (v := .int .i64 x) rfl; have m2 := BT7.cell 2 (v := .int .i64 y) rfl; have m3 := BT7.cell 3 (v := .int .u8 t) rfl; have m4 := BT7.cell 4 (v := .int .i64 z) rfl))
  all_goals go_wp2
  all_goals go_ret2
  all_goals refine ⟨ret_si ?_ rfl, by first | exact G7 | exact gb_drewN G7 _⟩
  all_goals rw [show (⟨#[75]⟩ : ByteArray) = Tp.tx [75] from rfl, show (⟨#[44]⟩ : ByteArray) = Tp.tx [44] from rfl]
  all_goals simp only [tx_app]
  all_goals simp

set_option maxHeartbeats 2000000 in
theorem print_g4x (x y t z : Int) (w : World) (ht : 0 ≤ t) (h0 : -9223372036854775808 ≤ z) (h1 : z ≤ 9223372036854775807) (htab : Hid (Tab w)) (hT : Hid (Tf w)) (h : Tp.chk 4 x y t z = 0) (hx : -9223372036854775808 ≤ x ∧ x ≤ 9223372036854775807) (hy : -9223372036854775808 ≤ y ∧ y ≤ 9223372036854775807) (hx0 : (x == 0) = false) :
    Calls Tryd.prog 16 #[.agg #[.int .u8 4, .int .i64 x, .int .i64 y, .int .u8 t, .int .i64 z]] w fun e w' => e = .returned (.tuple #[.string (Tp.tx (67 :: (Lib.itoa x ++ (ttL 4 t z 1 ++ (44 :: (Lib.itoa y ++ ttL 4 t z 2)))))), .int .i64 0]) ∧ w.grownBy w' none := by
  have cg : ((ByteArray.mk #[80, 84, 75, 67, 83])[3]'(by decide)).toNat = 67 := rfl
  have l1 := Lib.itoa_length_le x hx.1 hx.2
  have l2 := Lib.itoa_length_le y hy.1 hy.2
  have l3 := ttL_le 4 t z 1 h0 h1
  have l4 := ttL_le 4 t z 2 h0 h1
  have hz0 : ¬ 9223372036854775807 < 1 + (Lib.itoa x).length := by omega
  have hz1 : ¬ 9223372036854775807 < 1 + (Lib.itoa x).length + (ttL 4 t z 1).length := by omega
  have hz2 : ¬ 9223372036854775807 < 1 + (Lib.itoa x).length + (ttL 4 t z 1).length + 1 := by omega
  have hz3 : ¬ 9223372036854775807 < 1 + (Lib.itoa x).length + (ttL 4 t z 1).length + 1 + (Lib.itoa y).length := by omega
  have hz4 : ¬ 9223372036854775807 < 1 + (Lib.itoa x).length + (ttL 4 t z 1).length + 1 + (Lib.itoa y).length + (ttL 4 t z 2).length := by omega
  clear l1 l2 l3 l4
  obtain ⟨W1, hW1, sz1, g1, B1⟩ := boxn w #[.int .u8 4, .int .i64 x, .int .i64 y, .int .u8 t, .int .i64 z] 23
  have c0 := B1.cell 0 (v := .int .u8 4) rfl
  have c1 := B1.cell 1 (v := .int .i64 x) rfl
  have c2 := B1.cell 2 (v := .int .i64 y) rfl
  have c3 := B1.cell 3 (v := .int .u8 t) rfl
  have c4 := B1.cell 4 (v := .int .i64 z) rfl
  go_enter Tryd.func16, Tryd.ntmps16
  go_wp2_with (first | (go_at_call 9; refine (checkC _ _ _ _ _ ht _).mono ?_; rintro e w2 ⟨rfl, g2⟩; have BT2 := B1.kept g2 (by simp); have G2 := gb_trans g1 g2; have d0 := BT2.cell 0 (v := .int .u8 4) rfl; have d1 := BT2.cell 1 (v := .int .i64 x) rfl; have d2 := BT2.cell 2 (v := .int .i64 y) rfl; have d3 := BT2.cell 3 (v := .int .u8 t) rfl; have d4 := BT2.cell 4 (v := .int .i64 z) rfl; obtain ⟨W3, hW3, sz3, g3, B3⟩ := boxn w2 #[.int .u8 67] 5; have BT3 := BT2.kept g3 (by simp); have G3 := gb_trans G2 g3; have ht3 := tabK htab G3; have hT3 := tfK hT G3; have e0 := BT3.cell 0 (v := .int .u8 4) rfl; have e1 := BT3.cell 1 (v := .int .i64 x) rfl; have e2 := BT3.cell 2 (v := .int .i64 y) rfl; have e3 := BT3.cell 3 (v := .int .u8 t) rfl; have e4 := BT3.cell 4 (v := .int .i64 z) rfl; have HC : (convert 70 9 (.slice (some ⟨w2.heap.size, 0, none⟩) 1 1)).run Tryd.prog W3 = .ok (.string ⟨#[67]⟩) W3 := (by rw [← hW3]; exact conv1 w2 67)))
  go_region_held2 (fun w' => w'.cell? ⟨w.heap.size, 0, none⟩ = some (.int .u8 4) ∧ w'.cell? ⟨w.heap.size, 1, none⟩ = some (.int .i64 x) ∧ w'.cell? ⟨w.heap.size, 2, none⟩ = some (.int .i64 y) ∧ w'.cell? ⟨w.heap.size, 3, none⟩ = some (.int .u8 t) ∧ w'.cell? ⟨w.heap.size, 4, none⟩ = some (.int .i64 z)) (go_keep) (first | (go_at_call_of 32 (Value.int IntKind.i64 x); (fail_if_success (guard_hyp g4)); refine (textC x _ hx.1 hx.2 (show Hid (Tab W3.drew) from ht3)).mono ?_; rintro e w4 ⟨rfl, g4⟩; have BT4 := BT3.dr.kept g4 (by simp); have G4 := gb_trans (gb_drew G3) g4; have ht4 := tabK htab G4; have hT4 := tfK hT G4; have f0 := BT4.cell 0 (v := .int .u8 4) rfl; have f1 := BT4.cell 1 (v := .int .i64 x) rfl; have f2 := BT4.cell 2 (v := .int .i64 y) rfl; have f3 := BT4.cell 3 (v := .int .u8 t) rfl; have f4 := BT4.cell 4 (v := .int .i64 z) rfl) | (go_at_call_of 33 (Value.int IntKind.i64 0); refine (tt0C _ _ _ _ _ _ h0 h1 ht4 hT4).mono ?_; rintro e w5 ⟨rfl, g5⟩; have BT5 := BT4.kept g5 (by simp); have G5 := gb_trans G4 g5; have ht5 := tabK htab G5; have hT5 := tfK hT G5; have i0 := BT5.cell 0 (v := .int .u8 4) rfl; have i1 := BT5.cell 1 (v := .int .i64 x) rfl; have i2 := BT5.cell 2 (v := .int .i64 y) rfl; have i3 := BT5.cell 3 (v := .int .u8 t) rfl; have i4 := BT5.cell 4 (v := .int .i64 z) rfl) | (go_at_call_of 32 (Value.int IntKind.i64 y); refine (textC y _ hy.1 hy.2 ht5).mono ?_; rintro e w6 ⟨rfl, g6⟩; have BT6 := BT5.kept g6 (by simp); have G6 := gb_trans G5 g6; have ht6 := tabK htab G6; have hT6 := tfK hT G6; have j0 := BT6.cell 0 (v := .int .u8 4) rfl; have j1 := BT6.cell 1 (v := .int .i64 x) rfl; have j2 := BT6.cell 2 (v := .int .i64 y) rfl; have j3 := BT6.cell 3 (v := .int .u8 t) rfl; have j4 := BT6.cell 4 (v := .int .i64 z) rfl) | (go_at_call_of 33 (Value.int IntKind.i64 1); refine (tt1C _ _ _ _ _ _ h0 h1 ht6 hT6).mono ?_; rintro e w7 ⟨rfl, g7⟩; have BT7 := BT6.kept g7 (by simp); have G7 := gb_trans G6 g7; have ht7 := tabK htab G7; have hT7 := tfK hT G7; have m0 := BT7.cell 0 (v := .int .u8 4) rfl; have m1 := BT7.cell 1 (v := .int .i64 x) rfl; have m2 := BT7.cell 2 (v := .int .i64 y) rfl; have m3 := BT7.cell 3 (v := .int .u8 t) rfl; have m4 := BT7.cell 4 (v := .int .i64 z) rfl))
  all_goals go_wp2
  all_goals go_ret2
  all_goals refine ⟨ret_si ?_ rfl, by first | exact G7 | exact gb_drewN G7 _⟩
  all_goals rw [show (⟨#[67]⟩ : ByteArray) = Tp.tx [67] from rfl, show (⟨#[44]⟩ : ByteArray) = Tp.tx [44] from rfl]
  all_goals simp only [tx_app]
  all_goals simp

set_option maxHeartbeats 2000000 in
theorem print_g4y (x y t z : Int) (w : World) (ht : 0 ≤ t) (h0 : -9223372036854775808 ≤ z) (h1 : z ≤ 9223372036854775807) (htab : Hid (Tab w)) (hT : Hid (Tf w)) (h : Tp.chk 4 x y t z = 0) (hx : -9223372036854775808 ≤ x ∧ x ≤ 9223372036854775807) (hy : -9223372036854775808 ≤ y ∧ y ≤ 9223372036854775807) (hx0 : (x == 0) = true) (hy0 : (y == 0) = false) :
    Calls Tryd.prog 16 #[.agg #[.int .u8 4, .int .i64 x, .int .i64 y, .int .u8 t, .int .i64 z]] w fun e w' => e = .returned (.tuple #[.string (Tp.tx (67 :: (Lib.itoa x ++ (ttL 4 t z 1 ++ (44 :: (Lib.itoa y ++ ttL 4 t z 2)))))), .int .i64 0]) ∧ w.grownBy w' none := by
  have cg : ((ByteArray.mk #[80, 84, 75, 67, 83])[3]'(by decide)).toNat = 67 := rfl
  have l1 := Lib.itoa_length_le x hx.1 hx.2
  have l2 := Lib.itoa_length_le y hy.1 hy.2
  have l3 := ttL_le 4 t z 1 h0 h1
  have l4 := ttL_le 4 t z 2 h0 h1
  have hz0 : ¬ 9223372036854775807 < 1 + (Lib.itoa x).length := by omega
  have hz1 : ¬ 9223372036854775807 < 1 + (Lib.itoa x).length + (ttL 4 t z 1).length := by omega
  have hz2 : ¬ 9223372036854775807 < 1 + (Lib.itoa x).length + (ttL 4 t z 1).length + 1 := by omega
  have hz3 : ¬ 9223372036854775807 < 1 + (Lib.itoa x).length + (ttL 4 t z 1).length + 1 + (Lib.itoa y).length := by omega
  have hz4 : ¬ 9223372036854775807 < 1 + (Lib.itoa x).length + (ttL 4 t z 1).length + 1 + (Lib.itoa y).length + (ttL 4 t z 2).length := by omega
  clear l1 l2 l3 l4
  obtain ⟨W1, hW1, sz1, g1, B1⟩ := boxn w #[.int .u8 4, .int .i64 x, .int .i64 y, .int .u8 t, .int .i64 z] 23
  have c0 := B1.cell 0 (v := .int .u8 4) rfl
  have c1 := B1.cell 1 (v := .int .i64 x) rfl
  have c2 := B1.cell 2 (v := .int .i64 y) rfl
  have c3 := B1.cell 3 (v := .int .u8 t) rfl
  have c4 := B1.cell 4 (v := .int .i64 z) rfl
  go_enter Tryd.func16, Tryd.ntmps16
  go_wp2_with (first | (go_at_call 9; refine (checkC _ _ _ _ _ ht _).mono ?_; rintro e w2 ⟨rfl, g2⟩; have BT2 := B1.kept g2 (by simp); have G2 := gb_trans g1 g2; have d0 := BT2.cell 0 (v := .int .u8 4) rfl; have d1 := BT2.cell 1 (v := .int .i64 x) rfl; have d2 := BT2.cell 2 (v := .int .i64 y) rfl; have d3 := BT2.cell 3 (v := .int .u8 t) rfl; have d4 := BT2.cell 4 (v := .int .i64 z) rfl; obtain ⟨W3, hW3, sz3, g3, B3⟩ := boxn w2 #[.int .u8 67] 5; have BT3 := BT2.kept g3 (by simp); have G3 := gb_trans G2 g3; have ht3 := tabK htab G3; have hT3 := tfK hT G3; have e0 := BT3.cell 0 (v := .int .u8 4) rfl; have e1 := BT3.cell 1 (v := .int .i64 x) rfl; have e2 := BT3.cell 2 (v := .int .i64 y) rfl; have e3 := BT3.cell 3 (v := .int .u8 t) rfl; have e4 := BT3.cell 4 (v := .int .i64 z) rfl; have HC : (convert 70 9 (.slice (some ⟨w2.heap.size, 0, none⟩) 1 1)).run Tryd.prog W3 = .ok (.string ⟨#[67]⟩) W3 := (by rw [← hW3]; exact conv1 w2 67)))
  go_region_held2 (fun w' => w'.cell? ⟨w.heap.size, 0, none⟩ = some (.int .u8 4) ∧ w'.cell? ⟨w.heap.size, 1, none⟩ = some (.int .i64 x) ∧ w'.cell? ⟨w.heap.size, 2, none⟩ = some (.int .i64 y) ∧ w'.cell? ⟨w.heap.size, 3, none⟩ = some (.int .u8 t) ∧ w'.cell? ⟨w.heap.size, 4, none⟩ = some (.int .i64 z)) (go_keep) (first | (go_at_call_of 32 (Value.int IntKind.i64 x); (fail_if_success (guard_hyp g4)); refine (textC x _ hx.1 hx.2 (show Hid (Tab W3.drew) from ht3)).mono ?_; rintro e w4 ⟨rfl, g4⟩; have BT4 := BT3.dr.kept g4 (by simp); have G4 := gb_trans (gb_drew G3) g4; have ht4 := tabK htab G4; have hT4 := tfK hT G4; have f0 := BT4.cell 0 (v := .int .u8 4) rfl; have f1 := BT4.cell 1 (v := .int .i64 x) rfl; have f2 := BT4.cell 2 (v := .int .i64 y) rfl; have f3 := BT4.cell 3 (v := .int .u8 t) rfl; have f4 := BT4.cell 4 (v := .int .i64 z) rfl) | (go_at_call_of 33 (Value.int IntKind.i64 0); refine (tt0C _ _ _ _ _ _ h0 h1 ht4 hT4).mono ?_; rintro e w5 ⟨rfl, g5⟩; have BT5 := BT4.kept g5 (by simp); have G5 := gb_trans G4 g5; have ht5 := tabK htab G5; have hT5 := tfK hT G5; have i0 := BT5.cell 0 (v := .int .u8 4) rfl; have i1 := BT5.cell 1 (v := .int .i64 x) rfl; have i2 := BT5.cell 2 (v := .int .i64 y) rfl; have i3 := BT5.cell 3 (v := .int .u8 t) rfl; have i4 := BT5.cell 4 (v := .int .i64 z) rfl) | (go_at_call_of 32 (Value.int IntKind.i64 y); refine (textC y _ hy.1 hy.2 ht5).mono ?_; rintro e w6 ⟨rfl, g6⟩; have BT6 := BT5.kept g6 (by simp); have G6 := gb_trans G5 g6; have ht6 := tabK htab G6; have hT6 := tfK hT G6; have j0 := BT6.cell 0 (v := .int .u8 4) rfl; have j1 := BT6.cell 1 (v := .int .i64 x) rfl; have j2 := BT6.cell 2 (v := .int .i64 y) rfl; have j3 := BT6.cell 3 (v := .int .u8 t) rfl; have j4 := BT6.cell 4 (v := .int .i64 z) rfl) | (go_at_call_of 33 (Value.int IntKind.i64 1); refine (tt1C _ _ _ _ _ _ h0 h1 ht6 hT6).mono ?_; rintro e w7 ⟨rfl, g7⟩; have BT7 := BT6.kept g7 (by simp); have G7 := gb_trans G6 g7; have ht7 := tabK htab G7; have hT7 := tfK hT G7; have m0 := BT7.cell 0 (v := .int .u8 4) rfl; have m1 := BT7.cell 1 (v := .int .i64 x) rfl; have m2 := BT7.cell 2 (v := .int .i64 y) rfl; have m3 := BT7.cell 3 (v := .int .u8 t) rfl; have m4 := BT7.cell 4 (v := .int .i64 z) rfl))
  all_goals go_wp2
  all_goals go_ret2
  all_goals refine ⟨ret_si ?_ rfl, by first | exact G7 | exact gb_drewN G7 _⟩
  all_goals rw [show (⟨#[67]⟩ : ByteArray) = Tp.tx [67] from rfl, show (⟨#[44]⟩ : ByteArray) = Tp.tx [44] from rfl]
  all_goals simp only [tx_app]
  all_goals simp
end Go.Proofs.YteegbhnfkcbnoabDoor
