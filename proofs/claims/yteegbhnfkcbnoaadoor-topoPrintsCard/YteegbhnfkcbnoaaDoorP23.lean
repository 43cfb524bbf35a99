/- What the document's Print answers. -/
import Derived.Test.YteegbhnfkcbnoaaDoorTextR
import Derived.Test.YteegbhnfkcbnoaaDoorTr
import Derived.Test.YteegbhnfkcbnoaaDoorT5
import Derived.Deep.RegionHeld2
namespace Go.Proofs.YteegbhnfkcbnoaaDoor
open Go.RowKit
set_option linter.unusedVariables false
set_option linter.unusedSimpArgs false
set_option maxRecDepth 100000

theorem rTextC (n : Int) (w : World) (h : -9223372036854775808 ≤ n ∧ n ≤ 9223372036854775807) : Calls Tryd.prog 27 #[.int .i64 n] w fun e w' => e = .returned (.string (Tp.tx (Lib.itoa n))) ∧ w.grownBy w' none :=
  (textRef n w h.1 h.2).mono fun e w' ⟨h1, h2⟩ => ⟨h1, gb_of_below h2⟩
def rtL (k t z i : Int) : List UInt8 := if t = i then (if k = 3 then [42] else []) ++ ((if 0 < z then [43] else []) ++ (if z = 0 then [] else Lib.itoa z)) else []

set_option maxHeartbeats 1000000 in
theorem rt1_no (k x y t z : Int) (w : World) (hz : -9223372036854775808 ≤ z ∧ z ≤ 9223372036854775807) (hn : (t != 1) = true) : Calls Tryd.prog 28 #[.agg #[.int .u8 k, .int .i64 x, .int .i64 y, .int .u8 t, .int .i64 z], .int .u8 1] w fun e w' => e = .returned (.string (Tp.tx ([]))) ∧ w.grownBy w' none := by
  have hl := Lib.itoa_length_le z hz.1 hz.2
  have l1 : ¬ 9223372036854775807 < 1 + (Lib.itoa z).length := by omega
  have l2 : ¬ 9223372036854775807 < 1 + 1 + (Lib.itoa z).length := by omega
  have l3 : ¬ 9223372036854775807 < 2 + (Lib.itoa z).length := by omega
  have l4 : ¬ 9223372036854775807 < (Lib.itoa z).length := by omega
  clear hl
  obtain ⟨W1, hW1, sz1, g1, B1⟩ := boxn w #[.int .u8 k, .int .i64 x, .int .i64 y, .int .u8 t, .int .i64 z] 23
  have c0 := B1.cell 0 (v := .int .u8 k) rfl
  have c1 := B1.cell 1 (v := .int .i64 x) rfl
  have c2 := B1.cell 2 (v := .int .i64 y) rfl
  have c3 := B1.cell 3 (v := .int .u8 t) rfl
  have c4 := B1.cell 4 (v := .int .i64 z) rfl
  go_enter Tryd.func28, Tryd.ntmps28
  go_wp2_with (first | fail)
  go_ret
  refine ⟨ret_s ?_, g1⟩
  rfl

set_option maxHeartbeats 1000000 in
theorem rt1_kz (x y z : Int) (w : World) (hz : -9223372036854775808 ≤ z ∧ z ≤ 9223372036854775807)  (z1 : ¬ 0 < z) (z2 : (z != 0) = false) : Calls Tryd.prog 28 #[.agg #[.int .u8 3, .int .i64 x, .int .i64 y, .int .u8 1, .int .i64 z], .int .u8 1] w fun e w' => e = .returned (.string (Tp.tx ([42]))) ∧ w.grownBy w' none := by
  have hl := Lib.itoa_length_le z hz.1 hz.2
  have l1 : ¬ 9223372036854775807 < 1 + (Lib.itoa z).length := by omega
  have l2 : ¬ 9223372036854775807 < 1 + 1 + (Lib.itoa z).length := by omega
  have l3 : ¬ 9223372036854775807 < 2 + (Lib.itoa z).length := by omega
  have l4 : ¬ 9223372036854775807 < (Lib.itoa z).length := by omega
  clear hl
  obtain ⟨W1, hW1, sz1, g1, B1⟩ := boxn w #[.int .u8 3, .int .i64 x, .int .i64 y, .int .u8 1, .int .i64 z] 23
  have c0 := B1.cell 0 (v := .int .u8 3) rfl
  have c1 := B1.cell 1 (v := .int .i64 x) rfl
  have c2 := B1.cell 2 (v := .int .i64 y) rfl
  have c3 := B1.cell 3 (v := .int .u8 1) rfl
  have c4 := B1.cell 4 (v := .int .i64 z) rfl
  go_enter Tryd.func28, Tryd.ntmps28
  go_wp2_with (first | fail)
  go_ret
  refine ⟨ret_s ?_, g1⟩
  rfl

set_option maxHeartbeats 1000000 in
theorem rt1_kn (x y z : Int) (w : World) (hz : -9223372036854775808 ≤ z ∧ z ≤ 9223372036854775807)  (z1 : ¬ 0 < z) (z2 : (z != 0) = true) : Calls Tryd.prog 28 #[.agg #[.int .u8 3, .int .i64 x, .int .i64 y, .int .u8 1, .int .i64 z], .int .u8 1] w fun e w' => e = .returned (.string (Tp.tx ([42] ++ Lib.itoa z))) ∧ w.grownBy w' none := by
  have hl := Lib.itoa_length_le z hz.1 hz.2
  have l1 : ¬ 9223372036854775807 < 1 + (Lib.itoa z).length := by omega
  have l2 : ¬ 9223372036854775807 < 1 + 1 + (Lib.itoa z).length := by omega
  have l3 : ¬ 9223372036854775807 < 2 + (Lib.itoa z).length := by omega
  have l4 : ¬ 9223372036854775807 < (Lib.itoa z).length := by omega
  clear hl
  obtain ⟨W1, hW1, sz1, g1, B1⟩ := boxn w #[.int .u8 3, .int .i64 x, .int .i64 y, .int .u8 1, .int .i64 z] 23
  have c0 := B1.cell 0 (v := .int .u8 3) rfl
  have c1 := B1.cell 1 (v := .int .i64 x) rfl
  have c2 := B1.cell 2 (v := .int .i64 y) rfl
  have c3 := B1.cell 3 (v := .int .u8 1) rfl
  have c4 := B1.cell 4 (v := .int .i64 z) rfl
  go_enter Tryd.func28, Tryd.ntmps28
  go_wp2_with (first | (go_at_call 27; refine (rTextC _ _ hz).mono ?_; rintro e w2 ⟨rfl, g2⟩))
  go_ret
  refine ⟨ret_s ?_, gb_trans g1 g2⟩
  exact tx_app [42] _

set_option maxHeartbeats 1000000 in
theorem rt1_kp (x y z : Int) (w : World) (hz : -9223372036854775808 ≤ z ∧ z ≤ 9223372036854775807)  (z1 : 0 < z) (z2 : (z != 0) = true) : Calls Tryd.prog 28 #[.agg #[.int .u8 3, .int .i64 x, .int .i64 y, .int .u8 1, .int .i64 z], .int .u8 1] w fun e w' => e = .returned (.string (Tp.tx ([42, 43] ++ Lib.itoa z))) ∧ w.grownBy w' none := by
  have hl := Lib.itoa_length_le z hz.1 hz.2
  have l1 : ¬ 9223372036854775807 < 1 + (Lib.itoa z).length := by omega
  have l2 : ¬ 9223372036854775807 < 1 + 1 + (Lib.itoa z).length := by omega
  have l3 : ¬ 9223372036854775807 < 2 + (Lib.itoa z).length := by omega
  have l4 : ¬ 9223372036854775807 < (Lib.itoa z).length := by omega
  clear hl
  obtain ⟨W1, hW1, sz1, g1, B1⟩ := boxn w #[.int .u8 3, .int .i64 x, .int .i64 y, .int .u8 1, .int .i64 z] 23
  have c0 := B1.cell 0 (v := .int .u8 3) rfl
  have c1 := B1.cell 1 (v := .int .i64 x) rfl
  have c2 := B1.cell 2 (v := .int .i64 y) rfl
  have c3 := B1.cell 3 (v := .int .u8 1) rfl
  have c4 := B1.cell 4 (v := .int .i64 z) rfl
  go_enter Tryd.func28, Tryd.ntmps28
  go_wp2_with (first | (go_at_call 27; refine (rTextC _ _ hz).mono ?_; rintro e w2 ⟨rfl, g2⟩))
  go_ret
  refine ⟨ret_s ?_, gb_trans g1 g2⟩
  exact tx_app [42, 43] _

set_option maxHeartbeats 1000000 in
theorem rt1_oz (k x y z : Int) (w : World) (hz : -9223372036854775808 ≤ z ∧ z ≤ 9223372036854775807) (hk : (k == 3) = false) (z1 : ¬ 0 < z) (z2 : (z != 0) = false) : Calls Tryd.prog 28 #[.agg #[.int .u8 k, .int .i64 x, .int .i64 y, .int .u8 1, .int .i64 z], .int .u8 1] w fun e w' => e = .returned (.string (Tp.tx ([]))) ∧ w.grownBy w' none := by
  have hl := Lib.itoa_length_le z hz.1 hz.2
  have l1 : ¬ 9223372036854775807 < 1 + (Lib.itoa z).length := by omega
  have l2 : ¬ 9223372036854775807 < 1 + 1 + (Lib.itoa z).length := by omega
  have l3 : ¬ 9223372036854775807 < 2 + (Lib.itoa z).length := by omega
  have l4 : ¬ 9223372036854775807 < (Lib.itoa z).length := by omega
  clear hl
  obtain ⟨W1, hW1, sz1, g1, B1⟩ := boxn w #[.int .u8 k, .int .i64 x, .int .i64 y, .int .u8 1, .int .i64 z] 23
  have c0 := B1.cell 0 (v := .int .u8 k) rfl
  have c1 := B1.cell 1 (v := .int .i64 x) rfl
  have c2 := B1.cell 2 (v := .int .i64 y) rfl
  have c3 := B1.cell 3 (v := .int .u8 1) rfl
  have c4 := B1.cell 4 (v := .int .i64 z) rfl
  go_enter Tryd.func28, Tryd.ntmps28
  go_wp2_with (first | fail)
  go_ret
  refine ⟨ret_s ?_, g1⟩
  rfl

set_option maxHeartbeats 1000000 in
theorem rt1_on (k x y z : Int) (w : World) (hz : -9223372036854775808 ≤ z ∧ z ≤ 9223372036854775807) (hk : (k == 3) = false) (z1 : ¬ 0 < z) (z2 : (z != 0) = true) : Calls Tryd.prog 28 #[.agg #[.int .u8 k, .int .i64 x, .int .i64 y, .int .u8 1, .int .i64 z], .int .u8 1] w fun e w' => e = .returned (.string (Tp.tx ([] ++ Lib.itoa z))) ∧ w.grownBy w' none := by
  have hl := Lib.itoa_length_le z hz.1 hz.2
  have l1 : ¬ 9223372036854775807 < 1 + (Lib.itoa z).length := by omega
  have l2 : ¬ 9223372036854775807 < 1 + 1 + (Lib.itoa z).length := by omega
  have l3 : ¬ 9223372036854775807 < 2 + (Lib.itoa z).length := by omega
  have l4 : ¬ 9223372036854775807 < (Lib.itoa z).length := by omega
  clear hl
  obtain ⟨W1, hW1, sz1, g1, B1⟩ := boxn w #[.int .u8 k, .int .i64 x, .int .i64 y, .int .u8 1, .int .i64 z] 23
  have c0 := B1.cell 0 (v := .int .u8 k) rfl
  have c1 := B1.cell 1 (v := .int .i64 x) rfl
  have c2 := B1.cell 2 (v := .int .i64 y) rfl
  have c3 := B1.cell 3 (v := .int .u8 1) rfl
  have c4 := B1.cell 4 (v := .int .i64 z) rfl
  go_enter Tryd.func28, Tryd.ntmps28
  go_wp2_with (first | (go_at_call 27; refine (rTextC _ _ hz).mono ?_; rintro e w2 ⟨rfl, g2⟩))
  go_ret
  refine ⟨ret_s ?_, gb_trans g1 g2⟩
  exact tx_app [] _

set_option maxHeartbeats 1000000 in
theorem rt1_op (k x y z : Int) (w : World) (hz : -9223372036854775808 ≤ z ∧ z ≤ 9223372036854775807) (hk : (k == 3) = false) (z1 : 0 < z) (z2 : (z != 0) = true) : Calls Tryd.prog 28 #[.agg #[.int .u8 k, .int .i64 x, .int .i64 y, .int .u8 1, .int .i64 z], .int .u8 1] w fun e w' => e = .returned (.string (Tp.tx ([43] ++ Lib.itoa z))) ∧ w.grownBy w' none := by
  have hl := Lib.itoa_length_le z hz.1 hz.2
  have l1 : ¬ 9223372036854775807 < 1 + (Lib.itoa z).length := by omega
  have l2 : ¬ 9223372036854775807 < 1 + 1 + (Lib.itoa z).length := by omega
  have l3 : ¬ 9223372036854775807 < 2 + (Lib.itoa z).length := by omega
  have l4 : ¬ 9223372036854775807 < (Lib.itoa z).length := by omega
  clear hl
  obtain ⟨W1, hW1, sz1, g1, B1⟩ := boxn w #[.int .u8 k, .int .i64 x, .int .i64 y, .int .u8 1, .int .i64 z] 23
  have c0 := B1.cell 0 (v := .int .u8 k) rfl
  have c1 := B1.cell 1 (v := .int .i64 x) rfl
  have c2 := B1.cell 2 (v := .int .i64 y) rfl
  have c3 := B1.cell 3 (v := .int .u8 1) rfl
  have c4 := B1.cell 4 (v := .int .i64 z) rfl
  go_enter Tryd.func28, Tryd.ntmps28
  go_wp2_with (first | (go_at_call 27; refine (rTextC _ _ hz).mono ?_; rintro e w2 ⟨rfl, g2⟩))
  go_ret
  refine ⟨ret_s ?_, gb_trans g1 g2⟩
  exact tx_app [43] _

theorem rt1C (k x y t z : Int) (w : World) (hz : -9223372036854775808 ≤ z ∧ z ≤ 9223372036854775807) : Calls Tryd.prog 28 #[.agg #[.int .u8 k, .int .i64 x, .int .i64 y, .int .u8 t, .int .i64 z], .int .u8 1] w fun e w' => e = .returned (.string (Tp.tx (rtL k t z 1))) ∧ w.grownBy w' none := by
  unfold rtL
  by_cases ht : t = 1
  · subst ht
    rw [if_pos rfl]
    by_cases hk : k = 3
    · subst hk
      rw [if_pos rfl]
      by_cases z1 : 0 < z
      · rw [if_pos z1, if_neg (by omega)]; exact rt1_kp x y z w hz z1 (by simp; omega)
      · rw [if_neg z1]
        by_cases z2 : z = 0
        · rw [if_pos z2]; exact rt1_kz x y z w hz z1 (by simp [z2])
        · rw [if_neg z2]; exact rt1_kn x y z w hz z1 (by simp [z2])
    · rw [if_neg hk]
      by_cases z1 : 0 < z
      · rw [if_pos z1, if_neg (by omega)]; exact rt1_op k x y z w hz (by simp [hk]) z1 (by simp; omega)
      · rw [if_neg z1]
        by_cases z2 : z = 0
        · rw [if_pos z2]; exact rt1_oz k x y z w hz (by simp [hk]) z1 (by simp [z2])
        · rw [if_neg z2]; exact rt1_on k x y z w hz (by simp [hk]) z1 (by simp [z2])
  · rw [if_neg ht]; exact rt1_no k x y t z w hz (by simp [ht])

set_option maxHeartbeats 1000000 in
theorem rt2_no (k x y t z : Int) (w : World) (hz : -9223372036854775808 ≤ z ∧ z ≤ 9223372036854775807) (hn : (t != 2) = true) : Calls Tryd.prog 28 #[.agg #[.int .u8 k, .int .i64 x, .int .i64 y, .int .u8 t, .int .i64 z], .int .u8 2] w fun e w' => e = .returned (.string (Tp.tx ([]))) ∧ w.grownBy w' none := by
  have hl := Lib.itoa_length_le z hz.1 hz.2
  have l1 : ¬ 9223372036854775807 < 1 + (Lib.itoa z).length := by omega
  have l2 : ¬ 9223372036854775807 < 1 + 1 + (Lib.itoa z).length := by omega
  have l3 : ¬ 9223372036854775807 < 2 + (Lib.itoa z).length := by omega
  have l4 : ¬ 9223372036854775807 < (Lib.itoa z).length := by omega
  clear hl
  obtain ⟨W1, hW1, sz1, g1, B1⟩ := boxn w #[.int .u8 k, .int .i64 x, .int .i64 y, .int .u8 t, .int .i64 z] 23
  have c0 := B1.cell 0 (v := .int .u8 k) rfl
  have c1 := B1.cell 1 (v := .int .i64 x) rfl
  have c2 := B1.cell 2 (v := .int .i64 y) rfl
  have c3 := B1.cell 3 (v := .int .u8 t) rfl
  have c4 := B1.cell 4 (v := .int .i64 z) rfl
  go_enter Tryd.func28, Tryd.ntmps28
  go_wp2_with (first | fail)
  go_ret
  refine ⟨ret_s ?_, g1⟩
  rfl

set_option maxHeartbeats 1000000 in
theorem rt2_kz (x y z : Int) (w : World) (hz : -9223372036854775808 ≤ z ∧ z ≤ 9223372036854775807)  (z1 : ¬ 0 < z) (z2 : (z != 0) = false) : Calls Tryd.prog 28 #[.agg #[.int .u8 3, .int .i64 x, .int .i64 y, .int .u8 2, .int .i64 z], .int .u8 2] w fun e w' => e = .returned (.string (Tp.tx ([42]))) ∧ w.grownBy w' none := by
  have hl := Lib.itoa_length_le z hz.1 hz.2
  have l1 : ¬ 9223372036854775807 < 1 + (Lib.itoa z).length := by omega
  have l2 : ¬ 9223372036854775807 < 1 + 1 + (Lib.itoa z).length := by omega
  have l3 : ¬ 9223372036854775807 < 2 + (Lib.itoa z).length := by omega
  have l4 : ¬ 9223372036854775807 < (Lib.itoa z).length := by omega
  clear hl
  obtain ⟨W1, hW1, sz1, g1, B1⟩ := boxn w #[.int .u8 3, .int .i64 x, .int .i64 y, .int .u8 2, .int .i64 z] 23
  have c0 := B1.cell 0 (v := .int .u8 3) rfl
  have c1 := B1.cell 1 (v := .int .i64 x) rfl
  have c2 := B1.cell 2 (v := .int .i64 y) rfl
  have c3 := B1.cell 3 (v := .int .u8 2) rfl
  have c4 := B1.cell 4 (v := .int .i64 z) rfl
  go_enter Tryd.func28, Tryd.ntmps28
  go_wp2_with (first | fail)
  go_ret
  refine ⟨ret_s ?_, g1⟩
  rfl

set_option maxHeartbeats 1000000 in
theorem rt2_kn (x y z : Int) (w : World) (hz : -9223372036854775808 ≤ z ∧ z ≤ 9223372036854775807)  (z1 : ¬ 0 < z) (z2 : (z != 0) = true) : Calls Tryd.prog 28 #[.agg #[.int .u8 3, .int .i64 x, .int .i64 y, .int .u8 2, .int .i64 z], .int .u8 2] w fun e w' => e = .returned (.string (Tp.tx ([42] ++ Lib.itoa z))) ∧ w.grownBy w' none := by
  have hl := Lib.itoa_length_le z hz.1 hz.2
  have l1 : ¬ 9223372036854775807 < 1 + (Lib.itoa z).length := by omega
  have l2 : ¬ 9223372036854775807 < 1 + 1 + (Lib.itoa z).length := by omega
  have l3 : ¬ 9223372036854775807 < 2 + (Lib.itoa z).length := by omega
  have l4 : ¬ 9223372036854775807 < (Lib.itoa z).length := by omega
  clear hl
  obtain ⟨W1, hW1, sz1, g1, B1⟩ := boxn w #[.int .u8 3, .int .i64 x, .int .i64 y, .int .u8 2, .int .i64 z] 23
  have c0 := B1.cell 0 (v := .int .u8 3) rfl
  have c1 := B1.cell 1 (v := .int .i64 x) rfl
  have c2 := B1.cell 2 (v := .int .i64 y) rfl
  have c3 := B1.cell 3 (v := .int .u8 2) rfl
  have c4 := B1.cell 4 (v := .int .i64 z) rfl
  go_enter Tryd.func28, Tryd.ntmps28
  go_wp2_with (first | (go_at_call 27; refine (rTextC _ _ hz).mono ?_; rintro e w2 ⟨rfl, g2⟩))
  go_ret
  refine ⟨ret_s ?_, gb_trans g1 g2⟩
  exact tx_app [42] _

set_option maxHeartbeats 1000000 in
theorem rt2_kp (x y z : Int) (w : World) (hz : -9223372036854775808 ≤ z ∧ z ≤ 9223372036854775807)  (z1 : 0 < z) (z2 : (z != 0) = true) : Calls Tryd.prog 28 #[.agg #[.int .u8 3, .int .i64 x, .int .i64 y, .int .u8 2, .int .i64 z], .int .u8 2] w fun e w' => e = .returned (.string (Tp.tx ([42, 43] ++ Lib.itoa z))) ∧ w.grownBy w' none := by
  have hl := Lib.itoa_length_le z hz.1 hz.2
  have l1 : ¬ 9223372036854775807 < 1 + (Lib.itoa z).length := by omega
  have l2 : ¬ 9223372036854775807 < 1 + 1 + (Lib.itoa z).length := by omega
  have l3 : ¬ 9223372036854775807 < 2 + (Lib.itoa z).length := by omega
  have l4 : ¬ 9223372036854775807 < (Lib.itoa z).length := by omega
  clear hl
  obtain ⟨W1, hW1, sz1, g1, B1⟩ := boxn w #[.int .u8 3, .int .i64 x, .int .i64 y, .int .u8 2, .int .i64 z] 23
  have c0 := B1.cell 0 (v := .int .u8 3) rfl
  have c1 := B1.cell 1 (v := .int .i64 x) rfl
  have c2 := B1.cell 2 (v := .int .i64 y) rfl
  have c3 := B1.cell 3 (v := .int .u8 2) rfl
  have c4 := B1.cell 4 (v := .int .i64 z) rfl
  go_enter Tryd.func28, Tryd.ntmps28
  go_wp2_with (first | (go_at_call 27; refine (rTextC _ _ hz).mono ?_; rintro e w2 ⟨rfl, g2⟩))
  go_ret
  refine ⟨ret_s ?_, gb_trans g1 g2⟩
  exact tx_app [42, 43] _

set_option maxHeartbeats 1000000 in
theorem rt2_oz (k x y z : Int) (w : World) (hz : -9223372036854775808 ≤ z ∧ z ≤ 9223372036854775807) (hk : (k == 3) = false) (z1 : ¬ 0 < z) (z2 : (z != 0) = false) : Calls Tryd.prog 28 #[.agg #[.int .u8 k, .int .i64 x, .int .i64 y, .int .u8 2, .int .i64 z], .int .u8 2] w fun e w' => e = .returned (.string (Tp.tx ([]))) ∧ w.grownBy w' none := by
  have hl := Lib.itoa_length_le z hz.1 hz.2
  have l1 : ¬ 9223372036854775807 < 1 + (Lib.itoa z).length := by omega
  have l2 : ¬ 9223372036854775807 < 1 + 1 + (Lib.itoa z).length := by omega
  have l3 : ¬ 9223372036854775807 < 2 + (Lib.itoa z).length := by omega
  have l4 : ¬ 9223372036854775807 < (Lib.itoa z).length := by omega
  clear hl
  obtain ⟨W1, hW1, sz1, g1, B1⟩ := boxn w #[.int .u8 k, .int .i64 x, .int .i64 y, .int .u8 2, .int .i64 z] 23
  have c0 := B1.cell 0 (v := .int .u8 k) rfl
  have c1 := B1.cell 1 (v := .int .i64 x) rfl
  have c2 := B1.cell 2 (v := .int .i64 y) rfl
  have c3 := B1.cell 3 (v := .int .u8 2) rfl
  have c4 := B1.cell 4 (v := .int .i64 z) rfl
  go_enter Tryd.func28, Tryd.ntmps28
  go_wp2_with (first | fail)
  go_ret
  refine ⟨ret_s ?_, g1⟩
  rfl

set_option maxHeartbeats 1000000 in
theorem rt2_on (k x y z : Int) (w : World) (hz : -9223372036854775808 ≤ z ∧ z ≤ 9223372036854775807) (hk : (k == 3) = false) (z1 : ¬ 0 < z) (z2 : (z != 0) = true) : Calls Tryd.prog 28 #[.agg #[.int .u8 k, .int .i64 x, .int .i64 y, .int .u8 2, .int .i64 z], .int .u8 2] w fun e w' => e = .returned (.string (Tp.tx ([] ++ Lib.itoa z))) ∧ w.grownBy w' none := by
  have hl := Lib.itoa_length_le z hz.1 hz.2
  have l1 : ¬ 9223372036854775807 < 1 + (Lib.itoa z).length := by omega
  have l2 : ¬ 9223372036854775807 < 1 + 1 + (Lib.itoa z).length := by omega
  have l3 : ¬ 9223372036854775807 < 2 + (Lib.itoa z).length := by omega
  have l4 : ¬ 9223372036854775807 < (Lib.itoa z).length := by omega
  clear hl
  obtain ⟨W1, hW1, sz1, g1, B1⟩ := boxn w #[.int .u8 k, .int .i64 x, .int .i64 y, .int .u8 2, .int .i64 z] 23
  have c0 := B1.cell 0 (v := .int .u8 k) rfl
  have c1 := B1.cell 1 (v := .int .i64 x) rfl
  have c2 := B1.cell 2 (v := .int .i64 y) rfl
  have c3 := B1.cell 3 (v := .int .u8 2) rfl
  have c4 := B1.cell 4 (v := .int .i64 z) rfl
  go_enter Tryd.func28, Tryd.ntmps28
  go_wp2_with (first | (go_at_call 27; refine (rTextC _ _ hz).mono ?_; rintro e w2 ⟨rfl, g2⟩))
  go_ret
  refine ⟨ret_s ?_, gb_trans g1 g2⟩
  exact tx_app [] _

set_option maxHeartbeats 1000000 in
theorem rt2_op (k x y z : Int) (w : World) (hz : -9223372036854775808 ≤ z ∧ z ≤ 9223372036854775807) (hk : (k == 3) = false) (z1 : 0 < z) (z2 : (z != 0) = true) : Calls Tryd.prog 28 #[.agg #[.int .u8 k, .int .i64 x, .int .i64 y, .int .u8 2, .int .i64 z], .int .u8 2] w fun e w' => e = .returned (.string (Tp.tx ([43] ++ Lib.itoa z))) ∧ w.grownBy w' none := by
  have hl := Lib.itoa_length_le z hz.1 hz.2
  have l1 : ¬ 9223372036854775807 < 1 + (Lib.itoa z).length := by omega
  have l2 : ¬ 9223372036854775807 < 1 + 1 + (Lib.itoa z).length := by omega
  have l3 : ¬ 9223372036854775807 < 2 + (Lib.itoa z).length := by omega
  have l4 : ¬ 9223372036854775807 < (Lib.itoa z).length := by omega
  clear hl
  obtain ⟨W1, hW1, sz1, g1, B1⟩ := boxn w #[.int .u8 k, .int .i64 x, .int .i64 y, .int .u8 2, .int .i64 z] 23
  have c0 := B1.cell 0 (v := .int .u8 k) rfl
  have c1 := B1.cell 1 (v := .int .i64 x) rfl
  have c2 := B1.cell 2 (v := .int .i64 y) rfl
  have c3 := B1.cell 3 (v := .int .u8 2) rfl
  have c4 := B1.cell 4 (v := .int .i64 z) rfl
  go_enter Tryd.func28, Tryd.ntmps28
  go_wp2_with (first | (go_at_call 27; refine (rTextC _ _ hz).mono ?_; rintro e w2 ⟨rfl, g2⟩))
  go_ret
  refine ⟨ret_s ?_, gb_trans g1 g2⟩
  exact tx_app [43] _

theorem rt2C (k x y t z : Int) (w : World) (hz : -9223372036854775808 ≤ z ∧ z ≤ 9223372036854775807) : Calls Tryd.prog 28 #[.agg #[.int .u8 k, .int .i64 x, .int .i64 y, .int .u8 t, .int .i64 z], .int .u8 2] w fun e w' => e = .returned (.string (Tp.tx (rtL k t z 2))) ∧ w.grownBy w' none := by
  unfold rtL
  by_cases ht : t = 2
  · subst ht
    rw [if_pos rfl]
    by_cases hk : k = 3
    · subst hk
      rw [if_pos rfl]
      by_cases z1 : 0 < z
      · rw [if_pos z1, if_neg (by omega)]; exact rt2_kp x y z w hz z1 (by simp; omega)
      · rw [if_neg z1]
        by_cases z2 : z = 0
        · rw [if_pos z2]; exact rt2_kz x y z w hz z1 (by simp [z2])
        · rw [if_neg z2]; exact rt2_kn x y z w hz z1 (by simp [z2])
    · rw [if_neg hk]
      by_cases z1 : 0 < z
      · rw [if_pos z1, if_neg (by omega)]; exact rt2_op k x y z w hz (by simp [hk]) z1 (by simp; omega)
      · rw [if_neg z1]
        by_cases z2 : z = 0
        · rw [if_pos z2]; exact rt2_oz k x y z w hz (by simp [hk]) z1 (by simp [z2])
        · rw [if_neg z2]; exact rt2_on k x y z w hz (by simp [hk]) z1 (by simp [z2])
  · rw [if_neg ht]; exact rt2_no k x y t z w hz (by simp [ht])
end Go.Proofs.YteegbhnfkcbnoaaDoor
