/- What Print of package topo answers. -/
import Derived.Test.YteegbhnfkcbnoaaDoorP11
import Derived.Test.YteegbhnfkcbnoaaDoorTb
import Derived.Deep.RegionWith
import Derived.Deep.QuietTactic
import Derived.BigQuiet
import Derived.Lib.ItoaLen
import Derived.Lib.AppendIntMem
namespace Go.Proofs.YteegbhnfkcbnoaaDoor
open Go.RowKit
set_option linter.unusedVariables false
set_option linter.unusedSimpArgs false
set_option maxRecDepth 100000

theorem gPow : Tryd.prog.globalNamed "internal/strconv.uint64pow10" = some 1 := by kernel_rfl
abbrev Tab (w : World) : Prop := Lib.TabIs Tryd.prog w "internal/strconv.uint64pow10" .u64 Lib.pow10Tab
theorem tabK {w w1 : World} (h : Hid (Tab w)) (hg : w.grownBy w1 none) : Hid (Tab w1) := Joins.tab_stays gPow h (gb_below hg) (Nat.le_refl _)
theorem tx_app (a b : List UInt8) : (Tp.tx a) ++ (Tp.tx b) = Tp.tx (a ++ b) := by
  apply ByteArray.ext
  simp [Tp.tx]
theorem ret_s {a b : ByteArray} (h : a = b) : Ending.returned (.string a) = .returned (.string b) := by rw [h]
set_option maxHeartbeats 400000 in
theorem textC (n : Int) (w : World) (h0 : -9223372036854775808 ≤ n) (h1 : n ≤ 9223372036854775807) (htab : Hid (Tab w)) :
    Calls Tryd.prog 25 #[.int .i64 n] w fun e w' => e = .returned (.string (Tp.tx (Lib.itoa n))) ∧ w.grownBy w' none := by
  go_enter Tryd.func25, Tryd.ntmps25
  go_wp2_with (go_at_call 47; refine (Tryd.strconv_Itoa _ h0 h1 _ htab.out).mono ?_; rintro e w' ⟨rfl, k, os, rfl⟩)
  go_ret
  exact ⟨rfl, gb_of_below (Lib.below_grow _ _ (Nat.le_refl _) _ _)⟩
def sgT (n : Int) : List UInt8 := if n < 0 then Lib.itoa n else 43 :: Lib.itoa n
theorem signedC (n : Int) (w : World) (h0 : -9223372036854775808 ≤ n) (h1 : n ≤ 9223372036854775807) (htab : Hid (Tab w)) :
    Calls Tryd.prog 48 #[.int .i64 n] w fun e w' => e = .returned (.string (Tp.tx (sgT n))) ∧ w.grownBy w' none := by
  by_cases hn : n < 0
  · have HS : Hid (Tp.tx (Lib.itoa n) = Tp.tx (sgT n)) := by unfold Hid sgT; rw [if_pos hn]
    go_enter Tryd.func48, Tryd.ntmps48
    go_wp2_with (go_at_call 25; refine (textC _ _ h0 h1 htab).mono ?_; rintro e w1 ⟨rfl, g1⟩)
    go_ret
    exact ⟨ret_s HS.out, g1⟩
  · have HS : Hid ((Tp.tx [43]) ++ (Tp.tx (Lib.itoa n)) = Tp.tx (sgT n)) := by unfold Hid sgT; rw [if_neg hn, tx_app]; rfl
    have hz : ¬ 9223372036854775807 < 1 + (Lib.itoa n).length := by
      have := Lib.itoa_length_le n h0 h1
      omega
    go_enter Tryd.func48, Tryd.ntmps48
    go_wp2_with (go_at_call 25; refine (textC _ _ h0 h1 htab).mono ?_; rintro e w1 ⟨rfl, g1⟩)
    go_ret
    exact ⟨ret_s HS.out, g1⟩
theorem sgT_le (n : Int) (h0 : -9223372036854775808 ≤ n) (h1 : n ≤ 9223372036854775807) : (sgT n).length ≤ 22 := by
  have := Lib.itoa_length_le n h0 h1
  unfold sgT
  split
  · omega
  · simp; omega

def ttL (k t z i : Int) : List UInt8 := if t = i then (if k = 3 then (if z = 0 then [42] else 42 :: sgT z) else sgT z) else []

set_option maxHeartbeats 1000000 in
theorem tt0_no (k x y t z : Int) (w : World) (h0 : -9223372036854775808 ≤ z) (h1 : z ≤ 9223372036854775807) (htab : Hid (Tab w)) (hT : Hid (Tf w)) (hn : (t != 1) = true) :
    Calls Tryd.prog 26 #[.agg #[.int .u8 k, .int .i64 x, .int .i64 y, .int .u8 t, .int .i64 z], .int .i64 0] w fun e w' => e = .returned (.string (Tp.tx ([]))) ∧ w.grownBy w' none := by
  obtain ⟨W1, hW1, sz1, g1, B1⟩ := boxn w #[.int .u8 k, .int .i64 x, .int .i64 y, .int .u8 t, .int .i64 z] 23
  have hT1 := tfK hT g1
  have ht1 := tabK htab g1
  have y0 := hT1.out.1
  have y1 := hT1.out.2
  have c0 := B1.cell 0 (v := .int .u8 k) rfl
  have c1 := B1.cell 1 (v := .int .i64 x) rfl
  have c2 := B1.cell 2 (v := .int .i64 y) rfl
  have c3 := B1.cell 3 (v := .int .u8 t) rfl
  have c4 := B1.cell 4 (v := .int .i64 z) rfl
  have hz9 : ¬ 9223372036854775807 < 1 + (sgT z).length := by
    have := sgT_le z h0 h1
    omega
  go_enter Tryd.func26, Tryd.ntmps26
  go_wp2
  go_quiet (fail)
  go_wp2_with (first | fail)
  go_ret
  exact ⟨rfl, gb_drewN g1 _⟩

set_option maxHeartbeats 1000000 in
theorem tt0_ks (x y z : Int) (w : World) (h0 : -9223372036854775808 ≤ z) (h1 : z ≤ 9223372036854775807) (htab : Hid (Tab w)) (hT : Hid (Tf w)) (hz : (z == 0) = true) :
    Calls Tryd.prog 26 #[.agg #[.int .u8 3, .int .i64 x, .int .i64 y, .int .u8 1, .int .i64 z], .int .i64 0] w fun e w' => e = .returned (.string (Tp.tx ([42]))) ∧ w.grownBy w' none := by
  obtain ⟨W1, hW1, sz1, g1, B1⟩ := boxn w #[.int .u8 3, .int .i64 x, .int .i64 y, .int .u8 1, .int .i64 z] 23
  have hT1 := tfK hT g1
  have ht1 := tabK htab g1
  have y0 := hT1.out.1
  have y1 := hT1.out.2
  have c0 := B1.cell 0 (v := .int .u8 3) rfl
  have c1 := B1.cell 1 (v := .int .i64 x) rfl
  have c2 := B1.cell 2 (v := .int .i64 y) rfl
  have c3 := B1.cell 3 (v := .int .u8 1) rfl
  have c4 := B1.cell 4 (v := .int .i64 z) rfl
  have hz9 : ¬ 9223372036854775807 < 1 + (sgT z).length := by
    have := sgT_le z h0 h1
    omega
  go_enter Tryd.func26, Tryd.ntmps26
  go_wp2
  go_quiet (fail)
  go_wp2_with (first | fail)
  go_ret
  exact ⟨rfl, gb_drewN g1 _⟩

set_option maxHeartbeats 1000000 in
theorem tt0_kz (x y z : Int) (w : World) (h0 : -9223372036854775808 ≤ z) (h1 : z ≤ 9223372036854775807) (htab : Hid (Tab w)) (hT : Hid (Tf w)) (hz : (z == 0) = false) :
    Calls Tryd.prog 26 #[.agg #[.int .u8 3, .int .i64 x, .int .i64 y, .int .u8 1, .int .i64 z], .int .i64 0] w fun e w' => e = .returned (.string (Tp.tx (42 :: sgT z))) ∧ w.grownBy w' none := by
  obtain ⟨W1, hW1, sz1, g1, B1⟩ := boxn w #[.int .u8 3, .int .i64 x, .int .i64 y, .int .u8 1, .int .i64 z] 23
  have hT1 := tfK hT g1
  have ht1 := tabK htab g1
  have y0 := hT1.out.1
  have y1 := hT1.out.2
  have c0 := B1.cell 0 (v := .int .u8 3) rfl
  have c1 := B1.cell 1 (v := .int .i64 x) rfl
  have c2 := B1.cell 2 (v := .int .i64 y) rfl
  have c3 := B1.cell 3 (v := .int .u8 1) rfl
  have c4 := B1.cell 4 (v := .int .i64 z) rfl
  have hz9 : ¬ 9223372036854775807 < 1 + (sgT z).length := by
    have := sgT_le z h0 h1
    omega
  go_enter Tryd.func26, Tryd.ntmps26
  go_wp2
  go_quiet (fail)
  go_wp2_with (first | (go_at_call 48; refine (signedC _ _ h0 h1 (show Hid (Tab (W1.drewN _)) from ht1)).mono ?_; rintro e w2 ⟨rfl, g2⟩))
  go_ret
  exact ⟨ret_s (tx_app [42] (sgT z)), gb_trans (gb_drewN g1 _) g2⟩

set_option maxHeartbeats 1000000 in
theorem tt0_t (k x y z : Int) (w : World) (h0 : -9223372036854775808 ≤ z) (h1 : z ≤ 9223372036854775807) (htab : Hid (Tab w)) (hT : Hid (Tf w)) (hk : (k == 3) = false) :
    Calls Tryd.prog 26 #[.agg #[.int .u8 k, .int .i64 x, .int .i64 y, .int .u8 1, .int .i64 z], .int .i64 0] w fun e w' => e = .returned (.string (Tp.tx (sgT z))) ∧ w.grownBy w' none := by
  obtain ⟨W1, hW1, sz1, g1, B1⟩ := boxn w #[.int .u8 k, .int .i64 x, .int .i64 y, .int .u8 1, .int .i64 z] 23
  have hT1 := tfK hT g1
  have ht1 := tabK htab g1
  have y0 := hT1.out.1
  have y1 := hT1.out.2
  have c0 := B1.cell 0 (v := .int .u8 k) rfl
  have c1 := B1.cell 1 (v := .int .i64 x) rfl
  have c2 := B1.cell 2 (v := .int .i64 y) rfl
  have c3 := B1.cell 3 (v := .int .u8 1) rfl
  have c4 := B1.cell 4 (v := .int .i64 z) rfl
  have hz9 : ¬ 9223372036854775807 < 1 + (sgT z).length := by
    have := sgT_le z h0 h1
    omega
  go_enter Tryd.func26, Tryd.ntmps26
  go_wp2
  go_quiet (fail)
  go_wp2_with (first | (go_at_call 48; refine (signedC _ _ h0 h1 (show Hid (Tab (W1.drewN _)) from ht1)).mono ?_; rintro e w2 ⟨rfl, g2⟩))
  go_ret
  exact ⟨rfl, gb_trans (gb_drewN g1 _) g2⟩

theorem tt0C (k x y t z : Int) (w : World) (h0 : -9223372036854775808 ≤ z) (h1 : z ≤ 9223372036854775807) (htab : Hid (Tab w)) (hT : Hid (Tf w)) :
    Calls Tryd.prog 26 #[.agg #[.int .u8 k, .int .i64 x, .int .i64 y, .int .u8 t, .int .i64 z], .int .i64 0] w fun e w' => e = .returned (.string (Tp.tx (ttL k t z 1))) ∧ w.grownBy w' none := by
  unfold ttL
  by_cases ht : t = 1
  · subst ht
    rw [if_pos rfl]
    by_cases hk : k = 3
    · subst hk
      rw [if_pos rfl]
      by_cases hz : z = 0
      · rw [if_pos hz]; exact tt0_ks x y z w h0 h1 htab hT (by simp [hz])
      · rw [if_neg hz]; exact tt0_kz x y z w h0 h1 htab hT (by simp [hz])
    · rw [if_neg hk]; exact tt0_t k x y z w h0 h1 htab hT (by simp [hk])
  · rw [if_neg ht]; exact tt0_no k x y t z w h0 h1 htab hT (by simp [ht])

set_option maxHeartbeats 1000000 in
theorem tt1_no (k x y t z : Int) (w : World) (h0 : -9223372036854775808 ≤ z) (h1 : z ≤ 9223372036854775807) (htab : Hid (Tab w)) (hT : Hid (Tf w)) (hn : (t != 2) = true) :
    Calls Tryd.prog 26 #[.agg #[.int .u8 k, .int .i64 x, .int .i64 y, .int .u8 t, .int .i64 z], .int .i64 1] w fun e w' => e = .returned (.string (Tp.tx ([]))) ∧ w.grownBy w' none := by
  obtain ⟨W1, hW1, sz1, g1, B1⟩ := boxn w #[.int .u8 k, .int .i64 x, .int .i64 y, .int .u8 t, .int .i64 z] 23
  have hT1 := tfK hT g1
  have ht1 := tabK htab g1
  have y0 := hT1.out.1
  have y1 := hT1.out.2
  have c0 := B1.cell 0 (v := .int .u8 k) rfl
  have c1 := B1.cell 1 (v := .int .i64 x) rfl
  have c2 := B1.cell 2 (v := .int .i64 y) rfl
  have c3 := B1.cell 3 (v := .int .u8 t) rfl
  have c4 := B1.cell 4 (v := .int .i64 z) rfl
  have hz9 : ¬ 9223372036854775807 < 1 + (sgT z).length := by
    have := sgT_le z h0 h1
    omega
  go_enter Tryd.func26, Tryd.ntmps26
  go_wp2
  go_quiet (fail)
  go_wp2_with (first | fail)
  go_ret
  exact ⟨rfl, gb_drewN g1 _⟩

set_option maxHeartbeats 1000000 in
theorem tt1_ks (x y z : Int) (w : World) (h0 : -9223372036854775808 ≤ z) (h1 : z ≤ 9223372036854775807) (htab : Hid (Tab w)) (hT : Hid (Tf w)) (hz : (z == 0) = true) :
    Calls Tryd.prog 26 #[.agg #[.int .u8 3, .int .i64 x, .int .i64 y, .int .u8 2, .int .i64 z], .int .i64 1] w fun e w' => e = .returned (.string (Tp.tx ([42]))) ∧ w.grownBy w' none := by
  obtain ⟨W1, hW1, sz1, g1, B1⟩ := boxn w #[.int .u8 3, .int .i64 x, .int .i64 y, .int .u8 2, .int .i64 z] 23
  have hT1 := tfK hT g1
  have ht1 := tabK htab g1
  have y0 := hT1.out.1
  have y1 := hT1.out.2
  have c0 := B1.cell 0 (v := .int .u8 3) rfl
  have c1 := B1.cell 1 (v := .int .i64 x) rfl
  have c2 := B1.cell 2 (v := .int .i64 y) rfl
  have c3 := B1.cell 3 (v := .int .u8 2) rfl
  have c4 := B1.cell 4 (v := .int .i64 z) rfl
  have hz9 : ¬ 9223372036854775807 < 1 + (sgT z).length := by
    have := sgT_le z h0 h1
    omega
  go_enter Tryd.func26, Tryd.ntmps26
  go_wp2
  go_quiet (fail)
  go_wp2_with (first | fail)
  go_ret
  exact ⟨rfl, gb_drewN g1 _⟩

set_option maxHeartbeats 1000000 in
theorem tt1_kz (x y z : Int) (w : World) (h0 : -9223372036854775808 ≤ z) (h1 : z ≤ 9223372036854775807) (htab : Hid (Tab w)) (hT : Hid (Tf w)) (hz : (z == 0) = false) :
    Calls Tryd.prog 26 #[.agg #[.int .u8 3, .int .i64 x, .int .i64 y, .int .u8 2, .int .i64 z], .int .i64 1] w fun e w' => e = .returned (.string (Tp.tx (42 :: sgT z))) ∧ w.grownBy w' none := by
  obtain ⟨W1, hW1, sz1, g1, B1⟩ := boxn w #[.int .u8 3, .int .i64 x, .int .i64 y, .int .u8 2, .int .i64 z] 23
  have hT1 := tfK hT g1
  have ht1 := tabK htab g1
  have y0 := hT1.out.1
  have y1 := hT1.out.2
  have c0 := B1.cell 0 (v := .int .u8 3) rfl
  have c1 := B1.cell 1 (v := .int .i64 x) rfl
  have c2 := B1.cell 2 (v := .int .i64 y) rfl
  have c3 := B1.cell 3 (v := .int .u8 2) rfl
  have c4 := B1.cell 4 (v := .int .i64 z) rfl
  have hz9 : ¬ 9223372036854775807 < 1 + (sgT z).length := by
    have := sgT_le z h0 h1
    omega
  go_enter Tryd.func26, Tryd.ntmps26
  go_wp2
  go_quiet (fail)
  go_wp2_with (first | (go_at_call 48; refine (signedC _ _ h0 h1 (show Hid (Tab (W1.drewN _)) from ht1)).mono ?_; rintro e w2 ⟨rfl, g2⟩))
  go_ret
  exact ⟨ret_s (tx_app [42] (sgT z)), gb_trans (gb_drewN g1 _) g2⟩

set_option maxHeartbeats 1000000 in
theorem tt1_t (k x y z : Int) (w : World) (h0 : -9223372036854775808 ≤ z) (h1 : z ≤ 9223372036854775807) (htab : Hid (Tab w)) (hT : Hid (Tf w)) (hk : (k == 3) = false) :
    Calls Tryd.prog 26 #[.agg #[.int .u8 k, .int .i64 x, .int .i64 y, .int .u8 2, .int .i64 z], .int .i64 1] w fun e w' => e = .returned (.string (Tp.tx (sgT z))) ∧ w.grownBy w' none := by
  obtain ⟨W1, hW1, sz1, g1, B1⟩ := boxn w #[.int .u8 k, .int .i64 x, .int .i64 y, .int .u8 2, .int .i64 z] 23
  have hT1 := tfK hT g1
  have ht1 := tabK htab g1
  have y0 := hT1.out.1
  have y1 := hT1.out.2
  have c0 := B1.cell 0 (v := .int .u8 k) rfl
  have c1 := B1.cell 1 (v := .int .i64 x) rfl
  have c2 := B1.cell 2 (v := .int .i64 y) rfl
  have c3 := B1.cell 3 (v := .int .u8 2) rfl
  have c4 := B1.cell 4 (v := .int .i64 z) rfl
  have hz9 : ¬ 9223372036854775807 < 1 + (sgT z).length := by
    have := sgT_le z h0 h1
    omega
  go_enter Tryd.func26, Tryd.ntmps26
  go_wp2
  go_quiet (fail)
  go_wp2_with (first | (go_at_call 48; refine (signedC _ _ h0 h1 (show Hid (Tab (W1.drewN _)) from ht1)).mono ?_; rintro e w2 ⟨rfl, g2⟩))
  go_ret
  exact ⟨rfl, gb_trans (gb_drewN g1 _) g2⟩

theorem tt1C (k x y t z : Int) (w : World) (h0 : -9223372036854775808 ≤ z) (h1 : z ≤ 9223372036854775807) (htab : Hid (Tab w)) (hT : Hid (Tf w)) :
    Calls Tryd.prog 26 #[.agg #[.int .u8 k, .int .i64 x, .int .i64 y, .int .u8 t, .int .i64 z], .int .i64 1] w fun e w' => e = .returned (.string (Tp.tx (ttL k t z 2))) ∧ w.grownBy w' none := by
  unfold ttL
  by_cases ht : t = 2
  · subst ht
    rw [if_pos rfl]
    by_cases hk : k = 3
    · subst hk
      rw [if_pos rfl]
      by_cases hz : z = 0
      · rw [if_pos hz]; exact tt1_ks x y z w h0 h1 htab hT (by simp [hz])
      · rw [if_neg hz]; exact tt1_kz x y z w h0 h1 htab hT (by simp [hz])
    · rw [if_neg hk]; exact tt1_t k x y z w h0 h1 htab hT (by simp [hk])
  · rw [if_neg ht]; exact tt1_no k x y t z w h0 h1 htab hT (by simp [ht])
end Go.Proofs.YteegbhnfkcbnoaaDoor
