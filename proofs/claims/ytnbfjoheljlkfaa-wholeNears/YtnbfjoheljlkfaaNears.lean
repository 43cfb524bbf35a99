/- For every ten numbers, two of each width, and one number more, the statement WholeNears answers true (its walk). -/
import Derived.Test.YtnbfjoheljlkfaaSums1
import Derived.Deep.RegionWith
namespace Go.Proofs.Ytnbfjoheljlkfaa
open Go.RowKit
set_option linter.unusedVariables false

theorem nearZ_bd {l h v lo hi : Int} (a1 : l ≤ v) (a2 : v ≤ h) (b1 : l ≤ lo) (b2 : lo ≤ h) (c1 : l ≤ hi) (c2 : hi ≤ h) : l ≤ Nm.nearZ v lo hi ∧ Nm.nearZ v lo hi ≤ h := by
  unfold Nm.nearZ; split
  · omega
  · split <;> omega
theorem wrap_bd8 (z : Int) : -128 ≤ IntKind.i8.wrap z ∧ IntKind.i8.wrap z ≤ 127 := by rw [Nm.e8]; omega
theorem wrap_bd16 (z : Int) : -32768 ≤ IntKind.i16.wrap z ∧ IntKind.i16.wrap z ≤ 32767 := by rw [Nm.e16]; omega
theorem wrap_bd32 (z : Int) : -2147483648 ≤ wrap32 z ∧ wrap32 z ≤ 2147483647 := by rw [Nm.e32]; omega

set_option maxHeartbeats 4000000 in
set_option maxRecDepth 100000 in
theorem nears_walk (x0 : Int) (x1 : Int) (x2 : Int) (x3 : Int) (x4 : Int) (x5 : Int) (x6 : Int) (x7 : Int) (x8 : Int) (x9 : Int) (z : Int) (w : World) (l0 : -128 ≤ x0) (u0 : x0 ≤ 127) (l1 : -128 ≤ x1) (u1 : x1 ≤ 127) (l2 : -32768 ≤ x2) (u2 : x2 ≤ 32767) (l3 : -32768 ≤ x3) (u3 : x3 ≤ 32767) (l4 : -2147483648 ≤ x4) (u4 : x4 ≤ 2147483647) (l5 : -2147483648 ≤ x5) (u5 : x5 ≤ 2147483647) (l6 : -9223372036854775808 ≤ x6) (u6 : x6 ≤ 9223372036854775807) (l7 : -9223372036854775808 ≤ x7) (u7 : x7 ≤ 9223372036854775807) (l8 : -9223372036854775808 ≤ x8) (u8 : x8 ≤ 9223372036854775807) (l9 : -9223372036854775808 ≤ x9) (u9 : x9 ≤ 9223372036854775807) (zl : -9223372036854775808 ≤ z) (zu : z ≤ 9223372036854775807) :
    Calls Try.prog 6 #[.agg #[.int .i8 x0, .int .i8 x1, .int .i16 x2, .int .i16 x3, .int .i32 x4, .int .i32 x5, .int .i64 x6, .int .i64 x7, .int .i64 x8, .int .i64 x9], .int .i64 z] w fun e w' => e = .returned (.bool true) ∧ Below w.heap.size w w' := by
  obtain ⟨z8l, z8u⟩ := wrap_bd8 z
  obtain ⟨z16l, z16u⟩ := wrap_bd16 z
  obtain ⟨z32l, z32u⟩ := wrap_bd32 z
  obtain ⟨n0, n1⟩ := nearZ_bd l0 u0 l1 u1 z8l z8u
  obtain ⟨n2, n3⟩ := nearZ_bd l2 u2 l3 u3 z16l z16u
  obtain ⟨n4, n5⟩ := nearZ_bd l4 u4 l5 u5 z32l z32u
  obtain ⟨n6, n7⟩ := nearZ_bd l6 u6 l7 u7 zl zu
  obtain ⟨n8, n9⟩ := nearZ_bd l8 u8 l9 u9 zl zu
  obtain ⟨f0, f1⟩ := Nm.fitZ_bd (l := -128) (h := 127) (x := z) (by omega) (by omega)
  obtain ⟨f2, f3⟩ := Nm.fitZ_bd (l := -32768) (h := 32767) (x := z) (by omega) (by omega)
  obtain ⟨f4, f5⟩ := Nm.fitZ_bd (l := -2147483648) (h := 2147483647) (x := z) (by omega) (by omega)
  have g1 := Nm.fitZ_yes zl zu
  have g2 := Nm.fitB_yes zl zu
  go_enter Try.func6, Try.ntmps6
  go_wp2_with (first
    | (go_at_call 34; refine (near8 _ _ _ _).mono ?_; rintro e w' ⟨rfl, rfl⟩)
    | (go_at_call 35; refine (near16 _ _ _ _).mono ?_; rintro e w' ⟨rfl, rfl⟩)
    | (go_at_call 36; refine (near32 _ _ _ _).mono ?_; rintro e w' ⟨rfl, rfl⟩)
    | (go_at_call 37; refine (near64 _ _ _ _).mono ?_; rintro e w' ⟨rfl, rfl⟩)
    | (go_at_call 38; refine (nearI _ _ _ _).mono ?_; rintro e w' ⟨rfl, rfl⟩)
    | (go_at_call 39; refine (nearT _ _ _ _).mono ?_; rintro e w' ⟨rfl, rfl⟩)
    | (go_at_call 40; refine (nearRef _ _ _ _).mono ?_; rintro e w' ⟨rfl, rfl⟩)
    | (go_at_call 41; refine (fits8 _ _ (by omega) (by omega)).mono ?_; rintro e w' ⟨rfl, rfl⟩)
    | (go_at_call 42; refine (fits16 _ _ (by omega) (by omega)).mono ?_; rintro e w' ⟨rfl, rfl⟩)
    | (go_at_call 43; refine (fits32 _ _ (by omega) (by omega)).mono ?_; rintro e w' ⟨rfl, rfl⟩)
    | (go_at_call 44; refine (fits64 _ _ (by omega) (by omega)).mono ?_; rintro e w' ⟨rfl, rfl⟩)
    | (go_at_call 45; refine (fitsI _ _ (by omega) (by omega)).mono ?_; rintro e w' ⟨rfl, rfl⟩)
    | (go_at_call 46; refine (fitsT _ _ (by omega) (by omega)).mono ?_; rintro e w' ⟨rfl, rfl⟩)
    | (go_at_call_of 47 (Value.int IntKind.i64 8); refine (fitsRef8 _ _ (by omega) (by omega)).mono ?_; rintro e w' ⟨rfl, rfl⟩)
    | (go_at_call_of 47 (Value.int IntKind.i64 16); refine (fitsRef16 _ _ (by omega) (by omega)).mono ?_; rintro e w' ⟨rfl, rfl⟩)
    | (go_at_call_of 47 (Value.int IntKind.i64 32); refine (fitsRef32 _ _ (by omega) (by omega)).mono ?_; rintro e w' ⟨rfl, rfl⟩)
    | (go_at_call 15; refine (isSame _ _ _).mono ?_; rintro e w' ⟨rfl, rfl⟩))
  go_ret
  exact ⟨rfl, (Below.refl _ _).alloc (Nat.le_refl _) _⟩

end Go.Proofs.Ytnbfjoheljlkfaa