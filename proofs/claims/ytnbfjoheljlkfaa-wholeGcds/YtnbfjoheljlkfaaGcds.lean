/- For every ten numbers, two of each width, the statement WholeGcds answers true (its walk). -/
import Derived.Test.YtnbfjoheljlkfaaGcd0
import Derived.Deep.RegionWith
import Derived.WalkSmall
namespace Go.Proofs.Ytnbfjoheljlkfaa
open Go.RowKit
set_option linter.unusedVariables false

set_option maxHeartbeats 4000000 in
set_option maxRecDepth 100000 in
theorem gcds_walk (x0 : Int) (x1 : Int) (x2 : Int) (x3 : Int) (x4 : Int) (x5 : Int) (x6 : Int) (x7 : Int) (x8 : Int) (x9 : Int) (w : World) (l0 : -128 ≤ x0) (u0 : x0 ≤ 127) (l1 : -128 ≤ x1) (u1 : x1 ≤ 127) (l2 : -32768 ≤ x2) (u2 : x2 ≤ 32767) (l3 : -32768 ≤ x3) (u3 : x3 ≤ 32767) (l4 : -2147483648 ≤ x4) (u4 : x4 ≤ 2147483647) (l5 : -2147483648 ≤ x5) (u5 : x5 ≤ 2147483647) (l6 : -9223372036854775808 ≤ x6) (u6 : x6 ≤ 9223372036854775807) (l7 : -9223372036854775808 ≤ x7) (u7 : x7 ≤ 9223372036854775807) (l8 : -9223372036854775808 ≤ x8) (u8 : x8 ≤ 9223372036854775807) (l9 : -9223372036854775808 ≤ x9) (u9 : x9 ≤ 9223372036854775807) :
    Calls Try.prog 5 #[.agg #[.int .i8 x0, .int .i8 x1, .int .i16 x2, .int .i16 x3, .int .i32 x4, .int .i32 x5, .int .i64 x6, .int .i64 x7, .int .i64 x8, .int .i64 x9]] w fun e w' => e = .returned (.bool true) ∧ Below w.heap.size w w' := by
  obtain ⟨b0, b1⟩ := Nm.fitZ_bd (l := -128) (h := 127) (x := Nm.gcdZ x0 x1) (by omega) (by omega)
  obtain ⟨b2, b3⟩ := Nm.fitZ_bd (l := -32768) (h := 32767) (x := Nm.gcdZ x2 x3) (by omega) (by omega)
  obtain ⟨b4, b5⟩ := Nm.fitZ_bd (l := -2147483648) (h := 2147483647) (x := Nm.gcdZ x4 x5) (by omega) (by omega)
  obtain ⟨b6, b7⟩ := Nm.fitZ_bd (l := -9223372036854775808) (h := 9223372036854775807) (x := Nm.gcdZ x6 x7) (by omega) (by omega)
  obtain ⟨b8, b9⟩ := Nm.fitZ_bd (l := -9223372036854775808) (h := 9223372036854775807) (x := Nm.gcdZ x8 x9) (by omega) (by omega)
  go_enter Try.func5, Try.ntmps5
  go_wp2_with (first
    | (go_at_call 26; refine (gcd8 _ _ _ (by omega) (by omega) (by omega) (by omega)).mono ?_; rintro e w' ⟨rfl, nq8, rfl⟩)
    | (go_at_call 27; refine (gcd16 _ _ _ (by omega) (by omega) (by omega) (by omega)).mono ?_; rintro e w' ⟨rfl, nq16, rfl⟩)
    | (go_at_call 28; refine (gcd32 _ _ _ (by omega) (by omega) (by omega) (by omega)).mono ?_; rintro e w' ⟨rfl, nq32, rfl⟩)
    | (go_at_call 29; refine (gcd64 _ _ _ (by omega) (by omega) (by omega) (by omega)).mono ?_; rintro e w' ⟨rfl, nq64, rfl⟩)
    | (go_at_call 30; refine (gcdI _ _ _ (by omega) (by omega) (by omega) (by omega)).mono ?_; rintro e w' ⟨rfl, nqI, rfl⟩)
    | (go_at_call 31; refine (gcdT _ _ _ (by omega) (by omega) (by omega) (by omega)).mono ?_; rintro e w' ⟨rfl, nqT, rfl⟩)
    | (go_at_call 32; refine (gcdW _ _ _ (by omega) (by omega) (by omega) (by omega)).mono ?_; rintro e w' ⟨rfl, nqW, rfl⟩)
    | (go_at_call_of 33 (Value.int IntKind.i64 8); refine (gcdRef8 _ _ _ (by omega) (by omega) (by omega) (by omega)).mono ?_; rintro e w' ⟨rfl, rfl⟩)
    | (go_at_call_of 33 (Value.int IntKind.i64 16); refine (gcdRef16 _ _ _ (by omega) (by omega) (by omega) (by omega)).mono ?_; rintro e w' ⟨rfl, rfl⟩)
    | (go_at_call_of 33 (Value.int IntKind.i64 32); refine (gcdRef32 _ _ _ (by omega) (by omega) (by omega) (by omega)).mono ?_; rintro e w' ⟨rfl, rfl⟩)
    | (go_at_call_of 33 (Value.int IntKind.i64 64); refine (gcdRef64 _ _ _ (by omega) (by omega) (by omega) (by omega)).mono ?_; rintro e w' ⟨rfl, rfl⟩)
    | (go_at_call 15; refine (isSame _ _ _).mono ?_; rintro e w' ⟨rfl, rfl⟩))
  go_ret
  exact ⟨rfl, below_drewN ((Below.refl _ _).alloc (Nat.le_refl _) _) _⟩
end Go.Proofs.Ytnbfjoheljlkfaa
