/- For every ten numbers, two of each width, the statement WholeSums answers true (its walk, and that of its second half). -/
import Derived.Test.YtnbfjoheljlkfaaMul0
import Derived.Test.YtnbfjoheljlkfaaMul1
import Derived.Deep.RegionWith
namespace Go.Proofs.Ytnbfjoheljlkfaa
open Go.RowKit
set_option linter.unusedVariables false

set_option maxHeartbeats 4000000 in
set_option maxRecDepth 100000 in
theorem products_walk (x0 : Int) (x1 : Int) (x2 : Int) (x3 : Int) (x4 : Int) (x5 : Int) (x6 : Int) (x7 : Int) (x8 : Int) (x9 : Int) (w : World) (l0 : -128 ≤ x0) (u0 : x0 ≤ 127) (l1 : -128 ≤ x1) (u1 : x1 ≤ 127) (l2 : -32768 ≤ x2) (u2 : x2 ≤ 32767) (l3 : -32768 ≤ x3) (u3 : x3 ≤ 32767) (l4 : -2147483648 ≤ x4) (u4 : x4 ≤ 2147483647) (l5 : -2147483648 ≤ x5) (u5 : x5 ≤ 2147483647) (l6 : -9223372036854775808 ≤ x6) (u6 : x6 ≤ 9223372036854775807) (l7 : -9223372036854775808 ≤ x7) (u7 : x7 ≤ 9223372036854775807) (l8 : -9223372036854775808 ≤ x8) (u8 : x8 ≤ 9223372036854775807) (l9 : -9223372036854775808 ≤ x9) (u9 : x9 ≤ 9223372036854775807) :
    Calls Try.prog 25 #[.agg #[.int .i8 x0, .int .i8 x1, .int .i16 x2, .int .i16 x3, .int .i32 x4, .int .i32 x5, .int .i64 x6, .int .i64 x7, .int .i64 x8, .int .i64 x9]] w fun e w' => e = .returned (.bool true) ∧ Below w.heap.size w w' := by
  obtain ⟨b0, b1⟩ := Nm.fitZ_bd (l := -128) (h := 127) (x := x0 * x1) (by omega) (by omega)
  obtain ⟨b2, b3⟩ := Nm.fitZ_bd (l := -32768) (h := 32767) (x := x2 * x3) (by omega) (by omega)
  obtain ⟨b4, b5⟩ := Nm.fitZ_bd (l := -2147483648) (h := 2147483647) (x := x4 * x5) (by omega) (by omega)
  obtain ⟨b6, b7⟩ := Nm.fitZ_bd (l := -9223372036854775808) (h := 9223372036854775807) (x := x6 * x7) (by omega) (by omega)
  obtain ⟨b8, b9⟩ := Nm.fitZ_bd (l := -9223372036854775808) (h := 9223372036854775807) (x := x8 * x9) (by omega) (by omega)
  go_enter Try.func25, Try.ntmps25
  go_wp2_with (first
    | (go_at_call 56; refine (mul8 _ _ _ (by omega) (by omega) (by omega) (by omega)).mono ?_; rintro e w' ⟨rfl, rfl⟩)
    | (go_at_call 57; refine (mul16 _ _ _ (by omega) (by omega) (by omega) (by omega)).mono ?_; rintro e w' ⟨rfl, rfl⟩)
    | (go_at_call 58; refine (mul32 _ _ _ (by omega) (by omega) (by omega) (by omega)).mono ?_; rintro e w' ⟨rfl, rfl⟩)
    | (go_at_call 59; refine (mul64 _ _ _ (by omega) (by omega) (by omega) (by omega)).mono ?_; rintro e w' ⟨rfl, rfl⟩)
    | (go_at_call 60; refine (mulI _ _ _ (by omega) (by omega) (by omega) (by omega)).mono ?_; rintro e w' ⟨rfl, rfl⟩)
    | (go_at_call 61; refine (mulT _ _ _ (by omega) (by omega) (by omega) (by omega)).mono ?_; rintro e w' ⟨rfl, rfl⟩)
    | (go_at_call 62; refine (mulW _ _ _ (by omega) (by omega) (by omega) (by omega)).mono ?_; rintro e w' ⟨rfl, rfl⟩)
    | (go_at_call_of 63 (Value.int IntKind.i64 8); refine (mulRef8 _ _ _ (by omega) (by omega) (by omega) (by omega)).mono ?_; rintro e w' ⟨rfl, rfl⟩)
    | (go_at_call_of 63 (Value.int IntKind.i64 16); refine (mulRef16 _ _ _ (by omega) (by omega) (by omega) (by omega)).mono ?_; rintro e w' ⟨rfl, rfl⟩)
    | (go_at_call_of 63 (Value.int IntKind.i64 32); refine (mulRef32 _ _ _ (by omega) (by omega) (by omega) (by omega)).mono ?_; rintro e w' ⟨rfl, rfl⟩)
    | (go_at_call_of 63 (Value.int IntKind.i64 64); refine (mulRef64 _ _ _ (by omega) (by omega) (by omega) (by omega)).mono ?_; rintro e w' ⟨rfl, rfl⟩)
    | (go_at_call 15; refine (isSame _ _ _).mono ?_; rintro e w' ⟨rfl, rfl⟩))
  go_ret
  exact ⟨rfl, (Below.refl _ _).alloc (Nat.le_refl _) _⟩

set_option maxHeartbeats 4000000 in
set_option maxRecDepth 100000 in
theorem sums_walk (x0 : Int) (x1 : Int) (x2 : Int) (x3 : Int) (x4 : Int) (x5 : Int) (x6 : Int) (x7 : Int) (x8 : Int) (x9 : Int) (w : World) (l0 : -128 ≤ x0) (u0 : x0 ≤ 127) (l1 : -128 ≤ x1) (u1 : x1 ≤ 127) (l2 : -32768 ≤ x2) (u2 : x2 ≤ 32767) (l3 : -32768 ≤ x3) (u3 : x3 ≤ 32767) (l4 : -2147483648 ≤ x4) (u4 : x4 ≤ 2147483647) (l5 : -2147483648 ≤ x5) (u5 : x5 ≤ 2147483647) (l6 : -9223372036854775808 ≤ x6) (u6 : x6 ≤ 9223372036854775807) (l7 : -9223372036854775808 ≤ x7) (u7 : x7 ≤ 9223372036854775807) (l8 : -9223372036854775808 ≤ x8) (u8 : x8 ≤ 9223372036854775807) (l9 : -9223372036854775808 ≤ x9) (u9 : x9 ≤ 9223372036854775807) :
    Calls Try.prog 4 #[.agg #[.int .i8 x0, .int .i8 x1, .int .i16 x2, .int .i16 x3, .int .i32 x4, .int .i32 x5, .int .i64 x6, .int .i64 x7, .int .i64 x8, .int .i64 x9]] w fun e w' => e = .returned (.bool true) ∧ Below w.heap.size w w' := by
  obtain ⟨b0, b1⟩ := Nm.fitZ_bd (l := -128) (h := 127) (x := x0 + x1) (by omega) (by omega)
  obtain ⟨b2, b3⟩ := Nm.fitZ_bd (l := -32768) (h := 32767) (x := x2 + x3) (by omega) (by omega)
  obtain ⟨b4, b5⟩ := Nm.fitZ_bd (l := -2147483648) (h := 2147483647) (x := x4 + x5) (by omega) (by omega)
  obtain ⟨b6, b7⟩ := Nm.fitZ_bd (l := -9223372036854775808) (h := 9223372036854775807) (x := x6 + x7) (by omega) (by omega)
  obtain ⟨b8, b9⟩ := Nm.fitZ_bd (l := -9223372036854775808) (h := 9223372036854775807) (x := x8 + x9) (by omega) (by omega)
  go_enter Try.func4, Try.ntmps4
  go_wp2_with (first
    | (go_at_call 17; refine (add8 _ _ _ (by omega) (by omega) (by omega) (by omega)).mono ?_; rintro e w' ⟨rfl, rfl⟩)
    | (go_at_call 18; refine (add16 _ _ _ (by omega) (by omega) (by omega) (by omega)).mono ?_; rintro e w' ⟨rfl, rfl⟩)
    | (go_at_call 19; refine (add32 _ _ _ (by omega) (by omega) (by omega) (by omega)).mono ?_; rintro e w' ⟨rfl, rfl⟩)
    | (go_at_call 20; refine (add64 _ _ _ (by omega) (by omega) (by omega) (by omega)).mono ?_; rintro e w' ⟨rfl, rfl⟩)
    | (go_at_call 21; refine (addI _ _ _ (by omega) (by omega) (by omega) (by omega)).mono ?_; rintro e w' ⟨rfl, rfl⟩)
    | (go_at_call 22; refine (addT _ _ _ (by omega) (by omega) (by omega) (by omega)).mono ?_; rintro e w' ⟨rfl, rfl⟩)
    | (go_at_call 23; refine (addW _ _ _ (by omega) (by omega) (by omega) (by omega)).mono ?_; rintro e w' ⟨rfl, rfl⟩)
    | (go_at_call_of 24 (Value.int IntKind.i64 8); refine (addRef8 _ _ _ (by omega) (by omega) (by omega) (by omega)).mono ?_; rintro e w' ⟨rfl, rfl⟩)
    | (go_at_call_of 24 (Value.int IntKind.i64 16); refine (addRef16 _ _ _ (by omega) (by omega) (by omega) (by omega)).mono ?_; rintro e w' ⟨rfl, rfl⟩)
    | (go_at_call_of 24 (Value.int IntKind.i64 32); refine (addRef32 _ _ _ (by omega) (by omega) (by omega) (by omega)).mono ?_; rintro e w' ⟨rfl, rfl⟩)
    | (go_at_call_of 24 (Value.int IntKind.i64 64); refine (addRef64 _ _ _ (by omega) (by omega) (by omega) (by omega)).mono ?_; rintro e w' ⟨rfl, rfl⟩)
    | (go_at_call 15; refine (isSame _ _ _).mono ?_; rintro e w' ⟨rfl, rfl⟩)
    | (go_at_call 25; refine (products_walk _ _ _ _ _ _ _ _ _ _ _ l0 u0 l1 u1 l2 u2 l3 u3 l4 u4 l5 u5 l6 u6 l7 u7 l8 u8 l9 u9).mono ?_; rintro e w' ⟨rfl, hb⟩))
  go_ret
  exact ⟨rfl, ((Below.refl _ _).alloc (Nat.le_refl _) _).trans (hb.mono (by simp))⟩

end Go.Proofs.Ytnbfjoheljlkfaa