/- For every ten numbers, two of each width, the statement WholeDivides answers true (its walk, and that of its second half). -/
import Derived.Test.YtnbfjoheljlkfaaParts
namespace Go.Proofs.Ytnbfjoheljlkfaa
open Go.RowKit
set_option linter.unusedVariables false

set_option maxHeartbeats 2000000 in
set_option maxRecDepth 100000 in
theorem quotients_walk (x0 : Int) (x1 : Int) (x2 : Int) (x3 : Int) (x4 : Int) (x5 : Int) (x6 : Int) (x7 : Int) (x8 : Int) (x9 : Int) (w : World) (l0 : -128 ≤ x0) (u0 : x0 ≤ 127) (l1 : -128 ≤ x1) (u1 : x1 ≤ 127) (l2 : -32768 ≤ x2) (u2 : x2 ≤ 32767) (l3 : -32768 ≤ x3) (u3 : x3 ≤ 32767) (l4 : -2147483648 ≤ x4) (u4 : x4 ≤ 2147483647) (l5 : -2147483648 ≤ x5) (u5 : x5 ≤ 2147483647) (l6 : -9223372036854775808 ≤ x6) (u6 : x6 ≤ 9223372036854775807) (l7 : -9223372036854775808 ≤ x7) (u7 : x7 ≤ 9223372036854775807) (l8 : -9223372036854775808 ≤ x8) (u8 : x8 ≤ 9223372036854775807) (l9 : -9223372036854775808 ≤ x9) (u9 : x9 ≤ 9223372036854775807) :
    Calls Try.prog 16 #[.agg #[.int .i8 x0, .int .i8 x1, .int .i16 x2, .int .i16 x3, .int .i32 x4, .int .i32 x5, .int .i64 x6, .int .i64 x7, .int .i64 x8, .int .i64 x9]] w fun e w' => e = .returned (.bool true) ∧ Below w.heap.size w w' := by
  obtain ⟨b0, b1⟩ := Nm.divZ_bd (n := x1) l0 u0 (by omega) (by omega)
  obtain ⟨b2, b3⟩ := Nm.divZ_bd (n := x3) l2 u2 (by omega) (by omega)
  obtain ⟨b4, b5⟩ := Nm.divZ_bd (n := x5) l4 u4 (by omega) (by omega)
  obtain ⟨b6, b7⟩ := Nm.divZ_bd (n := x7) l6 u6 (by omega) (by omega)
  obtain ⟨b8, b9⟩ := Nm.divZ_bd (n := x9) l8 u8 (by omega) (by omega)
  go_enter Try.func16, Try.ntmps16
  go_wp2_with (first
    | (go_at_call 48; refine (div8 _ _ _ (by omega) (by omega) (by omega) (by omega)).mono ?_; rintro e w' ⟨rfl, rfl⟩)
    | (go_at_call 49; refine (div16 _ _ _ (by omega) (by omega) (by omega) (by omega)).mono ?_; rintro e w' ⟨rfl, rfl⟩)
    | (go_at_call 50; refine (div32 _ _ _ (by omega) (by omega) (by omega) (by omega)).mono ?_; rintro e w' ⟨rfl, rfl⟩)
    | (go_at_call 51; refine (div64 _ _ _ (by omega) (by omega) (by omega) (by omega)).mono ?_; rintro e w' ⟨rfl, rfl⟩)
    | (go_at_call 52; refine (divI _ _ _ (by omega) (by omega) (by omega) (by omega)).mono ?_; rintro e w' ⟨rfl, rfl⟩)
    | (go_at_call 53; refine (divT _ _ _ (by omega) (by omega) (by omega) (by omega)).mono ?_; rintro e w' ⟨rfl, rfl⟩)
    | (go_at_call 54; refine (divW _ _ _ (by omega) (by omega) (by omega) (by omega)).mono ?_; rintro e w' ⟨rfl, rfl⟩)
    | (go_at_call 55; refine (divRef _ _ _ (by omega) (by omega) (by omega) (by omega)).mono ?_; rintro e w' ⟨rfl, rfl⟩)
    | (go_at_call 15; refine (isSame _ _ _).mono ?_; rintro e w' ⟨rfl, rfl⟩))
  go_ret
  exact ⟨rfl, (Below.refl _ _).alloc (Nat.le_refl _) _⟩

set_option maxHeartbeats 2000000 in
set_option maxRecDepth 100000 in
theorem divides_walk (x0 : Int) (x1 : Int) (x2 : Int) (x3 : Int) (x4 : Int) (x5 : Int) (x6 : Int) (x7 : Int) (x8 : Int) (x9 : Int) (w : World) (l0 : -128 ≤ x0) (u0 : x0 ≤ 127) (l1 : -128 ≤ x1) (u1 : x1 ≤ 127) (l2 : -32768 ≤ x2) (u2 : x2 ≤ 32767) (l3 : -32768 ≤ x3) (u3 : x3 ≤ 32767) (l4 : -2147483648 ≤ x4) (u4 : x4 ≤ 2147483647) (l5 : -2147483648 ≤ x5) (u5 : x5 ≤ 2147483647) (l6 : -9223372036854775808 ≤ x6) (u6 : x6 ≤ 9223372036854775807) (l7 : -9223372036854775808 ≤ x7) (u7 : x7 ≤ 9223372036854775807) (l8 : -9223372036854775808 ≤ x8) (u8 : x8 ≤ 9223372036854775807) (l9 : -9223372036854775808 ≤ x9) (u9 : x9 ≤ 9223372036854775807) :
    Calls Try.prog 3 #[.agg #[.int .i8 x0, .int .i8 x1, .int .i16 x2, .int .i16 x3, .int .i32 x4, .int .i32 x5, .int .i64 x6, .int .i64 x7, .int .i64 x8, .int .i64 x9]] w fun e w' => e = .returned (.bool true) ∧ Below w.heap.size w w' := by
  obtain ⟨b0, b1⟩ := Nm.modZ_bd (a := x0) u1 (by omega)
  obtain ⟨b2, b3⟩ := Nm.modZ_bd (a := x2) u3 (by omega)
  obtain ⟨b4, b5⟩ := Nm.modZ_bd (a := x4) u5 (by omega)
  obtain ⟨b6, b7⟩ := Nm.modZ_bd (a := x6) u7 (by omega)
  obtain ⟨b8, b9⟩ := Nm.modZ_bd (a := x8) u9 (by omega)
  go_enter Try.func3, Try.ntmps3
  go_wp2_with (first
    | (go_at_call 7; refine (mod8 _ _ _ (by omega) (by omega) (by omega) (by omega)).mono ?_; rintro e w' ⟨rfl, rfl⟩)
    | (go_at_call 8; refine (mod16 _ _ _ (by omega) (by omega) (by omega) (by omega)).mono ?_; rintro e w' ⟨rfl, rfl⟩)
    | (go_at_call 9; refine (mod32 _ _ _ (by omega) (by omega) (by omega) (by omega)).mono ?_; rintro e w' ⟨rfl, rfl⟩)
    | (go_at_call 10; refine (mod64 _ _ _ (by omega) (by omega) (by omega) (by omega)).mono ?_; rintro e w' ⟨rfl, rfl⟩)
    | (go_at_call 11; refine (modI _ _ _ (by omega) (by omega) (by omega) (by omega)).mono ?_; rintro e w' ⟨rfl, rfl⟩)
    | (go_at_call 12; refine (modT _ _ _ (by omega) (by omega) (by omega) (by omega)).mono ?_; rintro e w' ⟨rfl, rfl⟩)
    | (go_at_call 13; refine (modW _ _ _ (by omega) (by omega) (by omega) (by omega)).mono ?_; rintro e w' ⟨rfl, rfl⟩)
    | (go_at_call 14; refine (modRef _ _ _ (by omega) (by omega) (by omega) (by omega)).mono ?_; rintro e w' ⟨rfl, rfl⟩)
    | (go_at_call 15; refine (isSame _ _ _).mono ?_; rintro e w' ⟨rfl, rfl⟩)
    | (go_at_call 16; refine (quotients_walk _ _ _ _ _ _ _ _ _ _ _ l0 u0 l1 u1 l2 u2 l3 u3 l4 u4 l5 u5 l6 u6 l7 u7 l8 u8 l9 u9).mono ?_; rintro e w' ⟨rfl, hb⟩))
  go_ret
  exact ⟨rfl, ((Below.refl _ _).alloc (Nat.le_refl _) _).trans (hb.mono (by simp))⟩

end Go.Proofs.Ytnbfjoheljlkfaa