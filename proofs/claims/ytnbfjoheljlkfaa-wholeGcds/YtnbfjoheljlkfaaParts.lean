/- What the calls Mod and Div of package whole, and the document's own Mod and Div, answer at every two numbers of their width. -/
import Derived.Test.YtnbfjoheljlkfaaRows
import Derived.Test.YtnbfjoheljlkfaaNums
import Derived.WalkKit
import Derived.WalkLawsBesides
import Derived.WalkSpells
import Derived.Below
namespace Go.Proofs.Ytnbfjoheljlkfaa
open Go.RowKit
set_option linter.unusedVariables false

theorem ret2 {k : IntKind} {a b : Int} {p q : Bool} (h : a = b) (hp : p = q) : Ending.returned (.tuple #[.int k a, .bool p]) = .returned (.tuple #[.int k b, .bool q]) := by rw [h, hp]

set_option maxHeartbeats 400000 in
theorem mod8 (a n : Int) (w : World) (h1 : -128 ≤ a) (h2 : a ≤ 127) (h3 : -128 ≤ n) (h4 : n ≤ 127) :
    Calls Try.prog 7 #[.int .i8 a, .int .i8 n] w fun e w' => e = .returned (.tuple #[.int .i8 (Nm.modZ a n), .bool (Nm.posB n)]) ∧ w' = w := by
  by_cases hn : n < 1
  · go_enter Try.func7, Try.ntmps7
    go_wp2
    go_ret2
    exact ⟨ret2 (Nm.modZ_no hn).symm (Nm.posB_no hn).symm, rfl⟩
  · have hn1 : 1 ≤ n := by omega
    clear hn
    by_cases hm : a.tmod n < 0
    · have hb := Int.lt_tmod_of_pos a (show (0:Int) < n by omega)
      go_enter Try.func7, Try.ntmps7
      go_wp2
      go_ret2
      exact ⟨ret2 ((Nm.parts_down hn1 hm).2.trans (Nm.modZ_yes hn1).symm) (Nm.posB_yes hn1).symm, rfl⟩
    · have hm1 : 0 ≤ a.tmod n := by omega
      clear hm
      go_enter Try.func7, Try.ntmps7
      go_wp2
      go_ret2
      exact ⟨ret2 ((Nm.parts_up hn1 hm1).2.trans (Nm.modZ_yes hn1).symm) (Nm.posB_yes hn1).symm, rfl⟩

set_option maxHeartbeats 400000 in
theorem mod16 (a n : Int) (w : World) (h1 : -32768 ≤ a) (h2 : a ≤ 32767) (h3 : -32768 ≤ n) (h4 : n ≤ 32767) :
    Calls Try.prog 8 #[.int .i16 a, .int .i16 n] w fun e w' => e = .returned (.tuple #[.int .i16 (Nm.modZ a n), .bool (Nm.posB n)]) ∧ w' = w := by
  by_cases hn : n < 1
  · go_enter Try.func8, Try.ntmps8
    go_wp2
    go_ret2
    exact ⟨ret2 (Nm.modZ_no hn).symm (Nm.posB_no hn).symm, rfl⟩
  · have hn1 : 1 ≤ n := by omega
    clear hn
    by_cases hm : a.tmod n < 0
    · have hb := Int.lt_tmod_of_pos a (show (0:Int) < n by omega)
      go_enter Try.func8, Try.ntmps8
      go_wp2
      go_ret2
      exact ⟨ret2 ((Nm.parts_down hn1 hm).2.trans (Nm.modZ_yes hn1).symm) (Nm.posB_yes hn1).symm, rfl⟩
    · have hm1 : 0 ≤ a.tmod n := by omega
      clear hm
      go_enter Try.func8, Try.ntmps8
      go_wp2
      go_ret2
      exact ⟨ret2 ((Nm.parts_up hn1 hm1).2.trans (Nm.modZ_yes hn1).symm) (Nm.posB_yes hn1).symm, rfl⟩

set_option maxHeartbeats 400000 in
theorem mod32 (a n : Int) (w : World) (h1 : -2147483648 ≤ a) (h2 : a ≤ 2147483647) (h3 : -2147483648 ≤ n) (h4 : n ≤ 2147483647) :
    Calls Try.prog 9 #[.int .i32 a, .int .i32 n] w fun e w' => e = .returned (.tuple #[.int .i32 (Nm.modZ a n), .bool (Nm.posB n)]) ∧ w' = w := by
  by_cases hn : n < 1
  · go_enter Try.func9, Try.ntmps9
    go_wp2
    go_ret2
    exact ⟨ret2 (Nm.modZ_no hn).symm (Nm.posB_no hn).symm, rfl⟩
  · have hn1 : 1 ≤ n := by omega
    clear hn
    by_cases hm : a.tmod n < 0
    · have hb := Int.lt_tmod_of_pos a (show (0:Int) < n by omega)
      go_enter Try.func9, Try.ntmps9
      go_wp2
      go_ret2
      exact ⟨ret2 ((Nm.parts_down hn1 hm).2.trans (Nm.modZ_yes hn1).symm) (Nm.posB_yes hn1).symm, rfl⟩
    · have hm1 : 0 ≤ a.tmod n := by omega
      clear hm
      go_enter Try.func9, Try.ntmps9
      go_wp2
      go_ret2
      exact ⟨ret2 ((Nm.parts_up hn1 hm1).2.trans (Nm.modZ_yes hn1).symm) (Nm.posB_yes hn1).symm, rfl⟩

set_option maxHeartbeats 400000 in
theorem mod64 (a n : Int) (w : World) (h1 : -9223372036854775808 ≤ a) (h2 : a ≤ 9223372036854775807) (h3 : -9223372036854775808 ≤ n) (h4 : n ≤ 9223372036854775807) :
    Calls Try.prog 10 #[.int .i64 a, .int .i64 n] w fun e w' => e = .returned (.tuple #[.int .i64 (Nm.modZ a n), .bool (Nm.posB n)]) ∧ w' = w := by
  by_cases hn : n < 1
  · go_enter Try.func10, Try.ntmps10
    go_wp2
    go_ret2
    exact ⟨ret2 (Nm.modZ_no hn).symm (Nm.posB_no hn).symm, rfl⟩
  · have hn1 : 1 ≤ n := by omega
    clear hn
    by_cases hm : a.tmod n < 0
    · have hb := Int.lt_tmod_of_pos a (show (0:Int) < n by omega)
      go_enter Try.func10, Try.ntmps10
      go_wp2
      go_ret2
      exact ⟨ret2 ((Nm.parts_down hn1 hm).2.trans (Nm.modZ_yes hn1).symm) (Nm.posB_yes hn1).symm, rfl⟩
    · have hm1 : 0 ≤ a.tmod n := by omega
      clear hm
      go_enter Try.func10, Try.ntmps10
      go_wp2
      go_ret2
      exact ⟨ret2 ((Nm.parts_up hn1 hm1).2.trans (Nm.modZ_yes hn1).symm) (Nm.posB_yes hn1).symm, rfl⟩

set_option maxHeartbeats 400000 in
theorem modI (a n : Int) (w : World) (h1 : -9223372036854775808 ≤ a) (h2 : a ≤ 9223372036854775807) (h3 : -9223372036854775808 ≤ n) (h4 : n ≤ 9223372036854775807) :
    Calls Try.prog 11 #[.int .i64 a, .int .i64 n] w fun e w' => e = .returned (.tuple #[.int .i64 (Nm.modZ a n), .bool (Nm.posB n)]) ∧ w' = w := by
  by_cases hn : n < 1
  · go_enter Try.func11, Try.ntmps11
    go_wp2
    go_ret2
    exact ⟨ret2 (Nm.modZ_no hn).symm (Nm.posB_no hn).symm, rfl⟩
  · have hn1 : 1 ≤ n := by omega
    clear hn
    by_cases hm : a.tmod n < 0
    · have hb := Int.lt_tmod_of_pos a (show (0:Int) < n by omega)
      go_enter Try.func11, Try.ntmps11
      go_wp2
      go_ret2
      exact ⟨ret2 ((Nm.parts_down hn1 hm).2.trans (Nm.modZ_yes hn1).symm) (Nm.posB_yes hn1).symm, rfl⟩
    · have hm1 : 0 ≤ a.tmod n := by omega
      clear hm
      go_enter Try.func11, Try.ntmps11
      go_wp2
      go_ret2
      exact ⟨ret2 ((Nm.parts_up hn1 hm1).2.trans (Nm.modZ_yes hn1).symm) (Nm.posB_yes hn1).symm, rfl⟩

set_option maxHeartbeats 400000 in
theorem modT (a n : Int) (w : World) (h1 : -128 ≤ a) (h2 : a ≤ 127) (h3 : -128 ≤ n) (h4 : n ≤ 127) :
    Calls Try.prog 12 #[.int .i8 a, .int .i8 n] w fun e w' => e = .returned (.tuple #[.int .i8 (Nm.modZ a n), .bool (Nm.posB n)]) ∧ w' = w := by
  by_cases hn : n < 1
  · go_enter Try.func12, Try.ntmps12
    go_wp2
    go_ret2
    exact ⟨ret2 (Nm.modZ_no hn).symm (Nm.posB_no hn).symm, rfl⟩
  · have hn1 : 1 ≤ n := by omega
    clear hn
    by_cases hm : a.tmod n < 0
    · have hb := Int.lt_tmod_of_pos a (show (0:Int) < n by omega)
      go_enter Try.func12, Try.ntmps12
      go_wp2
      go_ret2
      exact ⟨ret2 ((Nm.parts_down hn1 hm).2.trans (Nm.modZ_yes hn1).symm) (Nm.posB_yes hn1).symm, rfl⟩
    · have hm1 : 0 ≤ a.tmod n := by omega
      clear hm
      go_enter Try.func12, Try.ntmps12
      go_wp2
      go_ret2
      exact ⟨ret2 ((Nm.parts_up hn1 hm1).2.trans (Nm.modZ_yes hn1).symm) (Nm.posB_yes hn1).symm, rfl⟩

set_option maxHeartbeats 400000 in
theorem modW (a n : Int) (w : World) (h1 : -9223372036854775808 ≤ a) (h2 : a ≤ 9223372036854775807) (h3 : -9223372036854775808 ≤ n) (h4 : n ≤ 9223372036854775807) :
    Calls Try.prog 13 #[.int .i64 a, .int .i64 n] w fun e w' => e = .returned (.tuple #[.int .i64 (Nm.modZ a n), .bool (Nm.posB n)]) ∧ w' = w := by
  by_cases hn : n < 1
  · go_enter Try.func13, Try.ntmps13
    go_wp2
    go_ret2
    exact ⟨ret2 (Nm.modZ_no hn).symm (Nm.posB_no hn).symm, rfl⟩
  · have hn1 : 1 ≤ n := by omega
    clear hn
    by_cases hm : a.tmod n < 0
    · have hb := Int.lt_tmod_of_pos a (show (0:Int) < n by omega)
      go_enter Try.func13, Try.ntmps13
      go_wp2
      go_ret2
      exact ⟨ret2 ((Nm.parts_down hn1 hm).2.trans (Nm.modZ_yes hn1).symm) (Nm.posB_yes hn1).symm, rfl⟩
    · have hm1 : 0 ≤ a.tmod n := by omega
      clear hm
      go_enter Try.func13, Try.ntmps13
      go_wp2
      go_ret2
      exact ⟨ret2 ((Nm.parts_up hn1 hm1).2.trans (Nm.modZ_yes hn1).symm) (Nm.posB_yes hn1).symm, rfl⟩

set_option maxHeartbeats 400000 in
theorem modRef (a n : Int) (w : World) (h1 : -9223372036854775808 ≤ a) (h2 : a ≤ 9223372036854775807) (h3 : -9223372036854775808 ≤ n) (h4 : n ≤ 9223372036854775807) :
    Calls Try.prog 14 #[.int .i64 a, .int .i64 n] w fun e w' => e = .returned (.tuple #[.int .i64 (Nm.modZ a n), .bool (Nm.posB n)]) ∧ w' = w := by
  by_cases hn : n < 1
  · go_enter Try.func14, Try.ntmps14
    go_wp2
    go_ret2
    exact ⟨ret2 (Nm.modZ_no hn).symm (Nm.posB_no hn).symm, rfl⟩
  · have hn1 : 1 ≤ n := by omega
    clear hn
    by_cases hm : a.tmod n < 0
    · have hb := Int.lt_tmod_of_pos a (show (0:Int) < n by omega)
      go_enter Try.func14, Try.ntmps14
      go_wp2
      go_ret2
      exact ⟨ret2 ((Nm.parts_down hn1 hm).2.trans (Nm.modZ_yes hn1).symm) (Nm.posB_yes hn1).symm, rfl⟩
    · have hm1 : 0 ≤ a.tmod n := by omega
      clear hm
      go_enter Try.func14, Try.ntmps14
      go_wp2
      go_ret2
      exact ⟨ret2 ((Nm.parts_up hn1 hm1).2.trans (Nm.modZ_yes hn1).symm) (Nm.posB_yes hn1).symm, rfl⟩

set_option maxHeartbeats 400000 in
theorem div8 (a n : Int) (w : World) (h1 : -128 ≤ a) (h2 : a ≤ 127) (h3 : -128 ≤ n) (h4 : n ≤ 127) :
    Calls Try.prog 48 #[.int .i8 a, .int .i8 n] w fun e w' => e = .returned (.tuple #[.int .i8 (Nm.divZ a n), .bool (Nm.posB n)]) ∧ w' = w := by
  by_cases hn : n < 1
  · go_enter Try.func48, Try.ntmps48
    go_wp2
    go_ret2
    exact ⟨ret2 (Nm.divZ_no hn).symm (Nm.posB_no hn).symm, rfl⟩
  · have hn1 : 1 ≤ n := by omega
    clear hn
    have hq := Nm.tdiv_bd hn1 h1 h2 (by omega) (by omega)
    obtain ⟨hq1, hq2⟩ := hq
    have hqw := Nm.w8 hq1 hq2
    have he := Nm.ediv_bd hn1 h1 h2 (by omega) (by omega)
    obtain ⟨he1, he2⟩ := he
    by_cases hm : a.tmod n < 0
    · have hd := (Nm.parts_down hn1 hm).1
      have hw2 : -128 ≤ a.tdiv n - 1 := by omega
      have hfin : a.tdiv n - 1 = Nm.divZ a n := hd.trans (Nm.divZ_yes hn1).symm
      have H1 : Hid (a.tdiv n - 1 = Nm.divZ a n) := hfin
      clear hfin hd he1 he2
      go_enter Try.func48, Try.ntmps48
      go_wp2
      go_ret2
      exact ⟨ret2 H1.out (Nm.posB_yes hn1).symm, rfl⟩
    · have hm1 : 0 ≤ a.tmod n := by omega
      clear hm
      have H1 : Hid (a.tdiv n = Nm.divZ a n) := (Nm.parts_up hn1 hm1).1.trans (Nm.divZ_yes hn1).symm
      clear he1 he2
      go_enter Try.func48, Try.ntmps48
      go_wp2
      go_ret2
      exact ⟨ret2 H1.out (Nm.posB_yes hn1).symm, rfl⟩

set_option maxHeartbeats 400000 in
theorem div16 (a n : Int) (w : World) (h1 : -32768 ≤ a) (h2 : a ≤ 32767) (h3 : -32768 ≤ n) (h4 : n ≤ 32767) :
    Calls Try.prog 49 #[.int .i16 a, .int .i16 n] w fun e w' => e = .returned (.tuple #[.int .i16 (Nm.divZ a n), .bool (Nm.posB n)]) ∧ w' = w := by
  by_cases hn : n < 1
  · go_enter Try.func49, Try.ntmps49
    go_wp2
    go_ret2
    exact ⟨ret2 (Nm.divZ_no hn).symm (Nm.posB_no hn).symm, rfl⟩
  · have hn1 : 1 ≤ n := by omega
    clear hn
    have hq := Nm.tdiv_bd hn1 h1 h2 (by omega) (by omega)
    obtain ⟨hq1, hq2⟩ := hq
    have hqw := Nm.w16 hq1 hq2
    have he := Nm.ediv_bd hn1 h1 h2 (by omega) (by omega)
    obtain ⟨he1, he2⟩ := he
    by_cases hm : a.tmod n < 0
    · have hd := (Nm.parts_down hn1 hm).1
      have hw2 : -32768 ≤ a.tdiv n - 1 := by omega
      have hfin : a.tdiv n - 1 = Nm.divZ a n := hd.trans (Nm.divZ_yes hn1).symm
      have H1 : Hid (a.tdiv n - 1 = Nm.divZ a n) := hfin
      clear hfin hd he1 he2
      go_enter Try.func49, Try.ntmps49
      go_wp2
      go_ret2
      exact ⟨ret2 H1.out (Nm.posB_yes hn1).symm, rfl⟩
    · have hm1 : 0 ≤ a.tmod n := by omega
      clear hm
      have H1 : Hid (a.tdiv n = Nm.divZ a n) := (Nm.parts_up hn1 hm1).1.trans (Nm.divZ_yes hn1).symm
      clear he1 he2
      go_enter Try.func49, Try.ntmps49
      go_wp2
      go_ret2
      exact ⟨ret2 H1.out (Nm.posB_yes hn1).symm, rfl⟩

set_option maxHeartbeats 400000 in
theorem div32 (a n : Int) (w : World) (h1 : -2147483648 ≤ a) (h2 : a ≤ 2147483647) (h3 : -2147483648 ≤ n) (h4 : n ≤ 2147483647) :
    Calls Try.prog 50 #[.int .i32 a, .int .i32 n] w fun e w' => e = .returned (.tuple #[.int .i32 (Nm.divZ a n), .bool (Nm.posB n)]) ∧ w' = w := by
  by_cases hn : n < 1
  · go_enter Try.func50, Try.ntmps50
    go_wp2
    go_ret2
    exact ⟨ret2 (Nm.divZ_no hn).symm (Nm.posB_no hn).symm, rfl⟩
  · have hn1 : 1 ≤ n := by omega
    clear hn
    have hq := Nm.tdiv_bd hn1 h1 h2 (by omega) (by omega)
    obtain ⟨hq1, hq2⟩ := hq
    have hqw := Nm.w32 hq1 hq2
    have he := Nm.ediv_bd hn1 h1 h2 (by omega) (by omega)
    obtain ⟨he1, he2⟩ := he
    by_cases hm : a.tmod n < 0
    · have hd := (Nm.parts_down hn1 hm).1
      have hw2 : -2147483648 ≤ a.tdiv n - 1 := by omega
      have hfin : a.tdiv n - 1 = Nm.divZ a n := hd.trans (Nm.divZ_yes hn1).symm
      have H1 : Hid (a.tdiv n - 1 = Nm.divZ a n) := hfin
      clear hfin hd he1 he2
      go_enter Try.func50, Try.ntmps50
      go_wp2
      go_ret2
      exact ⟨ret2 H1.out (Nm.posB_yes hn1).symm, rfl⟩
    · have hm1 : 0 ≤ a.tmod n := by omega
      clear hm
      have H1 : Hid (a.tdiv n = Nm.divZ a n) := (Nm.parts_up hn1 hm1).1.trans (Nm.divZ_yes hn1).symm
      clear he1 he2
      go_enter Try.func50, Try.ntmps50
      go_wp2
      go_ret2
      exact ⟨ret2 H1.out (Nm.posB_yes hn1).symm, rfl⟩

set_option maxHeartbeats 400000 in
theorem div64 (a n : Int) (w : World) (h1 : -9223372036854775808 ≤ a) (h2 : a ≤ 9223372036854775807) (h3 : -9223372036854775808 ≤ n) (h4 : n ≤ 9223372036854775807) :
    Calls Try.prog 51 #[.int .i64 a, .int .i64 n] w fun e w' => e = .returned (.tuple #[.int .i64 (Nm.divZ a n), .bool (Nm.posB n)]) ∧ w' = w := by
  by_cases hn : n < 1
  · go_enter Try.func51, Try.ntmps51
    go_wp2
    go_ret2
    exact ⟨ret2 (Nm.divZ_no hn).symm (Nm.posB_no hn).symm, rfl⟩
  · have hn1 : 1 ≤ n := by omega
    clear hn
    have hq := Nm.tdiv_bd hn1 h1 h2 (by omega) (by omega)
    obtain ⟨hq1, hq2⟩ := hq
    have hqw := Nm.w64 hq1 hq2
    have he := Nm.ediv_bd hn1 h1 h2 (by omega) (by omega)
    obtain ⟨he1, he2⟩ := he
    by_cases hm : a.tmod n < 0
    · have hd := (Nm.parts_down hn1 hm).1
      have hw2 : -9223372036854775808 ≤ a.tdiv n - 1 := by omega
      have hfin : a.tdiv n - 1 = Nm.divZ a n := hd.trans (Nm.divZ_yes hn1).symm
      have H1 : Hid (a.tdiv n - 1 = Nm.divZ a n) := hfin
      clear hfin hd he1 he2
      go_enter Try.func51, Try.ntmps51
      go_wp2
      go_ret2
      exact ⟨ret2 H1.out (Nm.posB_yes hn1).symm, rfl⟩
    · have hm1 : 0 ≤ a.tmod n := by omega
      clear hm
      have H1 : Hid (a.tdiv n = Nm.divZ a n) := (Nm.parts_up hn1 hm1).1.trans (Nm.divZ_yes hn1).symm
      clear he1 he2
      go_enter Try.func51, Try.ntmps51
      go_wp2
      go_ret2
      exact ⟨ret2 H1.out (Nm.posB_yes hn1).symm, rfl⟩

set_option maxHeartbeats 400000 in
theorem divI (a n : Int) (w : World) (h1 : -9223372036854775808 ≤ a) (h2 : a ≤ 9223372036854775807) (h3 : -9223372036854775808 ≤ n) (h4 : n ≤ 9223372036854775807) :
    Calls Try.prog 52 #[.int .i64 a, .int .i64 n] w fun e w' => e = .returned (.tuple #[.int .i64 (Nm.divZ a n), .bool (Nm.posB n)]) ∧ w' = w := by
  by_cases hn : n < 1
  · go_enter Try.func52, Try.ntmps52
    go_wp2
    go_ret2
    exact ⟨ret2 (Nm.divZ_no hn).symm (Nm.posB_no hn).symm, rfl⟩
  · have hn1 : 1 ≤ n := by omega
    clear hn
    have hq := Nm.tdiv_bd hn1 h1 h2 (by omega) (by omega)
    obtain ⟨hq1, hq2⟩ := hq
    have hqw := Nm.w64 hq1 hq2
    have he := Nm.ediv_bd hn1 h1 h2 (by omega) (by omega)
    obtain ⟨he1, he2⟩ := he
    by_cases hm : a.tmod n < 0
    · have hd := (Nm.parts_down hn1 hm).1
      have hw2 : -9223372036854775808 ≤ a.tdiv n - 1 := by omega
      have hfin : a.tdiv n - 1 = Nm.divZ a n := hd.trans (Nm.divZ_yes hn1).symm
      have H1 : Hid (a.tdiv n - 1 = Nm.divZ a n) := hfin
      clear hfin hd he1 he2
      go_enter Try.func52, Try.ntmps52
      go_wp2
      go_ret2
      exact ⟨ret2 H1.out (Nm.posB_yes hn1).symm, rfl⟩
    · have hm1 : 0 ≤ a.tmod n := by omega
      clear hm
      have H1 : Hid (a.tdiv n = Nm.divZ a n) := (Nm.parts_up hn1 hm1).1.trans (Nm.divZ_yes hn1).symm
      clear he1 he2
      go_enter Try.func52, Try.ntmps52
      go_wp2
      go_ret2
      exact ⟨ret2 H1.out (Nm.posB_yes hn1).symm, rfl⟩

set_option maxHeartbeats 400000 in
theorem divT (a n : Int) (w : World) (h1 : -128 ≤ a) (h2 : a ≤ 127) (h3 : -128 ≤ n) (h4 : n ≤ 127) :
    Calls Try.prog 53 #[.int .i8 a, .int .i8 n] w fun e w' => e = .returned (.tuple #[.int .i8 (Nm.divZ a n), .bool (Nm.posB n)]) ∧ w' = w := by
  by_cases hn : n < 1
  · go_enter Try.func53, Try.ntmps53
    go_wp2
    go_ret2
    exact ⟨ret2 (Nm.divZ_no hn).symm (Nm.posB_no hn).symm, rfl⟩
  · have hn1 : 1 ≤ n := by omega
    clear hn
    have hq := Nm.tdiv_bd hn1 h1 h2 (by omega) (by omega)
    obtain ⟨hq1, hq2⟩ := hq
    have hqw := Nm.w8 hq1 hq2
    have he := Nm.ediv_bd hn1 h1 h2 (by omega) (by omega)
    obtain ⟨he1, he2⟩ := he
    by_cases hm : a.tmod n < 0
    · have hd := (Nm.parts_down hn1 hm).1
      have hw2 : -128 ≤ a.tdiv n - 1 := by omega
      have hfin : a.tdiv n - 1 = Nm.divZ a n := hd.trans (Nm.divZ_yes hn1).symm
      have H1 : Hid (a.tdiv n - 1 = Nm.divZ a n) := hfin
      clear hfin hd he1 he2
      go_enter Try.func53, Try.ntmps53
      go_wp2
      go_ret2
      exact ⟨ret2 H1.out (Nm.posB_yes hn1).symm, rfl⟩
    · have hm1 : 0 ≤ a.tmod n := by omega
      clear hm
      have H1 : Hid (a.tdiv n = Nm.divZ a n) := (Nm.parts_up hn1 hm1).1.trans (Nm.divZ_yes hn1).symm
      clear he1 he2
      go_enter Try.func53, Try.ntmps53
      go_wp2
      go_ret2
      exact ⟨ret2 H1.out (Nm.posB_yes hn1).symm, rfl⟩

set_option maxHeartbeats 400000 in
theorem divW (a n : Int) (w : World) (h1 : -9223372036854775808 ≤ a) (h2 : a ≤ 9223372036854775807) (h3 : -9223372036854775808 ≤ n) (h4 : n ≤ 9223372036854775807) :
    Calls Try.prog 54 #[.int .i64 a, .int .i64 n] w fun e w' => e = .returned (.tuple #[.int .i64 (Nm.divZ a n), .bool (Nm.posB n)]) ∧ w' = w := by
  by_cases hn : n < 1
  · go_enter Try.func54, Try.ntmps54
    go_wp2
    go_ret2
    exact ⟨ret2 (Nm.divZ_no hn).symm (Nm.posB_no hn).symm, rfl⟩
  · have hn1 : 1 ≤ n := by omega
    clear hn
    have hq := Nm.tdiv_bd hn1 h1 h2 (by omega) (by omega)
    obtain ⟨hq1, hq2⟩ := hq
    have hqw := Nm.w64 hq1 hq2
    have he := Nm.ediv_bd hn1 h1 h2 (by omega) (by omega)
    obtain ⟨he1, he2⟩ := he
    by_cases hm : a.tmod n < 0
    · have hd := (Nm.parts_down hn1 hm).1
      have hw2 : -9223372036854775808 ≤ a.tdiv n - 1 := by omega
      have hfin : a.tdiv n - 1 = Nm.divZ a n := hd.trans (Nm.divZ_yes hn1).symm
      have H1 : Hid (a.tdiv n - 1 = Nm.divZ a n) := hfin
      clear hfin hd he1 he2
      go_enter Try.func54, Try.ntmps54
      go_wp2
      go_ret2
      exact ⟨ret2 H1.out (Nm.posB_yes hn1).symm, rfl⟩
    · have hm1 : 0 ≤ a.tmod n := by omega
      clear hm
      have H1 : Hid (a.tdiv n = Nm.divZ a n) := (Nm.parts_up hn1 hm1).1.trans (Nm.divZ_yes hn1).symm
      clear he1 he2
      go_enter Try.func54, Try.ntmps54
      go_wp2
      go_ret2
      exact ⟨ret2 H1.out (Nm.posB_yes hn1).symm, rfl⟩

set_option maxHeartbeats 400000 in
theorem divRef (a n : Int) (w : World) (h1 : -9223372036854775808 ≤ a) (h2 : a ≤ 9223372036854775807) (h3 : -9223372036854775808 ≤ n) (h4 : n ≤ 9223372036854775807) :
    Calls Try.prog 55 #[.int .i64 a, .int .i64 n] w fun e w' => e = .returned (.tuple #[.int .i64 (Nm.divZ a n), .bool (Nm.posB n)]) ∧ w' = w := by
  by_cases hn : n < 1
  · go_enter Try.func55, Try.ntmps55
    go_wp2
    go_ret2
    exact ⟨ret2 (Nm.divZ_no hn).symm (Nm.posB_no hn).symm, rfl⟩
  · have hn1 : 1 ≤ n := by omega
    clear hn
    have hq := Nm.tdiv_bd hn1 h1 h2 (by omega) (by omega)
    obtain ⟨hq1, hq2⟩ := hq
    have hqw := Nm.w64 hq1 hq2
    have he := Nm.ediv_bd hn1 h1 h2 (by omega) (by omega)
    obtain ⟨he1, he2⟩ := he
    by_cases hm : a.tmod n < 0
    · have hd := (Nm.parts_down hn1 hm).1
      have hw2 : -9223372036854775808 ≤ a.tdiv n - 1 := by omega
      have hfin : a.tdiv n - 1 = Nm.divZ a n := hd.trans (Nm.divZ_yes hn1).symm
      have H1 : Hid (a.tdiv n - 1 = Nm.divZ a n) := hfin
      clear hfin hd he1 he2
      go_enter Try.func55, Try.ntmps55
      go_wp2
      go_ret2
      exact ⟨ret2 H1.out (Nm.posB_yes hn1).symm, rfl⟩
    · have hm1 : 0 ≤ a.tmod n := by omega
      clear hm
      have H1 : Hid (a.tdiv n = Nm.divZ a n) := (Nm.parts_up hn1 hm1).1.trans (Nm.divZ_yes hn1).symm
      clear he1 he2
      go_enter Try.func55, Try.ntmps55
      go_wp2
      go_ret2
      exact ⟨ret2 H1.out (Nm.posB_yes hn1).symm, rfl⟩

set_option maxHeartbeats 400000 in
theorem isSame (x : Int) (b : Bool) (w : World) :
    Calls Try.prog 15 #[.int .i64 x, .bool b, .int .i64 x, .bool b] w fun e w' => e = .returned (.bool true) ∧ w' = w := by
  have hx : (x == x) = true := by simp
  have hb : (b == b) = true := by simp
  go_enter Try.func15, Try.ntmps15
  go_wp2
  go_ret
  exact ⟨rfl, rfl⟩

end Go.Proofs.Ytnbfjoheljlkfaa