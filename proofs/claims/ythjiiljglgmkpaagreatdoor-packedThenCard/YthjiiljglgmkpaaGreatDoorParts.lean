/- What the calls Mod and Div of package whole, and the document's own Mod and Div, answer at every two numbers of their width. -/
import Derived.Test.YthjiiljglgmkpaaGreatDoorRows
import Derived.Test.YthjiiljglgmkpaaGreatDoorNums
import Derived.WalkKit
import Derived.WalkLawsBesides
import Derived.WalkSpells
import Derived.Below
namespace Go.Proofs.YthjiiljglgmkpaaGreatDoor
open Go.RowKit
set_option linter.unusedVariables false

theorem ret2 {k : IntKind} {a b : Int} {p q : Bool} (h : a = b) (hp : p = q) : Ending.returned (.tuple #[.int k a, .bool p]) = .returned (.tuple #[.int k b, .bool q]) := by rw [h, hp]

set_option maxHeartbeats 400000 in
theorem modI (a n : Int) (w : World) (h1 : -9223372036854775808 ≤ a) (h2 : a ≤ 9223372036854775807) (h3 : -9223372036854775808 ≤ n) (h4 : n ≤ 9223372036854775807) :
    Calls Tryz.prog 154 #[.int .i64 a, .int .i64 n] w fun e w' => e = .returned (.tuple #[.int .i64 (Nm.modZ a n), .bool (Nm.posB n)]) ∧ w' = w := by
  by_cases hn : n < 1
  · go_enter Tryz.func154, Tryz.ntmps154
    go_wp2
    go_ret2
    exact ⟨ret2 (Nm.modZ_no hn).symm (Nm.posB_no hn).symm, rfl⟩
  · have hn1 : 1 ≤ n := by omega
    clear hn
    by_cases hm : a.tmod n < 0
    · have hb := Int.lt_tmod_of_pos a (show (0:Int) < n by omega)
      go_enter Tryz.func154, Tryz.ntmps154
      go_wp2
      go_ret2
      exact ⟨ret2 ((Nm.parts_down hn1 hm).2.trans (Nm.modZ_yes hn1).symm) (Nm.posB_yes hn1).symm, rfl⟩
    · have hm1 : 0 ≤ a.tmod n := by omega
      clear hm
      go_enter Tryz.func154, Tryz.ntmps154
      go_wp2
      go_ret2
      exact ⟨ret2 ((Nm.parts_up hn1 hm1).2.trans (Nm.modZ_yes hn1).symm) (Nm.posB_yes hn1).symm, rfl⟩

set_option maxHeartbeats 400000 in
theorem divI (a n : Int) (w : World) (h1 : -9223372036854775808 ≤ a) (h2 : a ≤ 9223372036854775807) (h3 : -9223372036854775808 ≤ n) (h4 : n ≤ 9223372036854775807) :
    Calls Tryz.prog 143 #[.int .i64 a, .int .i64 n] w fun e w' => e = .returned (.tuple #[.int .i64 (Nm.divZ a n), .bool (Nm.posB n)]) ∧ w' = w := by
  by_cases hn : n < 1
  · go_enter Tryz.func143, Tryz.ntmps143
    go_wp2
    go_ret2
    exact ⟨ret2 (Nm.divZ_no hn).symm (Nm.posB_no hn).symm, rfl⟩
  · have hn1 : 1 ≤ n := by omega
    clear hn
    have hq := Nm.tdiv_bd hn1 h1 h2 (by omega) (by omega)
    obtain ⟨hq1, hq2⟩ := hq
    have hqw := Nm.w64 hq1 hq2
    have he := Nm.ediv_bd hn1 h1 h2 (by omega) (by omega)
    obtain ⟨he1, he2⟩ := he
    by_cases hm : a.tmod n < 0
    · have hd := (Nm.parts_down hn1 hm).1
      have hw2 : -9223372036854775808 ≤ a.tdiv n - 1 := by omega
      have hfin : a.tdiv n - 1 = Nm.divZ a n := hd.trans (Nm.divZ_yes hn1).symm
      have H1 : Hid (a.tdiv n - 1 = Nm.divZ a n) := hfin
      clear hfin hd he1 he2
      go_enter Tryz.func143, Tryz.ntmps143
      go_wp2
      go_ret2
      exact ⟨ret2 H1.out (Nm.posB_yes hn1).symm, rfl⟩
    · have hm1 : 0 ≤ a.tmod n := by omega
      clear hm
      have H1 : Hid (a.tdiv n = Nm.divZ a n) := (Nm.parts_up hn1 hm1).1.trans (Nm.divZ_yes hn1).symm
      clear he1 he2
      go_enter Tryz.func143, Tryz.ntmps143
      go_wp2
      go_ret2
      exact ⟨ret2 H1.out (Nm.posB_yes hn1).symm, rfl⟩

end Go.Proofs.YthjiiljglgmkpaaGreatDoor