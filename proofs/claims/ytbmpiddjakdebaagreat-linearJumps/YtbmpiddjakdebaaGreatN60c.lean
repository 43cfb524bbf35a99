/- The document's torus within bounds, kind 3. -/
import Derived.Test.YtbmpiddjakdebaaGreatNp
namespace Go.Proofs.YtbmpiddjakdebaaGreat
open Go.RowKit
set_option linter.unusedVariables false
set_option linter.unusedSimpArgs false
set_option maxRecDepth 100000

namespace Ln
set_option maxHeartbeats 8000000 in
theorem torusK30 (x y z : Int) (hx : 0 ≤ x ∧ x ≤ 65536) (hy : 0 ≤ y ∧ y ≤ 65536) (w : World) : Calls Tryz.prog 43 #[.agg #[.int .u8 3, .int .i64 x, .int .i64 y, .int .u8 0, .int .i64 z]] w fun e w' => e = .returned (.int .i64 (toE 3 x y 0 z)) ∧ w.grownBy w' none := by
  by_cases exh : x = 0
  case pos =>
    subst exh
    by_cases slh : z < 0
    case pos =>
      have hs : Tp.sd 0 y 0 = 0 := by simp [Tp.sd]
      have hc : Tp.chk 3 0 y 0 z ≠ 0 := by unfold Tp.chk; rw [hs]; (repeat' split) <;> omega
      have HE : toE 3 0 y 0 z = 9 := toE9 hc
      rw [HE]
      clear HE hc hs
      obtain ⟨W1, hW1, sz1, g1, B1⟩ := boxn w #[.int .u8 3, .int .i64 0, .int .i64 y, .int .u8 0, .int .i64 z] 23
      have b0 := B1.cell 0 (v := .int .u8 3) rfl; have b1 := B1.cell 1 (v := .int .i64 0) rfl; have b2 := B1.cell 2 (v := .int .i64 y) rfl; have b3 := B1.cell 3 (v := .int .u8 0) rfl; have b4 := B1.cell 4 (v := .int .i64 z) rfl
      have hb1 := B1.lt
      have yg : 0 ≤ y := by omega
      have yh : y ≤ 65536 := by omega
      have sgh : ¬ (0 : Int) < z := by omega
      go_enter Tryz.func43, Tryz.ntmps43
      go_wp2
      go_ret
      exact ⟨rfl, g1⟩
    case neg =>
      have hs : Tp.sd 0 y 0 = 0 := by simp [Tp.sd]
      have hc : Tp.chk 3 0 y 0 z ≠ 0 := by unfold Tp.chk; rw [hs]; (repeat' split) <;> omega
      have HE : toE 3 0 y 0 z = 9 := toE9 hc
      rw [HE]
      clear HE hc hs
      obtain ⟨W1, hW1, sz1, g1, B1⟩ := boxn w #[.int .u8 3, .int .i64 0, .int .i64 y, .int .u8 0, .int .i64 z] 23
      have b0 := B1.cell 0 (v := .int .u8 3) rfl; have b1 := B1.cell 1 (v := .int .i64 0) rfl; have b2 := B1.cell 2 (v := .int .i64 y) rfl; have b3 := B1.cell 3 (v := .int .u8 0) rfl; have b4 := B1.cell 4 (v := .int .i64 z) rfl
      have hb1 := B1.lt
      have yg : 0 ≤ y := by omega
      have yh : y ≤ 65536 := by omega
      go_enter Tryz.func43, Tryz.ntmps43
      go_wp2
      go_ret
      exact ⟨rfl, g1⟩
  case neg =>
    by_cases eyh : y = 0
    case pos =>
      subst eyh
      by_cases slh : z < x
      case pos =>
        by_cases sgh : -x < z
        case pos =>
          have hs : Tp.sd x 0 0 = x := by simp [Tp.sd]
          have hc : Tp.chk 3 x 0 0 z ≠ 0 := by unfold Tp.chk; rw [hs]; (repeat' split) <;> omega
          have HE : toE 3 x 0 0 z = 9 := toE9 hc
          rw [HE]
          clear HE hc hs
          obtain ⟨W1, hW1, sz1, g1, B1⟩ := boxn w #[.int .u8 3, .int .i64 x, .int .i64 0, .int .u8 0, .int .i64 z] 23
          have b0 := B1.cell 0 (v := .int .u8 3) rfl; have b1 := B1.cell 1 (v := .int .i64 x) rfl; have b2 := B1.cell 2 (v := .int .i64 0) rfl; have b3 := B1.cell 3 (v := .int .u8 0) rfl; have b4 := B1.cell 4 (v := .int .i64 z) rfl
          have hb1 := B1.lt
          have xg : 0 ≤ x := by omega
          have xh : x ≤ 65536 := by omega
          have x0 : (x == 0) = false := by simp; omega
          have nw : IntKind.i64.wrap (-x) = -x := by rw [IntKind.wrap_i64]; omega
          go_enter Tryz.func43, Tryz.ntmps43
          go_wp2
          go_ret
          exact ⟨rfl, g1⟩
        case neg =>
          have hs : Tp.sd x 0 0 = x := by simp [Tp.sd]
          have hc : Tp.chk 3 x 0 0 z ≠ 0 := by unfold Tp.chk; rw [hs]; (repeat' split) <;> omega
          have HE : toE 3 x 0 0 z = 9 := toE9 hc
          rw [HE]
          clear HE hc hs
          obtain ⟨W1, hW1, sz1, g1, B1⟩ := boxn w #[.int .u8 3, .int .i64 x, .int .i64 0, .int .u8 0, .int .i64 z] 23
          have b0 := B1.cell 0 (v := .int .u8 3) rfl; have b1 := B1.cell 1 (v := .int .i64 x) rfl; have b2 := B1.cell 2 (v := .int .i64 0) rfl; have b3 := B1.cell 3 (v := .int .u8 0) rfl; have b4 := B1.cell 4 (v := .int .i64 z) rfl
          have hb1 := B1.lt
          have xg : 0 ≤ x := by omega
          have xh : x ≤ 65536 := by omega
          have x0 : (x == 0) = false := by simp; omega
          have nw : IntKind.i64.wrap (-x) = -x := by rw [IntKind.wrap_i64]; omega
          go_enter Tryz.func43, Tryz.ntmps43
          go_wp2
          go_ret
          exact ⟨rfl, g1⟩
      case neg =>
        have hs : Tp.sd x 0 0 = x := by simp [Tp.sd]
        have hc : Tp.chk 3 x 0 0 z ≠ 0 := by unfold Tp.chk; rw [hs]; (repeat' split) <;> omega
        have HE : toE 3 x 0 0 z = 9 := toE9 hc
        rw [HE]
        clear HE hc hs
        obtain ⟨W1, hW1, sz1, g1, B1⟩ := boxn w #[.int .u8 3, .int .i64 x, .int .i64 0, .int .u8 0, .int .i64 z] 23
        have b0 := B1.cell 0 (v := .int .u8 3) rfl; have b1 := B1.cell 1 (v := .int .i64 x) rfl; have b2 := B1.cell 2 (v := .int .i64 0) rfl; have b3 := B1.cell 3 (v := .int .u8 0) rfl; have b4 := B1.cell 4 (v := .int .i64 z) rfl
        have hb1 := B1.lt
        have xg : 0 ≤ x := by omega
        have xh : x ≤ 65536 := by omega
        have x0 : (x == 0) = false := by simp; omega
        have nw : IntKind.i64.wrap (-x) = -x := by rw [IntKind.wrap_i64]; omega
        go_enter Tryz.func43, Tryz.ntmps43
        go_wp2
        go_ret
        exact ⟨rfl, g1⟩
    case neg =>
      by_cases slh : z < x
      case pos =>
        by_cases sgh : -x < z
        case pos =>
          have hs : Tp.sd x y 0 = x := by simp [Tp.sd]
          have hc : Tp.chk 3 x y 0 z ≠ 0 := by unfold Tp.chk; rw [hs]; (repeat' split) <;> omega
          have HE : toE 3 x y 0 z = 9 := toE9 hc
          rw [HE]
          clear HE hc hs
          obtain ⟨W1, hW1, sz1, g1, B1⟩ := boxn w #[.int .u8 3, .int .i64 x, .int .i64 y, .int .u8 0, .int .i64 z] 23
          have b0 := B1.cell 0 (v := .int .u8 3) rfl; have b1 := B1.cell 1 (v := .int .i64 x) rfl; have b2 := B1.cell 2 (v := .int .i64 y) rfl; have b3 := B1.cell 3 (v := .int .u8 0) rfl; have b4 := B1.cell 4 (v := .int .i64 z) rfl
          have hb1 := B1.lt
          have xg : 0 ≤ x := by omega
          have xh : x ≤ 65536 := by omega
          have x0 : (x == 0) = false := by simp; omega
          have yg : 0 ≤ y := by omega
          have yh : y ≤ 65536 := by omega
          have y0 : (y == 0) = false := by simp; omega
          have nw : IntKind.i64.wrap (-x) = -x := by rw [IntKind.wrap_i64]; omega
          go_enter Tryz.func43, Tryz.ntmps43
          go_wp2
          go_ret
          exact ⟨rfl, g1⟩
        case neg =>
          have hs : Tp.sd x y 0 = x := by simp [Tp.sd]
          have hc : Tp.chk 3 x y 0 z ≠ 0 := by unfold Tp.chk; rw [hs]; (repeat' split) <;> omega
          have HE : toE 3 x y 0 z = 9 := toE9 hc
          rw [HE]
          clear HE hc hs
          obtain ⟨W1, hW1, sz1, g1, B1⟩ := boxn w #[.int .u8 3, .int .i64 x, .int .i64 y, .int .u8 0, .int .i64 z] 23
          have b0 := B1.cell 0 (v := .int .u8 3) rfl; have b1 := B1.cell 1 (v := .int .i64 x) rfl; have b2 := B1.cell 2 (v := .int .i64 y) rfl; have b3 := B1.cell 3 (v := .int .u8 0) rfl; have b4 := B1.cell 4 (v := .int .i64 z) rfl
          have hb1 := B1.lt
          have xg : 0 ≤ x := by omega
          have xh : x ≤ 65536 := by omega
          have x0 : (x == 0) = false := by simp; omega
          have yg : 0 ≤ y := by omega
          have yh : y ≤ 65536 := by omega
          have y0 : (y == 0) = false := by simp; omega
          have nw : IntKind.i64.wrap (-x) = -x := by rw [IntKind.wrap_i64]; omega
          go_enter Tryz.func43, Tryz.ntmps43
          go_wp2
          go_ret
          exact ⟨rfl, g1⟩
      case neg =>
        have hs : Tp.sd x y 0 = x := by simp [Tp.sd]
        have hc : Tp.chk 3 x y 0 z ≠ 0 := by unfold Tp.chk; rw [hs]; (repeat' split) <;> omega
        have HE : toE 3 x y 0 z = 9 := toE9 hc
        rw [HE]
        clear HE hc hs
        obtain ⟨W1, hW1, sz1, g1, B1⟩ := boxn w #[.int .u8 3, .int .i64 x, .int .i64 y, .int .u8 0, .int .i64 z] 23
        have b0 := B1.cell 0 (v := .int .u8 3) rfl; have b1 := B1.cell 1 (v := .int .i64 x) rfl; have b2 := B1.cell 2 (v := .int .i64 y) rfl; have b3 := B1.cell 3 (v := .int .u8 0) rfl; have b4 := B1.cell 4 (v := .int .i64 z) rfl
        have hb1 := B1.lt
        have xg : 0 ≤ x := by omega
        have xh : x ≤ 65536 := by omega
        have x0 : (x == 0) = false := by simp; omega
        have yg : 0 ≤ y := by omega
        have yh : y ≤ 65536 := by omega
        have y0 : (y == 0) = false := by simp; omega
        have nw : IntKind.i64.wrap (-x) = -x := by rw [IntKind.wrap_i64]; omega
        go_enter Tryz.func43, Tryz.ntmps43
        go_wp2
        go_ret
        exact ⟨rfl, g1⟩
set_option maxHeartbeats 8000000 in
theorem torusK31 (x y z : Int) (hx : 0 ≤ x ∧ x ≤ 65536) (hy : 0 ≤ y ∧ y ≤ 65536) (w : World) : Calls Tryz.prog 43 #[.agg #[.int .u8 3, .int .i64 x, .int .i64 y, .int .u8 1, .int .i64 z]] w fun e w' => e = .returned (.int .i64 (toE 3 x y 1 z)) ∧ w.grownBy w' none := by
  by_cases exh : x = 0
  case pos =>
    subst exh
    by_cases slh : z < 0
    case pos =>
      have hs : Tp.sd 0 y 1 = 0 := by simp [Tp.sd]
      have hc : Tp.chk 3 0 y 1 z ≠ 0 := by unfold Tp.chk; rw [hs]; (repeat' split) <;> omega
      have HE : toE 3 0 y 1 z = 9 := toE9 hc
      rw [HE]
      clear HE hc hs
      obtain ⟨W1, hW1, sz1, g1, B1⟩ := boxn w #[.int .u8 3, .int .i64 0, .int .i64 y, .int .u8 1, .int .i64 z] 23
      have b0 := B1.cell 0 (v := .int .u8 3) rfl; have b1 := B1.cell 1 (v := .int .i64 0) rfl; have b2 := B1.cell 2 (v := .int .i64 y) rfl; have b3 := B1.cell 3 (v := .int .u8 1) rfl; have b4 := B1.cell 4 (v := .int .i64 z) rfl
      have hb1 := B1.lt
      have yg : 0 ≤ y := by omega
      have yh : y ≤ 65536 := by omega
      have sgh : ¬ (0 : Int) < z := by omega
      go_enter Tryz.func43, Tryz.ntmps43
      go_wp2
      go_ret
      exact ⟨rfl, g1⟩
    case neg =>
      have hs : Tp.sd 0 y 1 = 0 := by simp [Tp.sd]
      have hc : Tp.chk 3 0 y 1 z ≠ 0 := by unfold Tp.chk; rw [hs]; (repeat' split) <;> omega
      have HE : toE 3 0 y 1 z = 9 := toE9 hc
      rw [HE]
      clear HE hc hs
      obtain ⟨W1, hW1, sz1, g1, B1⟩ := boxn w #[.int .u8 3, .int .i64 0, .int .i64 y, .int .u8 1, .int .i64 z] 23
      have b0 := B1.cell 0 (v := .int .u8 3) rfl; have b1 := B1.cell 1 (v := .int .i64 0) rfl; have b2 := B1.cell 2 (v := .int .i64 y) rfl; have b3 := B1.cell 3 (v := .int .u8 1) rfl; have b4 := B1.cell 4 (v := .int .i64 z) rfl
      have hb1 := B1.lt
      have yg : 0 ≤ y := by omega
      have yh : y ≤ 65536 := by omega
      go_enter Tryz.func43, Tryz.ntmps43
      go_wp2
      go_ret
      exact ⟨rfl, g1⟩
  case neg =>
    by_cases eyh : y = 0
    case pos =>
      subst eyh
      by_cases slh : z < x
      case pos =>
        by_cases sgh : -x < z
        case pos =>
          have hs : Tp.sd x 0 1 = x := by simp [Tp.sd]
          have hc : Tp.chk 3 x 0 1 z ≠ 0 := by unfold Tp.chk; rw [hs]; (repeat' split) <;> omega
          have HE : toE 3 x 0 1 z = 9 := toE9 hc
          rw [HE]
          clear HE hc hs
          obtain ⟨W1, hW1, sz1, g1, B1⟩ := boxn w #[.int .u8 3, .int .i64 x, .int .i64 0, .int .u8 1, .int .i64 z] 23
          have b0 := B1.cell 0 (v := .int .u8 3) rfl; have b1 := B1.cell 1 (v := .int .i64 x) rfl; have b2 := B1.cell 2 (v := .int .i64 0) rfl; have b3 := B1.cell 3 (v := .int .u8 1) rfl; have b4 := B1.cell 4 (v := .int .i64 z) rfl
          have hb1 := B1.lt
          have xg : 0 ≤ x := by omega
          have xh : x ≤ 65536 := by omega
          have x0 : (x == 0) = false := by simp; omega
          have nw : IntKind.i64.wrap (-x) = -x := by rw [IntKind.wrap_i64]; omega
          go_enter Tryz.func43, Tryz.ntmps43
          go_wp2
          go_ret
          exact ⟨rfl, g1⟩
        case neg =>
          have hs : Tp.sd x 0 1 = x := by simp [Tp.sd]
          have hc : Tp.chk 3 x 0 1 z ≠ 0 := by unfold Tp.chk; rw [hs]; (repeat' split) <;> omega
          have HE : toE 3 x 0 1 z = 9 := toE9 hc
          rw [HE]
          clear HE hc hs
          obtain ⟨W1, hW1, sz1, g1, B1⟩ := boxn w #[.int .u8 3, .int .i64 x, .int .i64 0, .int .u8 1, .int .i64 z] 23
          have b0 := B1.cell 0 (v := .int .u8 3) rfl; have b1 := B1.cell 1 (v := .int .i64 x) rfl; have b2 := B1.cell 2 (v := .int .i64 0) rfl; have b3 := B1.cell 3 (v := .int .u8 1) rfl; have b4 := B1.cell 4 (v := .int .i64 z) rfl
          have hb1 := B1.lt
          have xg : 0 ≤ x := by omega
          have xh : x ≤ 65536 := by omega
          have x0 : (x == 0) = false := by simp; omega
          have nw : IntKind.i64.wrap (-x) = -x := by rw [IntKind.wrap_i64]; omega
          go_enter Tryz.func43, Tryz.ntmps43
          go_wp2
          go_ret
          exact ⟨rfl, g1⟩
      case neg =>
        have hs : Tp.sd x 0 1 = x := by simp [Tp.sd]
        have hc : Tp.chk 3 x 0 1 z ≠ 0 := by unfold Tp.chk; rw [hs]; (repeat' split) <;> omega
        have HE : toE 3 x 0 1 z = 9 := toE9 hc
        rw [HE]
        clear HE hc hs
        obtain ⟨W1, hW1, sz1, g1, B1⟩ := boxn w #[.int .u8 3, .int .i64 x, .int .i64 0, .int .u8 1, .int .i64 z] 23
        have b0 := B1.cell 0 (v := .int .u8 3) rfl; have b1 := B1.cell 1 (v := .int .i64 x) rfl; have b2 := B1.cell 2 (v := .int .i64 0) rfl; have b3 := B1.cell 3 (v := .int .u8 1) rfl; have b4 := B1.cell 4 (v := .int .i64 z) rfl
        have hb1 := B1.lt
        have xg : 0 ≤ x := by omega
        have xh : x ≤ 65536 := by omega
        have x0 : (x == 0) = false := by simp; omega
        have nw : IntKind.i64.wrap (-x) = -x := by rw [IntKind.wrap_i64]; omega
        go_enter Tryz.func43, Tryz.ntmps43
        go_wp2
        go_ret
        exact ⟨rfl, g1⟩
    case neg =>
      by_cases slh : z < x
      case pos =>
        by_cases sgh : -x < z
        case pos =>
          have hs : Tp.sd x y 1 = x := by simp [Tp.sd]
          have hc : Tp.chk 3 x y 1 z = 0 := by unfold Tp.chk; rw [hs]; (repeat' split) <;> omega
          have HE : toE 3 x y 1 z = 40 := toE40 hc (by decide)
          rw [HE]
          clear HE hc hs
          obtain ⟨W1, hW1, sz1, g1, B1⟩ := boxn w #[.int .u8 3, .int .i64 x, .int .i64 y, .int .u8 1, .int .i64 z] 23
          have b0 := B1.cell 0 (v := .int .u8 3) rfl; have b1 := B1.cell 1 (v := .int .i64 x) rfl; have b2 := B1.cell 2 (v := .int .i64 y) rfl; have b3 := B1.cell 3 (v := .int .u8 1) rfl; have b4 := B1.cell 4 (v := .int .i64 z) rfl
          have hb1 := B1.lt
          have xg : 0 ≤ x := by omega
          have xh : x ≤ 65536 := by omega
          have x0 : (x == 0) = false := by simp; omega
          have yg : 0 ≤ y := by omega
          have yh : y ≤ 65536 := by omega
          have y0 : (y == 0) = false := by simp; omega
          have nw : IntKind.i64.wrap (-x) = -x := by rw [IntKind.wrap_i64]; omega
          go_enter Tryz.func43, Tryz.ntmps43
          go_wp2
          go_ret
          exact ⟨rfl, g1⟩
        case neg =>
          have hs : Tp.sd x y 1 = x := by simp [Tp.sd]
          have hc : Tp.chk 3 x y 1 z ≠ 0 := by unfold Tp.chk; rw [hs]; (repeat' split) <;> omega
          have HE : toE 3 x y 1 z = 9 := toE9 hc
          rw [HE]
          clear HE hc hs
          obtain ⟨W1, hW1, sz1, g1, B1⟩ := boxn w #[.int .u8 3, .int .i64 x, .int .i64 y, .int .u8 1, .int .i64 z] 23
          have b0 := B1.cell 0 (v := .int .u8 3) rfl; have b1 := B1.cell 1 (v := .int .i64 x) rfl; have b2 := B1.cell 2 (v := .int .i64 y) rfl; have b3 := B1.cell 3 (v := .int .u8 1) rfl; have b4 := B1.cell 4 (v := .int .i64 z) rfl
          have hb1 := B1.lt
          have xg : 0 ≤ x := by omega
          have xh : x ≤ 65536 := by omega
          have x0 : (x == 0) = false := by simp; omega
          have yg : 0 ≤ y := by omega
          have yh : y ≤ 65536 := by omega
          have y0 : (y == 0) = false := by simp; omega
          have nw : IntKind.i64.wrap (-x) = -x := by rw [IntKind.wrap_i64]; omega
          go_enter Tryz.func43, Tryz.ntmps43
          go_wp2
          go_ret
          exact ⟨rfl, g1⟩
      case neg =>
        have hs : Tp.sd x y 1 = x := by simp [Tp.sd]
        have hc : Tp.chk 3 x y 1 z ≠ 0 := by unfold Tp.chk; rw [hs]; (repeat' split) <;> omega
        have HE : toE 3 x y 1 z = 9 := toE9 hc
        rw [HE]
        clear HE hc hs
        obtain ⟨W1, hW1, sz1, g1, B1⟩ := boxn w #[.int .u8 3, .int .i64 x, .int .i64 y, .int .u8 1, .int .i64 z] 23
        have b0 := B1.cell 0 (v := .int .u8 3) rfl; have b1 := B1.cell 1 (v := .int .i64 x) rfl; have b2 := B1.cell 2 (v := .int .i64 y) rfl; have b3 := B1.cell 3 (v := .int .u8 1) rfl; have b4 := B1.cell 4 (v := .int .i64 z) rfl
        have hb1 := B1.lt
        have xg : 0 ≤ x := by omega
        have xh : x ≤ 65536 := by omega
        have x0 : (x == 0) = false := by simp; omega
        have yg : 0 ≤ y := by omega
        have yh : y ≤ 65536 := by omega
        have y0 : (y == 0) = false := by simp; omega
        have nw : IntKind.i64.wrap (-x) = -x := by rw [IntKind.wrap_i64]; omega
        go_enter Tryz.func43, Tryz.ntmps43
        go_wp2
        go_ret
        exact ⟨rfl, g1⟩
set_option maxHeartbeats 8000000 in
theorem torusK32 (x y z : Int) (hx : 0 ≤ x ∧ x ≤ 65536) (hy : 0 ≤ y ∧ y ≤ 65536) (w : World) : Calls Tryz.prog 43 #[.agg #[.int .u8 3, .int .i64 x, .int .i64 y, .int .u8 2, .int .i64 z]] w fun e w' => e = .returned (.int .i64 (toE 3 x y 2 z)) ∧ w.grownBy w' none := by
  by_cases exh : x = 0
  case pos =>
    subst exh
    by_cases eyh : y = 0
    case pos =>
      subst eyh
      by_cases slh : z < 0
      case pos =>
        have hs : Tp.sd 0 0 2 = 0 := by simp [Tp.sd]
        have hc : Tp.chk 3 0 0 2 z ≠ 0 := by unfold Tp.chk; rw [hs]; (repeat' split) <;> omega
        have HE : toE 3 0 0 2 z = 9 := toE9 hc
        rw [HE]
        clear HE hc hs
        obtain ⟨W1, hW1, sz1, g1, B1⟩ := boxn w #[.int .u8 3, .int .i64 0, .int .i64 0, .int .u8 2, .int .i64 z] 23
        have b0 := B1.cell 0 (v := .int .u8 3) rfl; have b1 := B1.cell 1 (v := .int .i64 0) rfl; have b2 := B1.cell 2 (v := .int .i64 0) rfl; have b3 := B1.cell 3 (v := .int .u8 2) rfl; have b4 := B1.cell 4 (v := .int .i64 z) rfl
        have hb1 := B1.lt
        have sgh : ¬ (0 : Int) < z := by omega
        go_enter Tryz.func43, Tryz.ntmps43
        go_wp2
        go_ret
        exact ⟨rfl, g1⟩
      case neg =>
        have hs : Tp.sd 0 0 2 = 0 := by simp [Tp.sd]
        have hc : Tp.chk 3 0 0 2 z ≠ 0 := by unfold Tp.chk; rw [hs]; (repeat' split) <;> omega
        have HE : toE 3 0 0 2 z = 9 := toE9 hc
        rw [HE]
        clear HE hc hs
        obtain ⟨W1, hW1, sz1, g1, B1⟩ := boxn w #[.int .u8 3, .int .i64 0, .int .i64 0, .int .u8 2, .int .i64 z] 23
        have b0 := B1.cell 0 (v := .int .u8 3) rfl; have b1 := B1.cell 1 (v := .int .i64 0) rfl; have b2 := B1.cell 2 (v := .int .i64 0) rfl; have b3 := B1.cell 3 (v := .int .u8 2) rfl; have b4 := B1.cell 4 (v := .int .i64 z) rfl
        have hb1 := B1.lt
        go_enter Tryz.func43, Tryz.ntmps43
        go_wp2
        go_ret
        exact ⟨rfl, g1⟩
    case neg =>
      by_cases slh : z < y
      case pos =>
        by_cases sgh : -y < z
        case pos =>
          have hs : Tp.sd 0 y 2 = y := by simp [Tp.sd]
          have hc : Tp.chk 3 0 y 2 z ≠ 0 := by unfold Tp.chk; rw [hs]; (repeat' split) <;> omega
          have HE : toE 3 0 y 2 z = 9 := toE9 hc
          rw [HE]
          clear HE hc hs
          obtain ⟨W1, hW1, sz1, g1, B1⟩ := boxn w #[.int .u8 3, .int .i64 0, .int .i64 y, .int .u8 2, .int .i64 z] 23
          have b0 := B1.cell 0 (v := .int .u8 3) rfl; have b1 := B1.cell 1 (v := .int .i64 0) rfl; have b2 := B1.cell 2 (v := .int .i64 y) rfl; have b3 := B1.cell 3 (v := .int .u8 2) rfl; have b4 := B1.cell 4 (v := .int .i64 z) rfl
          have hb1 := B1.lt
          have yg : 0 ≤ y := by omega
          have yh : y ≤ 65536 := by omega
          have y0 : (y == 0) = false := by simp; omega
          have nw : IntKind.i64.wrap (-y) = -y := by rw [IntKind.wrap_i64]; omega
          go_enter Tryz.func43, Tryz.ntmps43
          go_wp2
          go_ret
          exact ⟨rfl, g1⟩
        case neg =>
          have hs : Tp.sd 0 y 2 = y := by simp [Tp.sd]
          have hc : Tp.chk 3 0 y 2 z ≠ 0 := by unfold Tp.chk; rw [hs]; (repeat' split) <;> omega
          have HE : toE 3 0 y 2 z = 9 := toE9 hc
          rw [HE]
          clear HE hc hs
          obtain ⟨W1, hW1, sz1, g1, B1⟩ := boxn w #[.int .u8 3, .int .i64 0, .int .i64 y, .int .u8 2, .int .i64 z] 23
          have b0 := B1.cell 0 (v := .int .u8 3) rfl; have b1 := B1.cell 1 (v := .int .i64 0) rfl; have b2 := B1.cell 2 (v := .int .i64 y) rfl; have b3 := B1.cell 3 (v := .int .u8 2) rfl; have b4 := B1.cell 4 (v := .int .i64 z) rfl
          have hb1 := B1.lt
          have yg : 0 ≤ y := by omega
          have yh : y ≤ 65536 := by omega
          have y0 : (y == 0) = false := by simp; omega
          have nw : IntKind.i64.wrap (-y) = -y := by rw [IntKind.wrap_i64]; omega
          go_enter Tryz.func43, Tryz.ntmps43
          go_wp2
          go_ret
          exact ⟨rfl, g1⟩
      case neg =>
        have hs : Tp.sd 0 y 2 = y := by simp [Tp.sd]
        have hc : Tp.chk 3 0 y 2 z ≠ 0 := by unfold Tp.chk; rw [hs]; (repeat' split) <;> omega
        have HE : toE 3 0 y 2 z = 9 := toE9 hc
        rw [HE]
        clear HE hc hs
        obtain ⟨W1, hW1, sz1, g1, B1⟩ := boxn w #[.int .u8 3, .int .i64 0, .int .i64 y, .int .u8 2, .int .i64 z] 23
        have b0 := B1.cell 0 (v := .int .u8 3) rfl; have b1 := B1.cell 1 (v := .int .i64 0) rfl; have b2 := B1.cell 2 (v := .int .i64 y) rfl; have b3 := B1.cell 3 (v := .int .u8 2) rfl; have b4 := B1.cell 4 (v := .int .i64 z) rfl
        have hb1 := B1.lt
        have yg : 0 ≤ y := by omega
        have yh : y ≤ 65536 := by omega
        have y0 : (y == 0) = false := by simp; omega
        have nw : IntKind.i64.wrap (-y) = -y := by rw [IntKind.wrap_i64]; omega
        go_enter Tryz.func43, Tryz.ntmps43
        go_wp2
        go_ret
        exact ⟨rfl, g1⟩
  case neg =>
    by_cases eyh : y = 0
    case pos =>
      subst eyh
      by_cases slh : z < 0
      case pos =>
        have hs : Tp.sd x 0 2 = 0 := by simp [Tp.sd]
        have hc : Tp.chk 3 x 0 2 z ≠ 0 := by unfold Tp.chk; rw [hs]; (repeat' split) <;> omega
        have HE : toE 3 x 0 2 z = 9 := toE9 hc
        rw [HE]
        clear HE hc hs
        obtain ⟨W1, hW1, sz1, g1, B1⟩ := boxn w #[.int .u8 3, .int .i64 x, .int .i64 0, .int .u8 2, .int .i64 z] 23
        have b0 := B1.cell 0 (v := .int .u8 3) rfl; have b1 := B1.cell 1 (v := .int .i64 x) rfl; have b2 := B1.cell 2 (v := .int .i64 0) rfl; have b3 := B1.cell 3 (v := .int .u8 2) rfl; have b4 := B1.cell 4 (v := .int .i64 z) rfl
        have hb1 := B1.lt
        have xg : 0 ≤ x := by omega
        have xh : x ≤ 65536 := by omega
        have x0 : (x == 0) = false := by simp; omega
        have sgh : ¬ (0 : Int) < z := by omega
        go_enter Tryz.func43, Tryz.ntmps43
        go_wp2
        go_ret
        exact ⟨rfl, g1⟩
      case neg =>
        have hs : Tp.sd x 0 2 = 0 := by simp [Tp.sd]
        have hc : Tp.chk 3 x 0 2 z ≠ 0 := by unfold Tp.chk; rw [hs]; (repeat' split) <;> omega
        have HE : toE 3 x 0 2 z = 9 := toE9 hc
        rw [HE]
        clear HE hc hs
        obtain ⟨W1, hW1, sz1, g1, B1⟩ := boxn w #[.int .u8 3, .int .i64 x, .int .i64 0, .int .u8 2, .int .i64 z] 23
        have b0 := B1.cell 0 (v := .int .u8 3) rfl; have b1 := B1.cell 1 (v := .int .i64 x) rfl; have b2 := B1.cell 2 (v := .int .i64 0) rfl; have b3 := B1.cell 3 (v := .int .u8 2) rfl; have b4 := B1.cell 4 (v := .int .i64 z) rfl
        have hb1 := B1.lt
        have xg : 0 ≤ x := by omega
        have xh : x ≤ 65536 := by omega
        have x0 : (x == 0) = false := by simp; omega
        go_enter Tryz.func43, Tryz.ntmps43
        go_wp2
        go_ret
        exact ⟨rfl, g1⟩
    case neg =>
      by_cases slh : z < y
      case pos =>
        by_cases sgh : -y < z
        case pos =>
          have hs : Tp.sd x y 2 = y := by simp [Tp.sd]
          have hc : Tp.chk 3 x y 2 z = 0 := by unfold Tp.chk; rw [hs]; (repeat' split) <;> omega
          have HE : toE 3 x y 2 z = 40 := toE40 hc (by decide)
          rw [HE]
          clear HE hc hs
          obtain ⟨W1, hW1, sz1, g1, B1⟩ := boxn w #[.int .u8 3, .int .i64 x, .int .i64 y, .int .u8 2, .int .i64 z] 23
          have b0 := B1.cell 0 (v := .int .u8 3) rfl; have b1 := B1.cell 1 (v := .int .i64 x) rfl; have b2 := B1.cell 2 (v := .int .i64 y) rfl; have b3 := B1.cell 3 (v := .int .u8 2) rfl; have b4 := B1.cell 4 (v := .int .i64 z) rfl
          have hb1 := B1.lt
          have xg : 0 ≤ x := by omega
          have xh : x ≤ 65536 := by omega
          have x0 : (x == 0) = false := by simp; omega
          have yg : 0 ≤ y := by omega
          have yh : y ≤ 65536 := by omega
          have y0 : (y == 0) = false := by simp; omega
          have nw : IntKind.i64.wrap (-y) = -y := by rw [IntKind.wrap_i64]; omega
          go_enter Tryz.func43, Tryz.ntmps43
          go_wp2
          go_ret
          exact ⟨rfl, g1⟩
        case neg =>
          have hs : Tp.sd x y 2 = y := by simp [Tp.sd]
          have hc : Tp.chk 3 x y 2 z ≠ 0 := by unfold Tp.chk; rw [hs]; (repeat' split) <;> omega
          have HE : toE 3 x y 2 z = 9 := toE9 hc
          rw [HE]
          clear HE hc hs
          obtain ⟨W1, hW1, sz1, g1, B1⟩ := boxn w #[.int .u8 3, .int .i64 x, .int .i64 y, .int .u8 2, .int .i64 z] 23
          have b0 := B1.cell 0 (v := .int .u8 3) rfl; have b1 := B1.cell 1 (v := .int .i64 x) rfl; have b2 := B1.cell 2 (v := .int .i64 y) rfl; have b3 := B1.cell 3 (v := .int .u8 2) rfl; have b4 := B1.cell 4 (v := .int .i64 z) rfl
          have hb1 := B1.lt
          have xg : 0 ≤ x := by omega
          have xh : x ≤ 65536 := by omega
          have x0 : (x == 0) = false := by simp; omega
          have yg : 0 ≤ y := by omega
          have yh : y ≤ 65536 := by omega
          have y0 : (y == 0) = false := by simp; omega
          have nw : IntKind.i64.wrap (-y) = -y := by rw [IntKind.wrap_i64]; omega
          go_enter Tryz.func43, Tryz.ntmps43
          go_wp2
          go_ret
          exact ⟨rfl, g1⟩
      case neg =>
        have hs : Tp.sd x y 2 = y := by simp [Tp.sd]
        have hc : Tp.chk 3 x y 2 z ≠ 0 := by unfold Tp.chk; rw [hs]; (repeat' split) <;> omega
        have HE : toE 3 x y 2 z = 9 := toE9 hc
        rw [HE]
        clear HE hc hs
        obtain ⟨W1, hW1, sz1, g1, B1⟩ := boxn w #[.int .u8 3, .int .i64 x, .int .i64 y, .int .u8 2, .int .i64 z] 23
        have b0 := B1.cell 0 (v := .int .u8 3) rfl; have b1 := B1.cell 1 (v := .int .i64 x) rfl; have b2 := B1.cell 2 (v := .int .i64 y) rfl; have b3 := B1.cell 3 (v := .int .u8 2) rfl; have b4 := B1.cell 4 (v := .int .i64 z) rfl
        have hb1 := B1.lt
        have xg : 0 ≤ x := by omega
        have xh : x ≤ 65536 := by omega
        have x0 : (x == 0) = false := by simp; omega
        have yg : 0 ≤ y := by omega
        have yh : y ≤ 65536 := by omega
        have y0 : (y == 0) = false := by simp; omega
        have nw : IntKind.i64.wrap (-y) = -y := by rw [IntKind.wrap_i64]; omega
        go_enter Tryz.func43, Tryz.ntmps43
        go_wp2
        go_ret
        exact ⟨rfl, g1⟩
end Ln
end Go.Proofs.YtbmpiddjakdebaaGreat
