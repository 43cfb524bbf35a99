/- The document's Check. -/
import Derived.Test.YteaionmjbkildabDoorQ30
namespace Go.Proofs.YteaionmjbkildabDoor
open Go.RowKit
set_option linter.unusedVariables false
set_option linter.unusedSimpArgs false
set_option maxRecDepth 100000

theorem rcEarly (S I R : Int) (sp : Option Addr) (n c : Nat) (h : ¬ (maB S I = true ∧ n ≤ 65536 ∧ 0 ≤ R ∧ R < (n : Int))) (w : World) : Calls Tryd.prog 35 #[.agg #[.int .i64 S, .int .i64 I, .slice sp n c, .int .i64 R]] w fun e w' => e = .returned (.int .i64 110) ∧ w.grownBy w' none := by
  obtain ⟨W1, hW1, sz1, g1, B1⟩ := boxn w #[.int .i64 S, .int .i64 I, .slice sp n c, .int .i64 R] 24
  have t0 := B1.cell 0 (v := .int .i64 S) rfl
  have t1 := B1.cell 1 (v := .int .i64 I) rfl
  have t2 := B1.cell 2 (v := .slice sp n c) rfl
  have t3 := B1.cell 3 (v := .int .i64 R) rfl
  by_cases a0 : S < 1
  · go_enter Tryd.func35, Tryd.ntmps35
    go_wp2
    go_ret
    exact ⟨rfl, g1⟩
  by_cases a1 : 256 < S
  · go_enter Tryd.func35, Tryd.ntmps35
    go_wp2
    go_ret
    exact ⟨rfl, g1⟩
  by_cases a2 : I < 0
  · go_enter Tryd.func35, Tryd.ntmps35
    go_wp2
    go_ret
    exact ⟨rfl, g1⟩
  by_cases a3 : 16 < I
  · go_enter Tryd.func35, Tryd.ntmps35
    go_wp2
    go_ret
    exact ⟨rfl, g1⟩
  by_cases a4 : (n : Int) < 1
  · go_enter Tryd.func35, Tryd.ntmps35
    go_wp2
    go_ret
    exact ⟨rfl, g1⟩
  by_cases a5 : (65536 : Int) < (n : Int)
  · go_enter Tryd.func35, Tryd.ntmps35
    go_wp2
    go_ret
    exact ⟨rfl, g1⟩
  by_cases a6 : R < 0
  · go_enter Tryd.func35, Tryd.ntmps35
    go_wp2
    go_ret
    exact ⟨rfl, g1⟩
  by_cases a7 : (n : Int) ≤ R
  · go_enter Tryd.func35, Tryd.ntmps35
    go_wp2
    go_ret
    exact ⟨rfl, g1⟩
  exact absurd ⟨by unfold maB; simp; omega, by omega, by omega, by omega⟩ h

end Go.Proofs.YteaionmjbkildabDoor
