/- The statements' alike of trees whose roots differ. -/
import Derived.Test.YteaionmjbkildacDoorQs
namespace Go.Proofs.YteaionmjbkildacDoor
open Go.RowKit
set_option linter.unusedVariables false
set_option linter.unusedSimpArgs false
set_option maxRecDepth 100000

theorem alikeX (S I R Q : Int) (h : R ≠ Q) (n m ca cb : Nat) (spa spb : Option Addr) (w : World) :
    Calls Tryd.prog 7 #[.agg #[.int .i64 S, .int .i64 I, .slice spa n ca, .int .i64 R], .agg #[.int .i64 S, .int .i64 I, .slice spb m cb, .int .i64 Q]] w fun e w' => e = .returned (.bool false) ∧ w.grownBy w' none := by
  obtain ⟨W1, hW1, sz1, g1, B1⟩ := boxn w #[.int .i64 S, .int .i64 I, .slice spa n ca, .int .i64 R] 24
  obtain ⟨W2, hW2, sz2, g2, B2⟩ := boxn W1 #[.int .i64 S, .int .i64 I, .slice spb m cb, .int .i64 Q] 24
  have G2 := gb_trans g1 g2
  have B12 := B1.kept g2 (by simp)
  have a0 := B12.cell 0 (v := .int .i64 S) rfl
  have a1 := B12.cell 1 (v := .int .i64 I) rfl
  have a2 := B12.cell 2 (v := .slice spa n ca) rfl
  have a3 := B12.cell 3 (v := .int .i64 R) rfl
  have b0 := B2.cell 0 (v := .int .i64 S) rfl
  have b1 := B2.cell 1 (v := .int .i64 I) rfl
  have b2 := B2.cell 2 (v := .slice spb m cb) rfl
  have b3 := B2.cell 3 (v := .int .i64 Q) rfl
  have e1 : (S != S) = false := by simp
  have e2 : (I != I) = false := by simp
  have e3 : (R != Q) = true := by simp [h]
  have HG : Hid (w.grownBy W2 none) := G2
  clear B1 B2 B12 g1 g2 G2 sz1 sz2
  go_enter Tryd.func7, Tryd.ntmps7
  go_wp2
  go_ret
  exact ⟨rfl, HG.out⟩
end Go.Proofs.YteaionmjbkildacDoor
