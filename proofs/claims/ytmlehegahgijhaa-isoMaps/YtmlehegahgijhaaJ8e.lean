/- The way back, with what comes out named. -/
import Derived.Test.YtmlehegahgijhaaJ6
namespace Go.Proofs.Ytmlehegahgijhaa
open Go.RowKit
open Fl
set_option linter.unusedVariables false
set_option linter.unusedSimpArgs false
set_option maxRecDepth 100000

theorem backE (a b : Nat) (f : Bool) (c d : Nat) {k : Nat} {x y : Int} (h : May a b f c d k x y) (X Y : Int) (hX : Hid (-(lx (back k) x y) = X)) (hY : Hid (-(ly (back k) x y) = Y)) (w : World) :
    Calls Try.prog 21 #[.agg (mv a b f c d)] w fun e w' => ∃ p q r s, e = .returned (.tuple #[.agg (mv p q f r s), .int .i64 0]) ∧ May p q f r s (back k) X Y ∧ Cl p q r s (back k) X Y ∧ w.grownBy w' none := by
  rw [← hX.out, ← hY.out]
  exact backYes a b f c d h w
end Go.Proofs.Ytmlehegahgijhaa
