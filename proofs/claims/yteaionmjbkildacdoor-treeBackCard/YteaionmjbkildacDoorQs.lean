/- Two nodes are alike. -/
import Derived.Test.YteaionmjbkildacDoorQ20
namespace Go.Proofs.YteaionmjbkildacDoor
open Go.RowKit
/-- Two nodes are alike. -/
def TnE (x y : TN) : Prop := x.st = y.st ∧ x.kn = y.kn ∧ ∀ i, i < x.kn → x.kf i = y.kf i
end Go.Proofs.YteaionmjbkildacDoor
