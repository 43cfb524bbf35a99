/- What Same of package fold answers, by ways. -/
import Derived.Test.YtjndljjpbkfmiaaGreatDoorF2y
import Derived.Test.YtjndljjpbkfmiaaGreatDoorF5
import Derived.Test.YtjndljjpbkfmiaaGreatDoorF6
namespace Go.Proofs.YtjndljjpbkfmiaaGreatDoor.Fd
open Go.RowKit
set_option linter.unusedVariables false
set_option linter.unusedSimpArgs false
set_option maxRecDepth 100000

end Go.Proofs.YtjndljjpbkfmiaaGreatDoor.Fd
