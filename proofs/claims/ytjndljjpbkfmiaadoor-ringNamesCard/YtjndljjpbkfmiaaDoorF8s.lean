/- What Same of package fold answers, by ways. -/
import Derived.Test.YtjndljjpbkfmiaaDoorF2y
import Derived.Test.YtjndljjpbkfmiaaDoorF5
import Derived.Test.YtjndljjpbkfmiaaDoorF6
namespace Go.Proofs.YtjndljjpbkfmiaaDoor.Fd
open Go.RowKit
set_option linter.unusedVariables false
set_option linter.unusedSimpArgs false
set_option maxRecDepth 100000

end Go.Proofs.YtjndljjpbkfmiaaDoor.Fd
