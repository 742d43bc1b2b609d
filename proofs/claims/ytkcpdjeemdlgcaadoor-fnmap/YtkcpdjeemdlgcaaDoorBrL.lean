/- What the laws do with branches: sz, to, eq. -/
import Derived.Test.YtkcpdjeemdlgcaaDoorBr
import Derived.Deep.RegionHeld3
namespace Go.Proofs.YtkcpdjeemdlgcaaDoor.Sha
open Go.ChangeShapes Go.WideShapes Go.ChangeAt Go.RowKit
set_option linter.unusedVariables false

end Go.Proofs.YtkcpdjeemdlgcaaDoor.Sha
