/- Arguments opened: slices of answers. -/
import Derived.Test.YtnomgnjfamideabAsks
import Derived.Test.YtnomgnjfamideabOpen
namespace Go.Proofs.Ytnomgnjfamideab
open Go.RowKit Go.ChangeShapes Go.WideShapes Go.ChangeAt Go.Deep
set_option linter.unusedVariables false

end Go.Proofs.Ytnomgnjfamideab
