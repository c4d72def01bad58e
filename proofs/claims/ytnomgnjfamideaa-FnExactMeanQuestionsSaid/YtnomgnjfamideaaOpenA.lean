/- Arguments opened: slices of answers. -/
import Derived.Test.YtnomgnjfamideaaAsks
import Derived.Test.YtnomgnjfamideaaOpen
namespace Go.Proofs.Ytnomgnjfamideaa
open Go.RowKit Go.ChangeShapes Go.WideShapes Go.ChangeAt Go.Deep
set_option linter.unusedVariables false

end Go.Proofs.Ytnomgnjfamideaa
