/- LessQuestion: both. -/
import Derived.Test.YtnomgnjfamideabL6a
namespace Go.Proofs.Ytnomgnjfamideab
open Go.RowKit Go.ChangeShapes Go.WideShapes
set_option linter.unusedVariables false

end Go.Proofs.Ytnomgnjfamideab
