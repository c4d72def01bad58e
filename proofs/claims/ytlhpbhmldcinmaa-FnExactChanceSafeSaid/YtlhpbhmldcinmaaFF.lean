/- FalseFor: both functions' contracts. -/
import Derived.Test.YtlhpbhmldcinmaaFalse
namespace Go.Proofs.Ytlhpbhmldcinmaa
open Go.RowKit Go.ChangeShapes Go.WideShapes Go.Maps
set_option linter.unusedVariables false

end Go.Proofs.Ytlhpbhmldcinmaa
