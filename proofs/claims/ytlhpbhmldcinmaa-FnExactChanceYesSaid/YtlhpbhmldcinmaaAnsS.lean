/- Both weights behind the answers to a question: the specification's. -/
import Derived.Test.YtlhpbhmldcinmaaWeigher
namespace Go.Proofs.Ytlhpbhmldcinmaa
open Go.RowKit Go.ChangeShapes Go.WideShapes
set_option linter.unusedVariables false

end Go.Proofs.Ytlhpbhmldcinmaa
