/- The function that tells both weights of each question: made, and called. -/
import Derived.Test.YtlhpbhmldcinmaaBehind
import Derived.Deep.RegionHeld3
namespace Go.Proofs.Ytlhpbhmldcinmaa
open Go.RowKit Go.ChangeShapes Go.WideShapes
set_option linter.unusedVariables false

end Go.Proofs.Ytlhpbhmldcinmaa
