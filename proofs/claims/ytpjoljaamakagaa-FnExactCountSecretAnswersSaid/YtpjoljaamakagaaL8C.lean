/- The answerer: fair and holding answers counted, questions that tell. -/
import Derived.Test.YtpjoljaamakagaaL8O
import Derived.Test.YtpjoljaamakagaaL8F
namespace Go.Proofs.Ytpjoljaamakagaa
open Go.RowKit Go.ChangeShapes Go.WideShapes Go.Maps
set_option linter.unusedVariables false

end Go.Proofs.Ytpjoljaamakagaa
