/- FalseFor: both functions' contracts. -/
import Derived.Test.YtdkffkgoalgjmacFalse
namespace Go.Proofs.Ytdkffkgoalgjmac
open Go.RowKit Go.ChangeShapes Go.WideShapes Go.Maps
set_option linter.unusedVariables false

end Go.Proofs.Ytdkffkgoalgjmac
