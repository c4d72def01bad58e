/- FalseFor: both functions' contracts. -/
import Derived.Test.YtdkffkgoalgjmaaFalse
namespace Go.Proofs.Ytdkffkgoalgjmaa
open Go.RowKit Go.ChangeShapes Go.WideShapes Go.Maps
set_option linter.unusedVariables false

end Go.Proofs.Ytdkffkgoalgjmaa
