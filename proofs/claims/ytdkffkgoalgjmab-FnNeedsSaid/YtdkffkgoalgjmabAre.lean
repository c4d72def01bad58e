/- AreCounts: both. -/
import Derived.Test.YtdkffkgoalgjmabCnt4
import Derived.Test.YtdkffkgoalgjmabStates
namespace Go.Proofs.Ytdkffkgoalgjmab
open Go.RowKit Go.ChangeShapes Go.WideShapes
set_option linter.unusedVariables false
end Go.Proofs.Ytdkffkgoalgjmab
