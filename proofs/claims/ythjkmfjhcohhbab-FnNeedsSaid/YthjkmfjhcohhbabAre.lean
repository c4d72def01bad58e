/- AreCounts: both. -/
import Derived.Test.YthjkmfjhcohhbabCnt4
import Derived.Test.YthjkmfjhcohhbabStates
namespace Go.Proofs.Ythjkmfjhcohhbab
open Go.RowKit Go.ChangeShapes Go.WideShapes
set_option linter.unusedVariables false
end Go.Proofs.Ythjkmfjhcohhbab
