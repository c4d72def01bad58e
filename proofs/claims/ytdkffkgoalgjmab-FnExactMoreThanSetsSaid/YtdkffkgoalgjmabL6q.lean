/- LessQuestion: both. -/
import Derived.Test.YtdkffkgoalgjmabL6a
namespace Go.Proofs.Ytdkffkgoalgjmab
open Go.RowKit Go.ChangeShapes Go.WideShapes
set_option linter.unusedVariables false

end Go.Proofs.Ytdkffkgoalgjmab
