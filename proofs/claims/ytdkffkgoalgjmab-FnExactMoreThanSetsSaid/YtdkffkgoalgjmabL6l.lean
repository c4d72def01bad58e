/- LessNeed, BestLess, NeedOfLess: both. -/
import Derived.Test.YtdkffkgoalgjmabL6k
namespace Go.Proofs.Ytdkffkgoalgjmab
open Go.RowKit Go.ChangeShapes Go.WideShapes Go.Maps
set_option linter.unusedVariables false

end Go.Proofs.Ytdkffkgoalgjmab
