/- The answerer: fair and holding answers counted, questions that tell. -/
import Derived.Test.YtdkffkgoalgjmabL8O
import Derived.Test.YtdkffkgoalgjmabL8F
namespace Go.Proofs.Ytdkffkgoalgjmab
open Go.RowKit Go.ChangeShapes Go.WideShapes Go.Maps
set_option linter.unusedVariables false

end Go.Proofs.Ytdkffkgoalgjmab
