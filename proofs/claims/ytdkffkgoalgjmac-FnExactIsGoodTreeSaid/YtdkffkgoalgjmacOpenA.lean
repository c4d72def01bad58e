/- Arguments opened: slices of answers. -/
import Derived.Test.YtdkffkgoalgjmacAsks
import Derived.Test.YtdkffkgoalgjmacOpen
namespace Go.Proofs.Ytdkffkgoalgjmac
open Go.RowKit Go.ChangeShapes Go.WideShapes Go.ChangeAt Go.Deep
set_option linter.unusedVariables false

end Go.Proofs.Ytdkffkgoalgjmac
