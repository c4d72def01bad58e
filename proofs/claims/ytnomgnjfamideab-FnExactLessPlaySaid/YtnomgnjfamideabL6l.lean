/- LessNeed, BestLess, NeedOfLess: both. -/
import Derived.Test.YtnomgnjfamideabL6k
namespace Go.Proofs.Ytnomgnjfamideab
open Go.RowKit Go.ChangeShapes Go.WideShapes Go.Maps
set_option linter.unusedVariables false

end Go.Proofs.Ytnomgnjfamideab
