/- The law FnExactPlayTree: its walk over the two functions' contracts. -/
import Derived.Test.YtnomgnjfamideaaL9P
import Derived.Test.YtnomgnjfamideaaL9M
import Derived.Test.YtnomgnjfamideaaOpenT
import Derived.Deep.RegionHeld3
namespace Go.Proofs.Ytnomgnjfamideaa
open Go.RowKit
set_option linter.unusedVariables false

end Go.Proofs.Ytnomgnjfamideaa
