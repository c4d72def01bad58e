/- l4SplitNeed. -/
import Derived.Test.YtdkffkgoalgjmacWithin
namespace Go.Proofs.Ytdkffkgoalgjmac
open Go.RowKit Go.ChangeShapes Go.WideShapes
set_option linter.unusedVariables false

/-- The need of a split, -1 if it leads back. -/
def snR (r s : Row) : Int := if backR r s = true then -1 else ((valR r s : Nat) : Int)
theorem found_all {r : Row} (h8 : rsum r ≤ 8) : foundAt 10 (keyR r) = ((needR r : Nat) : Int) := by
  rw [found_key h8, if_pos (by have := need_le h8; omega)]
end Go.Proofs.Ytdkffkgoalgjmac
