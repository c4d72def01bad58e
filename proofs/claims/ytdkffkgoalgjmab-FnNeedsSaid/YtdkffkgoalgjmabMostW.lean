/- MostByWeight: both sides. -/
import Derived.Test.YtdkffkgoalgjmabBound
import Derived.Test.YtdkffkgoalgjmabTold
namespace Go.Proofs.Ytdkffkgoalgjmab
open Go.RowKit Go.ChangeShapes Go.WideShapes
set_option linter.unusedVariables false

/-- Whether most of q answers can be false, and no more than can be at all. -/
def mOK (q k : Int) : Bool := part q k && inB k 0 2
theorem mOK_iff {q k : Int} : mOK q k = true ↔ ((0 ≤ q ∧ q ≤ 30) ∧ 0 ≤ k ∧ k ≤ q) ∧ 0 ≤ k ∧ k ≤ 2 := by
  unfold mOK; rw [Bool.and_eq_true, part_iff, inB_iff]
theorem least_part {q k : Int} (hq : inB q 0 30 = true) : inB k 0 (if (2 : Int) ≤ q then 2 else q) = mOK q k := by
  have := inB_iff.1 hq
  rw [Bool.eq_iff_iff, mOK_iff, inB_iff]
  split <;> omega
theorem mOK_noq {q k : Int} (hq : inB q 0 30 = false) : mOK q k = false := by simp [mOK, part, hq]

end Go.Proofs.Ytdkffkgoalgjmab
