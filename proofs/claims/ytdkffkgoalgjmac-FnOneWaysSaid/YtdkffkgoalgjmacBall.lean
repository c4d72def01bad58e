/- The ways to choose at most so many answers: both loops; WaysOf, BallOf and MostByWeight of both sides. -/
import Derived.Test.YtdkffkgoalgjmacWays
namespace Go.Proofs.Ytdkffkgoalgjmac
open Go.RowKit Go.ChangeShapes Go.WideShapes
set_option linter.unusedVariables false

theorem ball_at {q k j : Nat} (hj : j ≤ min k q + 1) (h : ¬ (j ≤ k ∧ j ≤ q)) : ballTo q j = ball q (min k q) := by
  have : j = min k q + 1 := by omega
  rw [this]; rfl
end Go.Proofs.Ytdkffkgoalgjmac
