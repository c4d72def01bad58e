/- How many ways there are to choose answers: the numbers, and both loops. -/
import Derived.Test.YtdkffkgoalgjmacQuest
namespace Go.Proofs.Ytdkffkgoalgjmac
open Go.RowKit Go.ChangeShapes Go.WideShapes
set_option linter.unusedVariables false

def ways (q : Nat) : Nat → Nat
  | 0 => 1
  | k + 1 => ways q k * (q - k) / (k + 1)
def ballTo (q : Nat) : Nat → Nat
  | 0 => 0
  | k + 1 => ballTo q k + ways q k
/-- The ways in which at most k of q answers can be chosen. -/
def ball (q k : Nat) : Nat := ballTo q (k + 1)
theorem ways_bd (q k : Nat) (hq : q ≤ 30) (hk : k ≤ q) : ways q k * (q - k) ≤ 1099511627776 ∧ ways q k ≤ 1073741824 ∧ ballTo q k ≤ 1073741824 ∧ ballTo q (k + 1) ≤ 1073741824 := by
  have : ∀ q, q ≤ 30 → ∀ k, k ≤ q → (ways q k * (q - k) ≤ 1099511627776 ∧ ways q k ≤ 1073741824 ∧ ballTo q k ≤ 1073741824 ∧ ballTo q (k + 1) ≤ 1073741824) := by decide +kernel
  exact this q hq k hk
theorem ways_prod (q k : Nat) (hk : k ≤ q) : (ways q k : Int) * ((q : Int) - (k : Int)) = ((ways q k * (q - k) : Nat) : Int) := by
  rw [show ((q : Int) - (k : Int)) = ((q - k : Nat) : Int) by omega]
  norm_cast
theorem ways_step (q k : Nat) (hk : k ≤ q) : (ways q k : Int) * ((q : Int) - (k : Int)) / ((k : Int) + 1) = ((ways q (k + 1) : Nat) : Int) := by
  rw [ways_prod q k hk, ways]
  norm_cast
theorem ball_bd (q k : Nat) (hq : q ≤ 30) (hk : k ≤ q) : ball q k ≤ 1073741824 := (ways_bd q k hq hk).2.2.2
theorem ball_pos (q k : Nat) (hq : q ≤ 30) (hk : k ≤ q) : 1 ≤ ball q k := by
  have : ∀ q, q ≤ 30 → ∀ k, k ≤ q → 1 ≤ ball q k := by decide +kernel
  exact this q hq k hk
/-- Whether k is a number of q answers. -/
def part (q k : Int) : Bool := inB q 0 30 && inB k 0 q
theorem part_iff {q k : Int} : part q k = true ↔ (0 ≤ q ∧ q ≤ 30) ∧ 0 ≤ k ∧ k ≤ q := by simp [part, inB]

end Go.Proofs.Ytdkffkgoalgjmac
