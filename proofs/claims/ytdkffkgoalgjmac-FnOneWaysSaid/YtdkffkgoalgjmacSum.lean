/- The weights of numbers and of States: both sides' loops. -/
import Derived.Test.YtdkffkgoalgjmacTab
import Derived.Test.YtdkffkgoalgjmacAfter
namespace Go.Proofs.Ytdkffkgoalgjmac
open Go.RowKit Go.ChangeShapes Go.WideShapes
set_option linter.unusedVariables false

/-- The weight of a number with z false answers (-1: not open), of M at most, with q questions ahead. -/
def numW (q M : Nat) (z : Int) : Nat := if 0 ≤ z then ball q (min (M - z.toNat) q) else 0
theorem numW_no {q M : Nat} {z : Int} (h : ¬ 0 ≤ z) : numW q M z = 0 := if_neg h
theorem numW_at (q M a : Nat) : ((numW q M (a : Int) : Nat) : Int) = wOf M q a := by
  unfold numW wOf
  rw [if_pos (by omega), Int.toNat_natCast]
theorem numW_bd (q M : Nat) (z : Int) (hq : q ≤ 30) : numW q M z ≤ 1073741824 := by
  by_cases h : 0 ≤ z
  · unfold numW; rw [if_pos h]; exact ball_bd _ _ hq (by omega)
  · rw [numW_no h]; omega
/-- The weights of the first k numbers together. -/
def stWTo (q M : Nat) (zs : List Int) : Nat → Nat
  | 0 => 0
  | k + 1 => stWTo q M zs k + numW q M (zs.getD k (-1))
def stW (q M : Nat) (zs : List Int) : Nat := stWTo q M zs zs.length
theorem stWTo_bd (q M : Nat) (zs : List Int) (hq : q ≤ 30) : ∀ k, stWTo q M zs k ≤ k * 1073741824
  | 0 => by simp [stWTo]
  | k + 1 => by
    have h1 := stWTo_bd q M zs hq k
    have h2 := numW_bd q M (zs.getD k (-1)) hq
    rw [stWTo]
    omega
theorem stW_bd {q M : Nat} {zs : List Int} (hq : q ≤ 30) (hn : zs.length ≤ 12) : stW q M zs ≤ 12884901888 := by
  have := stWTo_bd q M zs hq zs.length
  unfold stW
  omega

end Go.Proofs.Ytdkffkgoalgjmac
