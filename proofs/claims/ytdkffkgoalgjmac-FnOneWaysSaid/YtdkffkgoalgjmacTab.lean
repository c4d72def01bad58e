/- The weights of numbers with so many false answers: the table of both sides. -/
import Derived.Test.YtdkffkgoalgjmacBall
import Derived.Test.YtdkffkgoalgjmacCounts
import Derived.Test.YtdkffkgoalgjmacUpd
import Derived.Test.YtdkffkgoalgjmacNums
namespace Go.Proofs.Ytdkffkgoalgjmac
open Go.RowKit Go.ChangeShapes Go.WideShapes
set_option linter.unusedVariables false

/-- The weight of a number with a false answers, of M at most, with q questions ahead. -/
def wOf (M q : Nat) (a : Nat) : Int := (ball q (min (M - a) q) : Int)
def tabs (M q : Nat) : List Int := (List.range (M + 1)).map (wOf M q)
theorem tabs_len (M q : Nat) : (tabs M q).length = M + 1 := by simp [tabs]
theorem wOf_bd (M q a : Nat) (hq : q ≤ 30) : 1 ≤ wOf M q a ∧ wOf M q a ≤ 1073741824 := by
  have h1 := ball_bd q (min (M - a) q) hq (by omega)
  have h2 := ball_pos q (min (M - a) q) hq (by omega)
  unfold wOf
  omega
theorem tabs_at {M q a : Nat} (h : a < M + 1) : (tabs M q)[a]? = some (wOf M q a) := by
  simp [tabs, h]

/-- The first k weights of the table. -/
def tabTo (M q k : Nat) : List Int := (List.range k).map (wOf M q)
theorem tabTo_succ (M q k : Nat) : tabTo M q (k + 1) = tabTo M q k ++ [wOf M q k] := by simp [tabTo, List.range_succ]
theorem tabTo_len (M q k : Nat) : (tabTo M q k).length = k := by simp [tabTo]

theorem row_res {w : World} {l : List Int} {lo g : Nat} (h : lo ≤ g) (hr : w.heap[g]? = some (.cells (l.map (Value.int .i64)).toArray 3 (0, 0))) : Res w lo w.heap.size (some ⟨g, 0, none⟩) l :=
  ⟨.inr ⟨g, _, rfl, h, row_ltI hr, hr, by simp, fun j x hx => by simp [hx]⟩, Nat.le_refl _⟩
end Go.Proofs.Ytdkffkgoalgjmac
