/- FewestFalse: both functions; marks in a slice of answers. -/
import Derived.Test.YtdkffkgoalgjmacFewI
namespace Go.Proofs.Ytdkffkgoalgjmac
open Go.RowKit Go.ChangeShapes Go.WideShapes Go.Maps
set_option linter.unusedVariables false

theorem few_ans {w w' : World} {v : Value} {a : Int} {zs : List Int} {b : Bool} {e : Ending} (he : e = .returned (.tuple #[.int .i64 a, v, .bool b])) (ho : w'.ownsRow w.heap.size 3 1 v zs.length (zs.map (Value.int .i64))) (hb : Below w.heap.size w w') :
    ∃ B c', e = .returned (.tuple #[.int .i64 a, .slice B zs.length c', .bool b]) ∧ Res w' w.heap.size w'.heap.size B zs ∧ Below w.heap.size w w' := by
  obtain ⟨A, c, rfl, _, hr⟩ := own_res ho rfl
  exact ⟨A, c, he, hr, hb⟩
end Go.Proofs.Ytdkffkgoalgjmac
