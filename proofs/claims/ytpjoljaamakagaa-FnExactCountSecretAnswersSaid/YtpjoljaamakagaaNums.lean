/- The numbers of a question. -/
import Derived.Test.YtpjoljaamakagaaOpenN
namespace Go.Proofs.Ytpjoljaamakagaa
open Go.RowKit Go.ChangeShapes Go.WideShapes
set_option linter.unusedVariables false

/-- The numbers of a question of n. -/
def numsOf (q : Int) (n : Nat) : List Int := filt (fun k => inQ q k) n

theorem own_ans0 {w w' : World} {v : Value} {zs : List Int} {b : Bool} {e : Ending} (he : e = .returned (.tuple #[v, .bool b])) (ho : w'.ownsRow w.heap.size 3 1 v zs.length (zs.map (Value.int .i64))) (hb : Below w.heap.size w w') :
    ∃ B c', e = .returned (.tuple #[.slice B zs.length c', .bool b]) ∧ Res w' w.heap.size w'.heap.size B zs ∧ Below w.heap.size w w' := by
  obtain ⟨A, c, rfl, _, hr⟩ := own_res ho rfl
  exact ⟨A, c, he, hr, hb⟩
end Go.Proofs.Ytpjoljaamakagaa
