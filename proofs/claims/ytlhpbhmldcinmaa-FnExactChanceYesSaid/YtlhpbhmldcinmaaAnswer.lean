/- AnswerState: both functions' contracts. -/
import Derived.Test.YtlhpbhmldcinmaaAfter2
namespace Go.Proofs.Ytlhpbhmldcinmaa
open Go.RowKit Go.ChangeShapes Go.WideShapes
set_option linter.unusedVariables false

set_option maxHeartbeats 1000000 in
theorem toAsked_any (q : Int) (y : Bool) (w : World) :
    Calls Try.prog 66 #[.agg #[.int .i64 q, .bool y]] w fun e w' => e = .returned (.agg #[.int .i64 q, .bool y]) ∧ Below w.heap.size w w' := by
  go_enter Try.func66, Try.ntmps66
  go_wp2
  refine bodyPost_ret (v := .agg #[.int .i64 q, .bool y]) (by simp [results, go_sem]) rfl ?_
  exact ⟨rfl, (((Below.refl _ _).alloc (Nat.le_refl _) _).alloc (by simp) _).alloc (by simp; omega) _⟩
end Go.Proofs.Ytlhpbhmldcinmaa
