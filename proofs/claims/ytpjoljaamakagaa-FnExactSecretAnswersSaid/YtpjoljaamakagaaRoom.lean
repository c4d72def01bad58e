/- StateWeight, NumberWeight, RoomOf, BoundOf, MostByWeight: both sides. -/
import Derived.Test.YtpjoljaamakagaaWeigh
import Derived.Test.YtpjoljaamakagaaTold
namespace Go.Proofs.Ytpjoljaamakagaa
open Go.RowKit Go.ChangeShapes Go.WideShapes
set_option linter.unusedVariables false

/-- A valid State and questions ahead, as numbers. -/
theorem wOK_nats {zs : List Int} {m q : Int} (h : wOK zs m q = true) : ∃ M k : Nat, m = (M : Int) ∧ q = (k : Int) ∧ k ≤ 30 ∧ isSt zs (M : Int) = true := by
  obtain ⟨h1, h2, h3⟩ := wOK_iff.1 h
  have hl := isSt_len h1
  refine ⟨m.toNat, q.toNat, by omega, by omega, by omega, ?_⟩
  rw [show ((m.toNat : Nat) : Int) = m by omega]
  exact h1
end Go.Proofs.Ytpjoljaamakagaa
