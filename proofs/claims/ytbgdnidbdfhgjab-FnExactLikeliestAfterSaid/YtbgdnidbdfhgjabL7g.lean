/- What IsDoubt, ChanceFalse, ChanceWithin, MeanFalse, ChanceMajority answer. -/
import Derived.Test.YtbgdnidbdfhgjabL7f
import Derived.Test.YtbgdnidbdfhgjabOpenD
namespace Go.Proofs.Ytbgdnidbdfhgjab
open Go.RowKit Go.ChangeShapes Go.WideShapes
set_option linter.unusedVariables false

/-- What is valid, in natural numbers. -/
theorem dmk_nats {m k a b : Int} (h : (dOK a b && mkOK m k) = true) : ∃ A B M K : Nat, a = A ∧ b = B ∧ m = M ∧ k = K ∧ B ≤ 10 ∧ 1 ≤ B ∧ A ≤ B ∧ M ≤ 12 ∧ K ≤ M := by
  rw [Bool.and_eq_true, dOK_iff, mkOK_iff] at h
  exact ⟨a.toNat, b.toNat, m.toNat, k.toNat, by omega, by omega, by omega, by omega, by omega, by omega, by omega, by omega, by omega⟩
end Go.Proofs.Ytbgdnidbdfhgjab
