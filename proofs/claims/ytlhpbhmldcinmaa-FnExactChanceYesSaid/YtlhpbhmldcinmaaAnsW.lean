/- AnswerWeights: both sides. -/
import Derived.Test.YtlhpbhmldcinmaaAnsS
namespace Go.Proofs.Ytlhpbhmldcinmaa
open Go.RowKit Go.ChangeShapes Go.WideShapes
set_option linter.unusedVariables false

/-- Whether a State and questions ahead, one at least, are valid. -/
def asks (zs : List Int) (m q : Int) : Bool := isSt zs m && inB q 1 30
theorem asks_iff {zs : List Int} {m q : Int} : asks zs m q = true ↔ isSt zs m = true ∧ 1 ≤ q ∧ q ≤ 30 := by simp [asks, inB]
theorem asks_w {zs : List Int} {m q : Int} : asks zs m q = (wOK zs m q && decide (0 < q)) := by
  rw [Bool.eq_iff_iff, asks_iff, Bool.and_eq_true, wOK_iff, decide_eq_true_iff]
  constructor
  · rintro ⟨a, b, c⟩; exact ⟨⟨a, by omega, c⟩, by omega⟩
  · rintro ⟨⟨a, b, c⟩, d⟩; exact ⟨a, by omega, c⟩
/-- A valid State with questions ahead, as numbers. -/
theorem asks_nats {zs : List Int} {m q : Int} (h : asks zs m q = true) : ∃ M k : Nat, m = (M : Int) ∧ q = (k : Int) + 1 ∧ k ≤ 29 ∧ isSt zs (M : Int) = true := by
  obtain ⟨h1, h2, h3⟩ := asks_iff.1 h
  have hl := isSt_len h1
  refine ⟨m.toNat, (q - 1).toNat, by omega, by omega, by omega, ?_⟩
  rw [show ((m.toNat : Nat) : Int) = m by omega]
  exact h1

end Go.Proofs.Ytlhpbhmldcinmaa
