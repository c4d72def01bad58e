/- Questions: which ones are valid, what is in them. -/
import Derived.Test.YtpjoljaamakagabDoorState
namespace Go.Proofs.YtpjoljaamakagabDoor
open Go.RowKit Go.ChangeShapes Go.WideShapes
set_option linter.unusedVariables false

theorem pow_le (k : Nat) (h : k ≤ 12) : (1 : Int) ≤ 2 ^ k ∧ (2 : Int) ^ k ≤ 4096 := by
  have : ∀ k, k ≤ 12 → ((1 : Int) ≤ 2 ^ k ∧ (2 : Int) ^ k ≤ 4096) := by decide
  exact this k h
theorem wrap_pow (k : Nat) (h : k ≤ 12) : wrap64 ((2 : Int) ^ k) = 2 ^ k := by
  have : ∀ k, k ≤ 12 → wrap64 ((2 : Int) ^ k) = 2 ^ k := by decide +kernel
  exact this k h
/-- Which questions there are of n numbers. -/
def qOK (n q : Int) : Bool := inB n 1 12 && inB q 0 (2 ^ n.toNat - 1)
theorem qOK_n {n q : Int} (h : inB n 1 12 = false) : qOK n q = false := by simp [qOK, h]
theorem qOK_iff {n q : Int} : qOK n q = true ↔ (1 ≤ n ∧ n ≤ 12) ∧ 0 ≤ q ∧ q < 2 ^ n.toNat := by simp [qOK, inB]; omega
/-- Whether k is in a question. -/
def inQ (q : Int) (k : Nat) : Bool := bits .and .i64 (q / 2 ^ k) 1 == 1

end Go.Proofs.YtpjoljaamakagabDoor
