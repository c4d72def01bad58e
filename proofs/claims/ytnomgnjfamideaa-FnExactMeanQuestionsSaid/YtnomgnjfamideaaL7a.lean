/- Chances: doubts, powers, draws, how many answers there can be. -/
import Derived.Test.YtnomgnjfamideaaL7N
import Derived.Test.YtnomgnjfamideaaAfter
import Derived.Test.YtnomgnjfamideaaCopy
import Derived.Test.YtnomgnjfamideaaTold
import Derived.Laws.StructEq
namespace Go.Proofs.Ytnomgnjfamideaa
open Go.RowKit Go.ChangeShapes Go.WideShapes
set_option linter.unusedVariables false

/-- Whether a doubt is valid. -/
def dOK (a b : Int) : Bool := inB b 1 10 && inB a 0 b
theorem dOK_iff {a b : Int} : dOK a b = true ↔ (1 ≤ b ∧ b ≤ 10) ∧ 0 ≤ a ∧ a ≤ b := by simp [dOK, inB]
theorem dOK_nats {a b : Int} (h : dOK a b = true) : ∃ x y : Nat, a = (x : Int) ∧ b = (y : Int) ∧ 1 ≤ y ∧ y ≤ 10 ∧ x ≤ y := by
  have := dOK_iff.1 h
  exact ⟨a.toNat, b.toNat, by omega, by omega, by omega, by omega, by omega⟩
theorem pow_step (x j : Nat) : ((x ^ j : Nat) : Int) * (x : Int) = ((x ^ (j + 1) : Nat) : Int) := by
  rw [Nat.pow_succ]
  exact (Int.natCast_mul _ _).symm

theorem dr_cast (a b m k : Nat) : ((a ^ k : Nat) : Int) * (((b - a) ^ (m - k) : Nat) : Int) = ((dr a b m k : Nat) : Int) := (Int.natCast_mul _ _).symm
/-- Whether k is a number of m answers, which can be drawn. -/
def mkOK (m k : Int) : Bool := inB m 0 12 && inB k 0 m
theorem mkOK_iff {m k : Int} : mkOK m k = true ↔ (0 ≤ m ∧ m ≤ 12) ∧ 0 ≤ k ∧ k ≤ m := by simp [mkOK, inB]
end Go.Proofs.Ytnomgnjfamideaa
