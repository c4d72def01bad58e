/- Vain questions. -/
import Derived.Test.YtdkffkgoalgjmacOpenN
namespace Go.Proofs.Ytdkffkgoalgjmac
open Go.RowKit Go.ChangeShapes Go.WideShapes
set_option linter.unusedVariables false

theorem bits_1 (x : Int) : bits .and .i64 x 1 = 0 ∨ bits .and .i64 x 1 = 1 := by
  have hx : (BitVec.ofInt 64 x &&& BitVec.ofInt 64 1).toNat ≤ 1 := by
    rw [BitVec.toNat_and]
    exact Nat.le_trans Nat.and_le_right (by decide)
  have : bits .and .i64 x 1 = IntKind.i64.wrap ((BitVec.ofInt 64 x &&& BitVec.ofInt 64 1).toNat : Int) := rfl
  rw [this]
  rcases Nat.le_one_iff_eq_zero_or_eq_one.1 hx with h | h <;> rw [h]
  · exact .inl (by decide +kernel)
  · exact .inr (by decide +kernel)
theorem bit_yes {q : Int} {i : Nat} (h : inQ q i = true) : bits .and .i64 (q / 2 ^ i) 1 = 1 := by
  rcases bits_1 (q / 2 ^ i) with h0 | h0
  · unfold inQ at h; rw [h0] at h; cases h
  · exact h0
theorem bit_no {q : Int} {i : Nat} (h : inQ q i = false) : bits .and .i64 (q / 2 ^ i) 1 = 0 := by
  rcases bits_1 (q / 2 ^ i) with h0 | h0
  · exact h0
  · unfold inQ at h; rw [h0] at h; cases h
/-- How many of the first k numbers of l are in a question. -/
def inTo (q : Int) (l : List Int) : Nat → Nat
  | 0 => 0
  | k + 1 => inTo q l k + (if inQ q (l.getD k 0).toNat then 1 else 0)
theorem inTo_le (q : Int) (l : List Int) : ∀ k, inTo q l k ≤ k
  | 0 => Nat.le_refl _
  | k + 1 => by have := inTo_le q l k; rw [inTo]; split <;> omega
def vain (q : Int) (l : List Int) : Bool := decide (inTo q l l.length = 0 ∨ inTo q l l.length = l.length)
theorem opens_lt {zs : List Int} {x : Int} (h : x ∈ opens zs) : 0 ≤ x ∧ x < (zs.length : Int) := filt_mem h

end Go.Proofs.Ytdkffkgoalgjmac
