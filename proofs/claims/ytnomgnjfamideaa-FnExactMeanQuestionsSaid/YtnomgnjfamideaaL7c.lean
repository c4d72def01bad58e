/- Chances: the mean of what is told of places, and the chance of a set of them. -/
import Derived.Test.YtnomgnjfamideaaL7b
namespace Go.Proofs.Ytnomgnjfamideaa
open Go.RowKit Go.ChangeShapes Go.WideShapes
set_option linter.unusedVariables false

/-- A list of n numbers, by their places. -/
def zsN (f : Nat → Nat) (n : Nat) : List Int := (List.range n).map fun i => ((f i : Nat) : Int)
theorem zsN_len (f : Nat → Nat) (n : Nat) : (zsN f n).length = n := by simp [zsN]
theorem zsN_at (f : Nat → Nat) (n k : Nat) (h : k < (zsN f n).length) : (zsN f n)[k] = ((f k : Nat) : Int) := by simp [zsN]
theorem zsN_cell {w : World} {lo hi : Nat} {A : Option Addr} {f : Nat → Nat} {n k : Nat} (hI : Ints w lo hi A (zsN f n)) (h : k < n) : ∃ b o, A = some ⟨b, o, none⟩ ∧ lo ≤ b ∧ b < hi ∧ w.cell? ⟨b, o + k, none⟩ = some (.int .i64 ((f k : Nat) : Int)) := by
  obtain ⟨b, o, e, h1, h2, h3⟩ := hI.at_ (k := k) (by rw [zsN_len]; exact h)
  rw [zsN_at] at h3
  exact ⟨b, o, e, h1, h2, h3⟩
/-- How often a place is in a set: once or not at all. -/
def hasN (q : Int) (i : Nat) : Nat := if inQ q i then 1 else 0
theorem hasN_le (q : Int) (i : Nat) : hasN q i ≤ 1 := by unfold hasN; split <;> omega
theorem sumT_next (f T : Nat → Nat) (k : Nat) : ((sumT f T k : Nat) : Int) + ((f k : Nat) : Int) * ((T k : Nat) : Int) = ((sumT f T (k + 1) : Nat) : Int) := by
  simp only [sumT]
  rw [Int.natCast_add, Int.natCast_mul]
theorem sumF_next (f : Nat → Nat) (k : Nat) : ((sumF f k : Nat) : Int) + ((f k : Nat) : Int) = ((sumF f (k + 1) : Nat) : Int) := by
  simp only [sumF]
  rw [Int.natCast_add]
theorem sumT_big {f T : Nat → Nat} {n : Nat} (hn : n ≤ 13) (hf : ∀ i, i < n → f i ≤ 1000000000000) (hT : ∀ i, i < n → T i ≤ 12) (k : Nat) (hk : k ≤ n) : sumT f T k ≤ 156000000000000 := by
  have h1 := sumT_le (f := f) (T := T) (B := 1000000000000) (C := 12) k fun i hi => ⟨hf i (by omega), hT i (by omega)⟩
  have h2 := Nat.mul_le_mul_right (1000000000000 * 12) (show k ≤ 13 by omega)
  omega
theorem sumF_big {f : Nat → Nat} {n : Nat} (hn : n ≤ 13) (hf : ∀ i, i < n → f i ≤ 1000000000000) (k : Nat) (hk : k ≤ n) : sumF f k ≤ 13000000000000 := by
  have h1 := sumF_le (f := f) (B := 1000000000000) k fun i hi => hf i (by omega)
  have h2 := Nat.mul_le_mul_right 1000000000000 (show k ≤ 13 by omega)
  omega
end Go.Proofs.Ytnomgnjfamideaa
