/- The least questions that a weight asks for: the numbers. -/
import Derived.Test.YtpjoljaamakagaaSum
namespace Go.Proofs.Ytpjoljaamakagaa
open Go.RowKit Go.ChangeShapes Go.WideShapes
set_option linter.unusedVariables false

theorem least_ex (p : Nat → Prop) [DecidablePred p] : ∀ n, p n → ∃ b, b ≤ n ∧ p b ∧ ∀ j, j < b → ¬ p j := by
  intro n
  induction n using Nat.strongRecOn with
  | ind n ih =>
    intro h
    by_cases hx : ∃ j, j < n ∧ p j
    · obtain ⟨j, hj, hp⟩ := hx
      obtain ⟨b, hb, h1, h2⟩ := ih j hj hp
      exact ⟨b, by omega, h1, h2⟩
    · exact ⟨n, Nat.le_refl _, h, fun j hj hp => hx ⟨j, hj, hp⟩⟩
theorem numW_30 {M : Nat} (hM : M ≤ 2) (z : Int) : numW 30 M z ≤ 466 := by
  have : ∀ j, j ≤ 2 → ball 30 j ≤ 466 := by decide +kernel
  by_cases h : 0 ≤ z
  · unfold numW; rw [if_pos h]; exact this _ (by omega)
  · rw [numW_no h]; omega
theorem stWTo_30 {M : Nat} (hM : M ≤ 2) (zs : List Int) : ∀ k, stWTo 30 M zs k ≤ k * 466
  | 0 => by simp [stWTo]
  | k + 1 => by
    have h1 := stWTo_30 hM zs k
    have h2 := numW_30 hM (zs.getD k (-1))
    rw [stWTo]
    omega
theorem bound_ex (M : Nat) (zs : List Int) (hM : M ≤ 2) (hn : zs.length ≤ 12) : ∃ b, b ≤ 30 ∧ stW b M zs ≤ 2 ^ b ∧ ∀ j, j < b → ¬ stW j M zs ≤ 2 ^ j :=
  least_ex (fun b => stW b M zs ≤ 2 ^ b) 30 (by
    have := stWTo_30 hM zs zs.length
    show stW 30 M zs ≤ 2 ^ 30
    unfold stW
    omega)
theorem pow_le30 (k : Nat) (h : k ≤ 30) : (1 : Int) ≤ 2 ^ k ∧ (2 : Int) ^ k ≤ 1073741824 := by
  have : ∀ k, k ≤ 30 → ((1 : Int) ≤ 2 ^ k ∧ (2 : Int) ^ k ≤ 1073741824) := by decide +kernel
  exact this k h
theorem wrap_pow30 (k : Nat) (h : k ≤ 30) : wrap64 ((2 : Int) ^ k) = 2 ^ k := by
  have : ∀ k, k ≤ 30 → wrap64 ((2 : Int) ^ k) = 2 ^ k := by decide +kernel
  exact this k h
theorem pow_cast (k : Nat) : (((2 ^ k : Nat)) : Int) = (2 : Int) ^ k := by norm_cast
end Go.Proofs.Ytpjoljaamakagaa
