/- Splits: of impl, of spec. -/
import Derived.Test.YtbgdnidbdfhgjaaCnt4
namespace Go.Proofs.Ytbgdnidbdfhgjaa
open Go.RowKit Go.ChangeShapes Go.WideShapes
set_option linter.unusedVariables false

theorem fitL_len {l m : List Int} (h : fitL l m = true) : l.length = m.length := by
  induction l generalizing m with
  | nil => cases m with
    | nil => rfl
    | cons _ _ => simp [fitL] at h
  | cons x l ih => cases m with
    | nil => simp [fitL] at h
    | cons y m => simp only [fitL, Bool.and_eq_true] at h; simp [ih h.2]
theorem fitL_iff {l m : List Int} (hl : l.length = m.length) : fitL l m = true ↔ ∀ j (h1 : j < l.length) (h2 : j < m.length), 0 ≤ l[j] ∧ l[j] ≤ m[j] := by
  induction l generalizing m with
  | nil => cases m with
    | nil => simp [fitL]
    | cons _ _ => simp at hl
  | cons x l ih => cases m with
    | nil => simp at hl
    | cons y m =>
      simp only [fitL, Bool.and_eq_true, decide_eq_true_eq]
      rw [ih (by simpa using hl)]
      constructor
      · rintro ⟨h0, h1⟩ j hj hj2
        cases j with
        | zero => exact h0
        | succ j => exact h1 j (by simpa using hj) (by simpa using hj2)
      · intro h
        exact ⟨h 0 (by simp) (by simp), fun j h1 h2 => h (j + 1) (by simpa using h1) (by simpa using h2)⟩
/-- The first k of l are in bounds. -/
structure FT (l m : List Int) (k : Nat) : Prop where
  ok : ∀ j (h1 : j < l.length) (h2 : j < m.length), j < k → 0 ≤ l[j] ∧ l[j] ≤ m[j]
theorem FT.zero {l m : List Int} : FT l m 0 := ⟨fun j _ _ h => absurd h (by omega)⟩
theorem FT.step {l m : List Int} {k : Nat} (h : FT l m k) (h1 : k < l.length) (h2 : k < m.length) (hx : 0 ≤ l[k] ∧ l[k] ≤ m[k]) : FT l m (k + 1) := ⟨fun j hj hj2 hl => by
  by_cases e : j = k
  · subst e; exact hx
  · exact h.ok j hj hj2 (by omega)⟩
theorem FT.done {l m : List Int} {k : Nat} (h : FT l m k) (hk : k = l.length) (hl : l.length = m.length) : fitL l m = true := (fitL_iff hl).2 fun j h1 h2 => h.ok j h1 h2 (by omega)
theorem fitL_no {l m : List Int} {k : Nat} (h1 : k < l.length) (h2 : k < m.length) (hx : ¬ (0 ≤ l[k] ∧ l[k] ≤ m[k])) : fitL l m = false := by
  rw [Bool.eq_false_iff]
  intro h
  exact hx ((fitL_iff (fitL_len h)).1 h k h1 h2)
theorem fitL_ne {l m : List Int} (h : l.length ≠ m.length) : fitL l m = false := by
  rw [Bool.eq_false_iff]
  intro hf
  exact h (fitL_len hf)

end Go.Proofs.Ytbgdnidbdfhgjaa
