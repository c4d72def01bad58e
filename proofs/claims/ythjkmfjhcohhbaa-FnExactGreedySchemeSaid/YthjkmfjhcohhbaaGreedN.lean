/- Words that are taken in ascending order, each one far from all ahead of it. -/
import Derived.Test.YthjkmfjhcohhbaaWord
namespace Go.Proofs.Ythjkmfjhcohhbaa
set_option linter.unusedVariables false

/-- Whether a word is more than d apart from all of a list. -/
def farB (d : Nat) (ws : List Nat) (x : Nat) : Bool := ws.all fun o => decide (d < apartN x o)
def gr (d : Nat) : Nat → List Nat
  | 0 => []
  | W + 1 => if farB d (gr d W) W then gr d W ++ [W] else gr d W
theorem gr_yes {d W : Nat} (h : farB d (gr d W) W = true) : gr d (W + 1) = gr d W ++ [W] := by rw [gr, if_pos h]
theorem gr_no {d W : Nat} (h : farB d (gr d W) W = false) : gr d (W + 1) = gr d W := by rw [gr, h]; simp
theorem gr_lt (d : Nat) : ∀ (W : Nat) {x : Nat}, x ∈ gr d W → x < W
  | 0, x, h => by cases h
  | W + 1, x, h => by
    cases hf : farB d (gr d W) W with
    | false => rw [gr_no hf] at h; have := gr_lt d W h; omega
    | true =>
      rw [gr_yes hf] at h
      rcases List.mem_append.1 h with h | h
      · have := gr_lt d W h; omega
      · simp at h; omega
theorem gr_len (d : Nat) : ∀ W, (gr d W).length ≤ W
  | 0 => Nat.le_refl _
  | W + 1 => by
    have := gr_len d W
    cases hf : farB d (gr d W) W with
    | false => rw [gr_no hf]; omega
    | true => rw [gr_yes hf]; simp; omega
/-- What comes behind. -/
theorem gr_more (d : Nat) {V : Nat} : ∀ {W : Nat}, V ≤ W → ∃ r, gr d W = gr d V ++ r ∧ ∀ x ∈ r, V ≤ x
  | 0, h => ⟨[], by obtain rfl : V = 0 := by omega
                    simp, by simp⟩
  | W + 1, h => by
    by_cases e : V = W + 1
    · subst e; exact ⟨[], by simp, by simp⟩
    · obtain ⟨r, h1, h2⟩ := gr_more d (V := V) (W := W) (by omega)
      cases hf : farB d (gr d W) W with
      | false => exact ⟨r, by rw [gr_no hf, h1], h2⟩
      | true =>
        refine ⟨r ++ [W], by rw [gr_yes hf, h1, List.append_assoc], fun x hx => ?_⟩
        rcases List.mem_append.1 hx with hx | hx
        · exact h2 x hx
        · simp at hx; omega
theorem gr_mono (d : Nat) {V W : Nat} (h : V ≤ W) : (gr d V).length ≤ (gr d W).length := by
  obtain ⟨r, h1, _⟩ := gr_more d h
  rw [h1, List.length_append]; omega
theorem gr_one (d : Nat) : gr d 1 = [0] := rfl
/-- The first n of them, if there are so many. -/
theorem gr_take (d : Nat) {V W n : Nat} (h : V ≤ W) (hn : n ≤ (gr d V).length) : (gr d W).take n = (gr d V).take n := by
  obtain ⟨r, h1, _⟩ := gr_more d h
  rw [h1, List.take_append_of_le_length hn]
/-- The last of the first n is below V just where there are n of them below V. -/
theorem gr_last (d : Nat) {V W n : Nat} (h : V ≤ W) (hn : n < (gr d W).length) : (gr d W).getD n 0 < V ↔ n < (gr d V).length := by
  obtain ⟨r, h1, h2⟩ := gr_more d h
  rw [h1] at hn ⊢
  by_cases hl : n < (gr d V).length
  · refine ⟨fun _ => hl, fun _ => ?_⟩
    have e : (gr d V ++ r).getD n 0 = (gr d V)[n] := by simp [List.getD, List.getElem?_append_left hl, hl]
    rw [e]
    exact gr_lt d V (List.getElem_mem hl)
  · refine ⟨fun hx => ?_, fun hx => absurd hx hl⟩
    have hl2 : n - (gr d V).length < r.length := by rw [List.length_append] at hn; omega
    have e : (gr d V ++ r).getD n 0 = r[n - (gr d V).length] := by
      simp [List.getD, List.getElem?_append_right (Nat.le_of_not_lt hl), hl2]
    rw [e] at hx
    have := h2 _ (List.getElem_mem hl2)
    omega
theorem gr_asc (d : Nat) : ∀ (W : Nat) {i j : Nat}, i < j → j < (gr d W).length → (gr d W).getD i 0 < (gr d W).getD j 0
  | 0, i, j, _, h => absurd h (by simp [gr])
  | W + 1, i, j, hij, h => by
    cases hf : farB d (gr d W) W with
    | false => rw [gr_no hf] at h ⊢; exact gr_asc d W hij h
    | true =>
      rw [gr_yes hf] at h ⊢
      rw [List.length_append] at h
      simp at h
      have hi : i < (gr d W).length := by omega
      have e1 : (gr d W ++ [W]).getD i 0 = (gr d W).getD i 0 := by simp [List.getD, List.getElem?_append_left hi]
      rw [e1]
      by_cases hj : j < (gr d W).length
      · have e2 : (gr d W ++ [W]).getD j 0 = (gr d W).getD j 0 := by simp [List.getD, List.getElem?_append_left hj]
        rw [e2]
        exact gr_asc d W hij hj
      · obtain rfl : j = (gr d W).length := by omega
        have e2 : (gr d W ++ [W]).getD (gr d W).length 0 = W := by simp [List.getD]
        have e3 : (gr d W).getD i 0 = (gr d W)[i] := by simp [List.getD, hi]
        rw [e2, e3]
        exact gr_lt d W (List.getElem_mem hi)
end Go.Proofs.Ythjkmfjhcohhbaa
