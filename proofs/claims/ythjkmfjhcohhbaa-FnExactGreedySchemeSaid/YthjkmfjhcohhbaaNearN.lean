/- Numbers near to a word: which ones fit, which ones are nearest, in ascending order. -/
import Derived.Test.YthjkmfjhcohhbaaWord
namespace Go.Proofs.Ythjkmfjhcohhbaa
open Go.RowKit Go.ChangeShapes Go.WideShapes
set_option linter.unusedVariables false

/-- The places of words that are at most m apart from x, among the first k. -/
def fitTo (ws : List Nat) (x m : Nat) (k : Nat) : List Int := filt (fun j => decide (apartN (ws.getD j 0) x ≤ m)) k
def fitL (ws : List Nat) (x m : Nat) : List Int := fitTo ws x m ws.length
/-- The least that the first k words are apart from x. -/
def leastTo (ws : List Nat) (x : Nat) : Nat → Nat
  | 0 => 15
  | k + 1 => min (leastTo ws x k) (apartN (ws.getD k 0) x)
theorem leastTo_at {ws : List Nat} {x j : Nat} : ∀ {k}, j < k → leastTo ws x k ≤ apartN (ws.getD j 0) x
  | 0, h => absurd h (by omega)
  | k + 1, h => by
    rw [leastTo]
    by_cases e : j = k
    · subst e; omega
    · have := leastTo_at (ws := ws) (x := x) (j := j) (k := k) (by omega); omega
theorem leastTo_le (ws : List Nat) (x : Nat) : ∀ k, leastTo ws x k ≤ 15
  | 0 => Nat.le_refl _
  | k + 1 => by have := leastTo_le ws x k; rw [leastTo]; omega
theorem leastTo_14 (ws : List Nat) (x : Nat) {k : Nat} (h : 0 < k) : leastTo ws x k ≤ 14 := by
  have h1 := leastTo_at (ws := ws) (x := x) (j := 0) h
  have h2 := apartN_le (ws.getD 0 0) x
  omega
theorem filt_ext {p q : Nat → Bool} : ∀ k, (∀ i, i < k → p i = q i) → filt p k = filt q k
  | 0, _ => rfl
  | k + 1, h => by rw [filt, filt, filt_ext k (fun i hi => h i (by omega)), h k (by omega)]
theorem filt_none {p : Nat → Bool} : ∀ k, (∀ i, i < k → p i = false) → filt p k = []
  | 0, _ => rfl
  | k + 1, h => by rw [filt, filt_none k (fun i hi => h i (by omega)), h k (by omega)]; rfl
def nearTo (ws : List Nat) (x k : Nat) : List Int := filt (fun j => decide (apartN (ws.getD j 0) x = leastTo ws x k)) k
theorem nearTo_less {ws : List Nat} {x k : Nat} (h : apartN (ws.getD k 0) x < leastTo ws x k) : nearTo ws x (k + 1) = [(k : Int)] ∧ leastTo ws x (k + 1) = apartN (ws.getD k 0) x := by
  have e : leastTo ws x (k + 1) = apartN (ws.getD k 0) x := by rw [leastTo]; omega
  refine ⟨?_, e⟩
  unfold nearTo
  rw [e, filt_yes (by simp), filt_none k (fun i hi => ?_)]
  · rfl
  · have := leastTo_at (ws := ws) (x := x) hi
    rw [decide_eq_false_iff_not]; omega
theorem nearTo_same {ws : List Nat} {x k : Nat} (h : apartN (ws.getD k 0) x = leastTo ws x k) : nearTo ws x (k + 1) = nearTo ws x k ++ [(k : Int)] ∧ leastTo ws x (k + 1) = leastTo ws x k := by
  have e : leastTo ws x (k + 1) = leastTo ws x k := by rw [leastTo]; omega
  refine ⟨?_, e⟩
  unfold nearTo
  rw [e, filt_yes (by simpa using h)]
theorem nearTo_more {ws : List Nat} {x k : Nat} (h : leastTo ws x k < apartN (ws.getD k 0) x) : nearTo ws x (k + 1) = nearTo ws x k ∧ leastTo ws x (k + 1) = leastTo ws x k := by
  have e : leastTo ws x (k + 1) = leastTo ws x k := by rw [leastTo]; omega
  refine ⟨?_, e⟩
  unfold nearTo
  rw [e, filt_no (by rw [decide_eq_false_iff_not]; omega)]
theorem nearTo_fit (ws : List Nat) (x : Nat) : nearTo ws x ws.length = fitL ws x (leastTo ws x ws.length) := by
  unfold nearTo fitL fitTo
  refine filt_ext _ fun i hi => ?_
  have := leastTo_at (ws := ws) (x := x) hi
  rw [Bool.eq_iff_iff, decide_eq_true_iff, decide_eq_true_iff]
  omega
theorem nearTo_len (ws : List Nat) (x k : Nat) : (nearTo ws x k).length ≤ k := filt_len _ _
theorem fitTo_len (ws : List Nat) (x m k : Nat) : (fitTo ws x m k).length ≤ k := filt_len _ _
theorem fitL_len (ws : List Nat) (x m : Nat) : (fitL ws x m).length ≤ ws.length := filt_len _ _
/-- For how many words more than one fit. -/
def untoldTo (ws : List Nat) (m : Nat) (W : Nat) : Nat := cntB (fun x => decide (1 < (fitL ws x m).length)) W

theorem filt_iff {p : Nat → Bool} : ∀ {k : Nat} {x : Int}, x ∈ filt p k ↔ ∃ j : Nat, j < k ∧ p j = true ∧ x = (j : Int)
  | 0, x => ⟨fun h => absurd h (by simp [filt]), fun ⟨j, h, _⟩ => absurd h (by omega)⟩
  | k + 1, x => by
    cases hp : p k with
    | true =>
      rw [filt_yes hp, List.mem_append, filt_iff (k := k)]
      constructor
      · rintro (⟨j, h1, h2, h3⟩ | h)
        · exact ⟨j, by omega, h2, h3⟩
        · simp at h; exact ⟨k, by omega, hp, h⟩
      · rintro ⟨j, h1, h2, h3⟩
        by_cases e : j = k
        · subst e; exact .inr (by simp [h3])
        · exact .inl ⟨j, by omega, h2, h3⟩
    | false =>
      rw [filt_no hp, filt_iff (k := k)]
      constructor
      · rintro ⟨j, h1, h2, h3⟩; exact ⟨j, by omega, h2, h3⟩
      · rintro ⟨j, h1, h2, h3⟩
        by_cases e : j = k
        · subst e; rw [hp] at h2; cases h2
        · exact ⟨j, by omega, h2, h3⟩
theorem filt_asc (p : Nat → Bool) : ∀ k, (filt p k).Pairwise (· < ·)
  | 0 => List.Pairwise.nil
  | k + 1 => by
    cases hp : p k with
    | false => rw [filt_no hp]; exact filt_asc p k
    | true =>
      rw [filt_yes hp, List.pairwise_append]
      refine ⟨filt_asc p k, List.pairwise_singleton _ _, fun a ha b hb => ?_⟩
      have := filt_mem ha
      simp at hb
      omega
theorem eq_asc : ∀ {l₁ l₂ : List Int}, l₁.Pairwise (· < ·) → l₂.Pairwise (· < ·) → (∀ p, p ∈ l₁ ↔ p ∈ l₂) → l₁ = l₂
  | [], [], _, _, _ => rfl
  | [], b :: s, _, _, h => by have := (h b).2 (by simp); simp at this
  | a :: r, [], _, _, h => by have := (h a).1 (by simp); simp at this
  | a :: r, b :: s, h1, h2, h => by
    obtain ⟨a1, a2⟩ := List.pairwise_cons.1 h1
    obtain ⟨b1, b2⟩ := List.pairwise_cons.1 h2
    have hab : a = b := by
      rcases List.mem_cons.1 ((h a).1 (by simp)) with e | ha
      · exact e
      · rcases List.mem_cons.1 ((h b).2 (by simp)) with e | hb
        · exact e.symm
        · have := a1 b hb
          have := b1 a ha
          omega
    subst hab
    rw [eq_asc a2 b2 (fun p => ⟨fun hp => by
      rcases List.mem_cons.1 ((h p).1 (by simp [hp])) with e | hp'
      · have := a1 p hp; omega
      · exact hp', fun hp => by
      rcases List.mem_cons.1 ((h p).2 (by simp [hp])) with e | hp'
      · have := b1 p hp; omega
      · exact hp'⟩)]
/-- What is sorted of numbers that come in whatever order. -/
theorem sort_filt {zs : List Int} {p : Nat → Bool} {n : Nat} (hn : zs.Nodup) (hm : ∀ x, x ∈ zs ↔ ∃ j : Nat, j < n ∧ p j = true ∧ x = (j : Int)) : (zs.mergeSort fun x y => decide (x ≤ y)) = filt p n := by
  have hp : (zs.mergeSort fun x y => decide (x ≤ y)).Perm zs := List.mergeSort_perm zs _
  have hs : (zs.mergeSort fun x y => decide (x ≤ y)).Pairwise (fun x y => decide (x ≤ y) = true) := List.pairwise_mergeSort (fun a b c h1 h2 => by simp at *; omega) (fun a b => by simp; omega) zs
  have hd : (zs.mergeSort fun x y => decide (x ≤ y)).Pairwise (fun x y => x ≠ y) := hp.symm.nodup hn
  refine eq_asc ?_ (filt_asc p n) fun x => by rw [hp.mem_iff, hm, filt_iff]
  exact (hs.and hd).imp (fun {a b} h => by
    have h1 := h.1
    have h2 := h.2
    simp at h1
    omega)
end Go.Proofs.Ythjkmfjhcohhbaa
