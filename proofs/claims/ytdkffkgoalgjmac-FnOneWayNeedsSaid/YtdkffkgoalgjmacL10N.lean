/- One-way needs of counts, the fewest questions, the first splits: numbers alone. -/
import Derived.Test.YtdkffkgoalgjmacNeed2
namespace Go.Proofs.Ytdkffkgoalgjmac
set_option linter.unusedVariables false

def needTabO : List (List (List Nat)) :=
  [[[0, 0, 1, 2, 2, 3, 3, 3, 3], [0, 1, 2, 2, 3, 3, 3, 3], [2, 2, 3, 3, 3, 3, 4], [3, 3, 3, 3, 4, 4], [4, 4, 4, 4, 4], [4, 4, 4, 4], [4, 4, 4], [5, 5], [5]],
  [[0, 1, 2, 2, 3, 3, 3, 3], [2, 2, 3, 3, 3, 3, 4], [3, 3, 3, 3, 4, 4], [4, 4, 4, 4, 4], [4, 4, 4, 4], [4, 4, 4], [5, 5], [5]],
  [[3, 3, 3, 3, 3, 4, 4], [3, 3, 4, 4, 4, 4], [4, 4, 4, 4, 4], [4, 4, 4, 4], [5, 5, 5], [5, 5], [5]],
  [[4, 4, 4, 4, 4, 4], [4, 4, 4, 4, 4], [5, 5, 5, 5], [5, 5, 5], [5, 5], [5]],
  [[5, 5, 5, 5, 5], [5, 5, 5, 5], [5, 5, 5], [5, 5], [5]],
  [[5, 5, 5, 5], [5, 5, 5], [6, 6], [6]],
  [[6, 6, 6], [6, 6], [6]],
  [[6, 6], [6]],
  [[6]]]
def fewTabO : List (List (List Nat)) :=
  [[[0, 0, 1, 1, 2, 1, 2, 2, 3], [0, 1, 1, 2, 1, 2, 2, 3], [1, 2, 1, 2, 2, 3, 1], [1, 2, 2, 3, 1, 2], [1, 1, 1, 2, 2], [2, 2, 3, 2], [2, 3, 3], [1, 1], [2]],
  [[0, 1, 1, 2, 1, 2, 2, 3], [1, 2, 1, 2, 2, 3, 1], [1, 2, 2, 3, 1, 2], [1, 1, 1, 2, 2], [2, 2, 3, 2], [2, 3, 3], [1, 1], [2]],
  [[1, 1, 2, 2, 3, 1, 2], [2, 3, 1, 2, 2, 3], [1, 2, 2, 3, 2], [2, 2, 3, 3], [1, 1, 1], [2, 2], [2]],
  [[1, 1, 2, 2, 3, 2], [2, 3, 2, 3, 3], [1, 1, 1, 1], [2, 2, 2], [2, 2], [2]],
  [[1, 1, 1, 1, 1], [2, 2, 2, 2], [2, 2, 2], [2, 2], [3]],
  [[2, 2, 2, 2], [3, 3, 3], [1, 1], [2]],
  [[1, 1, 1], [2, 2], [2]],
  [[2, 2], [2]],
  [[2]]]
/-- The one-way need of counts. -/
def needO (r : Row) : Nat := ((needTabO.getD r.1 []).getD r.2.1 []).getD r.2.2 0
/-- The fewest questions. -/
def fewO (r : Row) : Nat := ((fewTabO.getD r.1 []).getD r.2.1 []).getD r.2.2 0
def valO (r s : Row) : Nat := 1 + max (needO s) (needO (noR r s))
def fvO (r s : Row) : Nat := 1 + min (fewO s) (fewO (noR r s))
structure PlanO where
  need : Nat
  few : Nat
  first : Row
def PlanO.or (p q : PlanO) : PlanO := if p.need = 0 ∨ q.need < p.need then q else p
def byO (r s : Row) : PlanO := ⟨valO r s, fvO r s, s⟩
/-- The plan by i splits behind that of none. -/
def planFO (r : Row) : Nat → PlanO
  | 0 => ⟨0, 0, (0, 0, 0)⟩
  | i + 1 => (planFO r i).or (byO r (splitR r (i + 1)))
def planO (r : Row) : PlanO := if rsum r ≤ 1 then ⟨0, 0, (0, 0, 0)⟩ else planFO r (cntR r - 2)
theorem planO_told {r : Row} (h : rsum r ≤ 1) : planO r = ⟨0, 0, (0, 0, 0)⟩ := if_pos h
theorem planO_asks {r : Row} (h : 1 < rsum r) : planO r = planFO r (cntR r - 2) := if_neg (by omega)
theorem planO_need {r : Row} (h8 : rsum r ≤ 8) : (planO r).need = needO r := by
  have : allR (fun r => decide ((planO r).need = needO r)) = true := by decide +kernel
  simpa using allR_at this h8
theorem planO_few {r : Row} (h8 : rsum r ≤ 8) : (planO r).few = fewO r := by
  have : allR (fun r => decide ((planO r).few = fewO r)) = true := by decide +kernel
  simpa using allR_at this h8
theorem planO_fits {r : Row} (h8 : rsum r ≤ 8) : Fits (planO r).first r := by
  have : allR (fun r => decide ((planO r).first.1 ≤ r.1) && decide ((planO r).first.2.1 ≤ r.2.1) && decide ((planO r).first.2.2 ≤ r.2.2)) = true := by decide +kernel
  have := allR_at this h8
  simpa [Fits, and_assoc] using this
theorem planFO_bd {r : Row} (h8 : rsum r ≤ 8) {i : Nat} (hi : i ≤ cntR r) : (planFO r i).need ≤ 20 ∧ (planFO r i).few ≤ 20 := by
  have : allR (fun r => (List.range (cntR r + 1)).all fun i => decide ((planFO r i).need ≤ 20) && decide ((planFO r i).few ≤ 20)) = true := by decide +kernel
  have := allR_at this h8
  simp only [List.all_eq_true, List.mem_range, Bool.and_eq_true, decide_eq_true_eq] at this
  exact this i (by omega)
theorem needO_told {r : Row} (h : rsum r ≤ 1) : needO r = 0 := by
  have : allR (fun r => decide (1 < rsum r) || decide (needO r = 0)) = true := by decide +kernel
  have := allR_at this (r := r) (by omega)
  simp only [Bool.or_eq_true, decide_eq_true_eq] at this
  omega
theorem needO_pos {r : Row} (h : 1 < rsum r) (h8 : rsum r ≤ 8) : 1 ≤ needO r := by
  have : allR (fun r => decide (rsum r ≤ 1) || decide (1 ≤ needO r)) = true := by decide +kernel
  have := allR_at this h8
  simp only [Bool.or_eq_true, decide_eq_true_eq] at this
  omega
theorem needO_le {r : Row} (h8 : rsum r ≤ 8) : needO r ≤ 6 := by
  have : allR (fun r => decide (needO r ≤ 6)) = true := by decide +kernel
  simpa using allR_at this h8
theorem fewO_le {r : Row} (h8 : rsum r ≤ 8) : fewO r ≤ 6 := by
  have : allR (fun r => decide (fewO r ≤ 6)) = true := by decide +kernel
  simpa using allR_at this h8
theorem needO_split {r s : Row} (h8 : rsum r ≤ 8) (hs : Fits s r) : needO r ≤ valO r s := by
  have : allS (fun r s => decide (needO r ≤ valO r s)) = true := by decide +kernel
  simpa using allF_at this h8 hs
theorem fit_sum {r s : Row} (h8 : rsum r ≤ 8) (hs : Fits s r) : rsum s ≤ 8 := by
  obtain ⟨a, b, c⟩ := r
  obtain ⟨x, y, z⟩ := s
  simp only [rsum, Fits] at *
  omega
theorem massO_yes {r s : Row} (hs : Fits s r) (hne : s ≠ r) : massR s < massR r := by
  obtain ⟨a, b, c⟩ := r
  obtain ⟨x, y, z⟩ := s
  simp only [Fits, massR, ne_eq, Prod.mk.injEq, not_and] at *
  omega
theorem massO_no {r s : Row} (hs : Fits s r) (hne : s ≠ (0, 0, 0)) : massR (noR r s) < massR r := by
  obtain ⟨a, b, c⟩ := r
  obtain ⟨x, y, z⟩ := s
  simp only [Fits, noR, leftR, yesR, massR, ne_eq, Prod.mk.injEq, not_and] at *
  omega
/-- Both behind a split want fewer than so many. -/
def lessO (r s : Row) (v : Nat) : Bool := decide (needO s < v) && decide (needO (noR r s) < v)
/-- The first split has the need: it has a place, both behind it want fewer, and none ahead of it does. -/
def firstI (r : Row) : Nat := indexR r (planO r).first
theorem first_at {r : Row} (h8 : rsum r ≤ 8) (h : 1 < rsum r) : firstI r < cntR r ∧ splitR r (firstI r) = (planO r).first ∧ lessO r (planO r).first (needO r) = true ∧ ∀ j, j < firstI r → lessO r (splitR r j) (needO r) = false := by
  have h1 := index_split h8 (planO_fits h8)
  have : allR (fun r => decide (rsum r ≤ 1) || (lessO r (planO r).first (needO r) && (List.range (firstI r)).all fun j => !lessO r (splitR r j) (needO r))) = true := by decide +kernel
  have := allR_at this h8
  simp only [Bool.or_eq_true, Bool.and_eq_true, decide_eq_true_eq, List.all_eq_true, List.mem_range, Bool.not_eq_true'] at this
  rcases this with h2 | ⟨h2, h3⟩
  · omega
  · exact ⟨h1.1, h1.2, h2, h3⟩
theorem first_val {r : Row} (h8 : rsum r ≤ 8) (h : 1 < rsum r) : needO r = valO r (planO r).first ∧ fewO r = fvO r (planO r).first := by
  have : allR (fun r => decide (rsum r ≤ 1) || (decide (needO r = valO r (planO r).first) && decide (fewO r = fvO r (planO r).first))) = true := by decide +kernel
  have := allR_at this h8
  simp only [Bool.or_eq_true, Bool.and_eq_true, decide_eq_true_eq] at this
  rcases this with h2 | h2
  · omega
  · exact h2
theorem first_ne {r : Row} (h8 : rsum r ≤ 8) (h : 1 < rsum r) : (planO r).first ≠ (0, 0, 0) ∧ (planO r).first ≠ r := by
  have : allR (fun r => decide (rsum r ≤ 1) || (decide ((planO r).first ≠ (0, 0, 0)) && decide ((planO r).first ≠ r))) = true := by decide +kernel
  have := allR_at this h8
  simp only [Bool.or_eq_true, Bool.and_eq_true, decide_eq_true_eq] at this
  rcases this with h2 | h2
  · omega
  · exact h2
/-- The first split, the last one. -/
theorem split_ends {r : Row} (h8 : rsum r ≤ 8) (h : 1 < rsum r) : 2 ≤ cntR r ∧ (∀ i, i < cntR r → (splitR r i = (0, 0, 0) ↔ i = 0)) ∧ (∀ i, i < cntR r → (splitR r i = r ↔ i + 1 = cntR r)) := by
  have : allR (fun r => decide (rsum r ≤ 1) || (decide (2 ≤ cntR r) && (List.range (cntR r)).all fun i => decide (splitR r i = (0, 0, 0) ↔ i = 0) && decide (splitR r i = r ↔ i + 1 = cntR r))) = true := by decide +kernel
  have := allR_at this h8
  simp only [Bool.or_eq_true, Bool.and_eq_true, decide_eq_true_eq, List.all_eq_true, List.mem_range] at this
  rcases this with h2 | ⟨h2, h3⟩
  · omega
  · exact ⟨h2, fun i hi => (h3 i hi).1, fun i hi => (h3 i hi).2⟩
theorem withinO_iff {round : Nat} {r : Row} (h8 : rsum r ≤ 8) (h1 : 1 < rsum r) :
    (∃ i, i < cntR r ∧ lessO r (splitR r i) round = true) ↔ needO r ≤ round := by
  constructor
  · rintro ⟨i, hi, hl⟩
    have := needO_split h8 (split_fits h8 hi)
    unfold valO at this
    simp only [lessO, Bool.and_eq_true, decide_eq_true_eq] at hl
    omega
  · intro h
    obtain ⟨h2, h3, h4, _⟩ := first_at h8 h1
    refine ⟨firstI r, h2, ?_⟩
    rw [h3]
    simp only [lessO, Bool.and_eq_true, decide_eq_true_eq] at h4 ⊢
    omega
end Go.Proofs.Ytdkffkgoalgjmac
