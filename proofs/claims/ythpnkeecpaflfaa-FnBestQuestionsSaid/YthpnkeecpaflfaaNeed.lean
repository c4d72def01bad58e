/- Counts of at most three places as rows of three, their splits in order, their needs: numbers alone. -/
import Derived.Test.YthpnkeecpaflfaaInts
namespace Go.Proofs.Ythpnkeecpaflfaa
set_option linter.unusedVariables false

/-- Counts: how many numbers have no false answer, one, two. Counts of fewer places have zeros ahead. -/
abbrev Row := Nat × Nat × Nat
def rsum (r : Row) : Nat := r.1 + r.2.1 + r.2.2
def needTab : List (List (List Nat)) :=
  [[[0, 0, 1, 2, 2, 3, 3, 3, 3], [0, 2, 3, 3, 3, 4, 4, 4], [3, 4, 4, 4, 4, 4, 4], [5, 5, 5, 5, 5, 5], [5, 5, 5, 5, 5], [6, 6, 6, 6], [6, 6, 6], [6, 6], [6]],
  [[0, 3, 4, 4, 4, 4, 5, 5], [4, 5, 5, 5, 5, 5, 5], [6, 6, 6, 6, 6, 6], [6, 6, 6, 6, 6], [6, 6, 6, 6], [7, 7, 7], [7, 7], [7]],
  [[5, 6, 6, 6, 6, 6, 6], [7, 7, 7, 7, 7, 7], [7, 7, 7, 7, 7], [7, 7, 7, 7], [7, 7, 7], [7, 7], [7]],
  [[8, 8, 8, 8, 8, 8], [8, 8, 8, 8, 8], [8, 8, 8, 8], [8, 8, 8], [8, 8], [8]],
  [[8, 8, 8, 8, 8], [8, 8, 8, 8], [8, 8, 8], [8, 8], [8]],
  [[9, 9, 9, 9], [9, 9, 9], [9, 9], [9]],
  [[9, 9, 9], [9, 9], [9]],
  [[9, 9], [9]],
  [[9]]]
/-- The need of counts. -/
def needR (r : Row) : Nat := ((needTab.getD r.1 []).getD r.2.1 []).getD r.2.2 0
def leftR (r s : Row) : Row := (r.1 - s.1, r.2.1 - s.2.1, r.2.2 - s.2.2)
def yesR (r s : Row) : Row := (s.1, s.2.1 + (r.1 - s.1), s.2.2 + (r.2.1 - s.2.1))
def noR (r s : Row) : Row := yesR r (leftR r s)
def backR (r s : Row) : Bool := yesR r s == r || noR r s == r
def Fits (s r : Row) : Prop := s.1 ≤ r.1 ∧ s.2.1 ≤ r.2.1 ∧ s.2.2 ≤ r.2.2
/-- How many splits. -/
def cntR (r : Row) : Nat := (r.1 + 1) * ((r.2.1 + 1) * (r.2.2 + 1))
/-- The split with a place in the order. -/
def splitR (r : Row) (i : Nat) : Row := (i / ((r.2.1 + 1) * (r.2.2 + 1)), i / (r.2.2 + 1) % (r.2.1 + 1), i % (r.2.2 + 1))
def indexR (r s : Row) : Nat := s.1 * ((r.2.1 + 1) * (r.2.2 + 1)) + s.2.1 * (r.2.2 + 1) + s.2.2
/-- The need of a split. -/
def valR (r s : Row) : Nat := 1 + max (needR (yesR r s)) (needR (noR r s))

structure Plan where
  need : Nat
  first : Row
  many : Nat
def Plan.or (p : Plan) (s : Row) (v : Nat) : Plan :=
  if p.many = 0 ∨ v < p.need then ⟨v, s, 1⟩ else if v = p.need then ⟨p.need, p.first, p.many + 1⟩ else p
/-- The plan by the first i splits. -/
def planF (r : Row) : Nat → Plan
  | 0 => ⟨0, (0, 0, 0), 0⟩
  | i + 1 => if backR r (splitR r i) = true then planF r i else (planF r i).or (splitR r i) (valR r (splitR r i))
/-- The plan of counts. -/
def planR (r : Row) : Plan := if rsum r ≤ 1 then ⟨0, (0, 0, 0), 0⟩ else planF r (cntR r)

def allR (p : Row → Bool) : Bool := (List.range 9).all fun a => (List.range (9 - a)).all fun b => (List.range (9 - a - b)).all fun c => p (a, b, c)
theorem allR_at {p : Row → Bool} (h : allR p = true) {r : Row} (hr : rsum r ≤ 8) : p r = true := by
  obtain ⟨a, b, c⟩ := r
  simp only [rsum] at hr
  simp only [allR, List.all_eq_true, List.mem_range] at h
  exact h a (by omega) b (by omega) c (by omega)
def allS (p : Row → Row → Bool) : Bool := allR fun r => (List.range (cntR r)).all fun i => p r (splitR r i)
theorem allS_at {p : Row → Row → Bool} (h : allS p = true) {r : Row} (hr : rsum r ≤ 8) {i : Nat} (hi : i < cntR r) : p r (splitR r i) = true := by
  have := allR_at h hr
  simp only [List.all_eq_true, List.mem_range] at this
  exact this i hi

theorem split_fits {r : Row} (hr : rsum r ≤ 8) {i : Nat} (hi : i < cntR r) : Fits (splitR r i) r := by
  have : allS (fun r s => decide (s.1 ≤ r.1) && decide (s.2.1 ≤ r.2.1) && decide (s.2.2 ≤ r.2.2)) = true := by decide +kernel
  have := allS_at this hr hi
  simpa [Fits, and_assoc] using this
theorem index_split {r s : Row} (hr : rsum r ≤ 8) (h : Fits s r) : indexR r s < cntR r ∧ splitR r (indexR r s) = s := by
  have : allR (fun r => (List.range (r.1 + 1)).all fun x => (List.range (r.2.1 + 1)).all fun y => (List.range (r.2.2 + 1)).all fun z => decide (indexR r (x, y, z) < cntR r) && decide (splitR r (indexR r (x, y, z)) = (x, y, z))) = true := by decide +kernel
  have := allR_at this hr
  simp only [List.all_eq_true, List.mem_range, Bool.and_eq_true, decide_eq_true_eq] at this
  obtain ⟨x, y, z⟩ := s
  simp only [Fits] at h
  exact this x (by omega) y (by omega) z (by omega)
theorem allF_at {p : Row → Row → Bool} (h : allS p = true) {r s : Row} (hr : rsum r ≤ 8) (hs : Fits s r) : p r s = true := by
  obtain ⟨h1, h2⟩ := index_split hr hs
  have := allS_at h hr h1
  rwa [h2] at this

theorem need_told {r : Row} (h : rsum r ≤ 1) : needR r = 0 := by
  have : allR (fun r => decide (1 < rsum r) || decide (needR r = 0)) = true := by decide +kernel
  have := allR_at this (r := r) (by omega)
  simp only [Bool.or_eq_true, decide_eq_true_eq] at this
  omega
theorem need_pos {r : Row} (h : 1 < rsum r) (h8 : rsum r ≤ 8) : 1 ≤ needR r := by
  have : allR (fun r => decide (rsum r ≤ 1) || decide (1 ≤ needR r)) = true := by decide +kernel
  have := allR_at this h8
  simp only [Bool.or_eq_true, decide_eq_true_eq] at this
  omega
theorem need_le {r : Row} (h8 : rsum r ≤ 8) : needR r ≤ 9 := by
  have : allR (fun r => decide (needR r ≤ 9)) = true := by decide +kernel
  simpa using allR_at this h8
theorem need_split {r s : Row} (h8 : rsum r ≤ 8) (hs : Fits s r) : needR r ≤ valR r s := by
  have : allS (fun r s => decide (needR r ≤ valR r s)) = true := by decide +kernel
  simpa using allF_at this h8 hs
theorem back_val {r s : Row} (h8 : rsum r ≤ 8) (hs : Fits s r) (hb : backR r s = true) : needR r < valR r s := by
  unfold backR at hb
  unfold valR
  simp only [Bool.or_eq_true, beq_iff_eq] at hb
  rcases hb with h | h
  · rw [h]; omega
  · rw [h]; omega
theorem yes_sum {r s : Row} (h8 : rsum r ≤ 8) (hs : Fits s r) : rsum (yesR r s) ≤ 8 ∧ rsum (noR r s) ≤ 8 := by
  obtain ⟨a, b, c⟩ := r
  obtain ⟨x, y, z⟩ := s
  simp only [rsum, Fits, yesR, noR, leftR] at *
  omega
def massR (r : Row) : Nat := 3 * r.1 + 2 * r.2.1 + r.2.2
theorem mass_yes {r s : Row} (hs : Fits s r) (hb : backR r s = false) : massR (yesR r s) < massR r ∧ massR (noR r s) < massR r := by
  obtain ⟨a, b, c⟩ := r
  obtain ⟨x, y, z⟩ := s
  simp only [backR, Fits, yesR, noR, leftR, massR, Bool.or_eq_false_iff, beq_eq_false_iff_ne, ne_eq, Prod.mk.injEq, not_and] at *
  omega

theorem plan_told {r : Row} (h : rsum r ≤ 1) : planR r = ⟨0, (0, 0, 0), 0⟩ := if_pos h
theorem plan_asks {r : Row} (h : 1 < rsum r) : planR r = planF r (cntR r) := if_neg (by omega)
theorem plan_need {r : Row} (h8 : rsum r ≤ 8) : (planR r).need = needR r := by
  have : allR (fun r => decide ((planR r).need = needR r)) = true := by decide +kernel
  simpa using allR_at this h8
/-- The best splits. -/
def bestR (r : Row) : List Row := ((List.range (cntR r)).map (splitR r)).filter fun s => valR r s == needR r
theorem best_first {r : Row} (h8 : rsum r ≤ 8) (h : 1 < rsum r) : (bestR r)[0]? = some (planR r).first ∧ (bestR r).length = (planR r).many := by
  have : allR (fun r => decide (rsum r ≤ 1) || (decide ((bestR r)[0]? = some (planR r).first) && decide ((bestR r).length = (planR r).many))) = true := by decide +kernel
  have := allR_at this h8
  simp only [Bool.or_eq_true, Bool.and_eq_true, decide_eq_true_eq] at this
  rcases this with h1 | h1
  · omega
  · exact h1
theorem plan_fits {r : Row} (h8 : rsum r ≤ 8) : Fits (planR r).first r := by
  have : allR (fun r => decide ((planR r).first.1 ≤ r.1) && decide ((planR r).first.2.1 ≤ r.2.1) && decide ((planR r).first.2.2 ≤ r.2.2)) = true := by decide +kernel
  have := allR_at this h8
  simpa [Fits, and_assoc] using this
theorem plan_many {r : Row} (h8 : rsum r ≤ 8) : (planR r).many ≤ 1000 ∧ (1 < rsum r → 1 ≤ (planR r).many) := by
  have : allR (fun r => decide ((planR r).many ≤ 1000) && (decide (rsum r ≤ 1) || decide (1 ≤ (planR r).many))) = true := by decide +kernel
  have := allR_at this h8
  simp only [Bool.or_eq_true, Bool.and_eq_true, decide_eq_true_eq] at this
  omega
end Go.Proofs.Ythpnkeecpaflfaa
