/- All splits of counts, as the specification finds them: lists alone. -/
import Derived.Test.YthpnkeecpaflfaaRows2
namespace Go.Proofs.Ythpnkeecpaflfaa
set_option linter.unusedVariables false

def splStep (L : List (List Int)) (m : Nat) : List (List Int) := L.flatMap fun l => (List.range (m + 1)).map fun (k : Nat) => l ++ [(k : Int)]
def spl (p : Nat) (r : Row) : Nat → List (List Int)
  | 0 => [[]]
  | i + 1 => splStep (spl p r i) (compR r (3 - p + i))
/-- The splits that have come by then: of the first x, and k + 1 of the next. -/
def splPart (L : List (List Int)) (m x k : Nat) : List (List Int) := splStep (L.take x) m ++ (List.range k).map fun (j : Nat) => L.getD x [] ++ [(j : Int)]
theorem splPart_zero (L : List (List Int)) (m : Nat) : splPart L m 0 0 = [] := by simp [splPart, splStep]
theorem splPart_more (L : List (List Int)) (m x k : Nat) : splPart L m x (k + 1) = splPart L m x k ++ [L.getD x [] ++ [(k : Int)]] := by
  simp [splPart, List.range_succ]
theorem splPart_next {L : List (List Int)} {m x : Nat} (hx : x < L.length) : splPart L m x (m + 1) = splPart L m (x + 1) 0 := by
  simp only [splPart, splStep, List.range_zero, List.map_nil, List.append_nil]
  rw [List.take_succ_eq_append_getElem hx, List.flatMap_append]
  simp [List.getD, hx]
theorem splPart_all (L : List (List Int)) (m : Nat) : splPart L m L.length 0 = splStep L m := by simp [splPart]
theorem splStep_len (L : List (List Int)) (m : Nat) : (splStep L m).length = L.length * (m + 1) := by
  induction L with
  | nil => simp [splStep]
  | cons a L ih =>
    have : splStep (a :: L) m = ((List.range (m + 1)).map fun (k : Nat) => a ++ [(k : Int)]) ++ splStep L m := by simp [splStep]
    rw [this, List.length_append, ih]
    simp [Nat.succ_mul, Nat.add_comm]
theorem splPart_len {L : List (List Int)} {m x k : Nat} (hx : x ≤ L.length) : (splPart L m x k).length = x * (m + 1) + k := by
  simp only [splPart, List.length_append, splStep_len, List.length_take, List.length_map, List.length_range]
  rw [Nat.min_eq_left hx]
theorem spl_elem {p : Nat} {r : Row} : ∀ {i : Nat} {l : List Int}, l ∈ spl p r i → l.length = i
  | 0, l, h => by simp [spl] at h; simp [h]
  | i + 1, l, h => by
    simp only [spl, splStep, List.mem_flatMap, List.mem_map] at h
    obtain ⟨l0, h0, k, _, rfl⟩ := h
    simp [spl_elem h0]
/-- All splits, in order. -/
def splAll (p : Nat) (r : Row) : List (List Int) := (List.range (cntR r)).map fun j => lstR p (splitR r j)
theorem spl_ok {p : Nat} {r : Row} (hw : Wide p r) (h8 : rsum r ≤ 8) : spl p r p = splAll p r ∧ ∀ i, i ≤ p → (spl p r i).length ≤ 48 := by
  have h3 : allR (fun r => decide (spl 3 r 3 = splAll 3 r) && (List.range 4).all fun i => decide ((spl 3 r i).length ≤ 48)) = true := by decide +kernel
  have h2 : allR (fun r => decide (r.1 ≠ 0) || (decide (spl 2 r 2 = splAll 2 r) && (List.range 3).all fun i => decide ((spl 2 r i).length ≤ 48))) = true := by decide +kernel
  have h1 : allR (fun r => decide (r.1 ≠ 0 ∨ r.2.1 ≠ 0) || (decide (spl 1 r 1 = splAll 1 r) && (List.range 2).all fun i => decide ((spl 1 r i).length ≤ 48))) = true := by decide +kernel
  rcases hw with ⟨h, a, b⟩ | ⟨h, a⟩ | h
  · subst h
    have := allR_at h1 h8
    simp only [a, b, ne_eq, not_true_eq_false, or_self, decide_false, Bool.false_or, Bool.and_eq_true, decide_eq_true_eq, List.all_eq_true, List.mem_range] at this
    exact ⟨this.1, fun i hi => this.2 i (by omega)⟩
  · subst h
    have := allR_at h2 h8
    simp only [a, ne_eq, not_true_eq_false, decide_false, Bool.false_or, Bool.and_eq_true, decide_eq_true_eq, List.all_eq_true, List.mem_range] at this
    exact ⟨this.1, fun i hi => this.2 i (by omega)⟩
  · subst h
    have := allR_at h3 h8
    simp only [Bool.and_eq_true, decide_eq_true_eq, List.all_eq_true, List.mem_range] at this
    exact ⟨this.1, fun i hi => this.2 i (by omega)⟩
theorem splAll_len (p : Nat) (r : Row) : (splAll p r).length = cntR r := by simp [splAll]
theorem splAll_at {p : Nat} {r : Row} {j : Nat} (h : j < (splAll p r).length) : (splAll p r)[j] = lstR p (splitR r j) := by simp [splAll]
end Go.Proofs.Ythpnkeecpaflfaa
