/- States where a no alone can be false: lists. -/
import Derived.Test.YtdkffkgoalgjmacAll
namespace Go.Proofs.Ytdkffkgoalgjmac
open Go.RowKit Go.ChangeShapes Go.WideShapes
set_option linter.unusedVariables false

/-- A yes, told to the first k numbers: those that are not in the question are closed. -/
def owTo (zs : List Int) (q : Int) (k : Nat) : List Int := (List.range zs.length).map fun j => if j < k ∧ inQ q j = false then -1 else zs.getD j 0
theorem owTo_len (zs : List Int) (q : Int) (k : Nat) : (owTo zs q k).length = zs.length := by simp [owTo]
theorem owTo_zero (zs : List Int) (q : Int) : owTo zs q 0 = zs := by
  apply List.ext_getElem
  · simp [owTo]
  · intro j h1 h2
    simp [owTo, List.getD, h2]
theorem owTo_at {zs : List Int} {q : Int} {k : Nat} (h : k < zs.length) : (owTo zs q k).getD k 0 = zs.getD k 0 := by
  rw [List.getD, List.getElem?_eq_getElem (by rw [owTo_len]; exact h)]
  simp [owTo]
theorem owTo_turn {zs : List Int} {q : Int} {k : Nat} (h : inQ q k = false) : (owTo zs q k).set k (-1) = owTo zs q (k + 1) := by
  apply List.ext_getElem
  · simp [owTo]
  · intro j h1 h2
    rw [List.getElem_set]
    simp only [owTo, List.getElem_map, List.getElem_range]
    by_cases e : k = j
    · subst e; simp [h]
    · rw [if_neg e]
      by_cases h3 : j < k
      · have h4 : j < k + 1 := by omega
        simp [h3, h4]
      · have h4 : ¬ j < k + 1 := by omega
        simp [h3, h4]
theorem owTo_same {zs : List Int} {q : Int} {k : Nat} (h : inQ q k = true) : owTo zs q (k + 1) = owTo zs q k := by
  apply List.ext_getElem
  · simp [owTo]
  · intro j h1 h2
    simp only [owTo, List.getElem_map, List.getElem_range]
    by_cases e : j = k
    · subst e; simp [h]
    · by_cases h3 : j < k
      · have h4 : j < k + 1 := by omega
        simp [h3, h4]
      · have h4 : ¬ j < k + 1 := by omega
        simp [h3, h4]
/-- The numbers behind an answer. -/
def owA (zs : List Int) (m q : Int) (y : Bool) : List Int := if y = true then owTo zs q zs.length else afters zs m q false
theorem owA_yes (zs : List Int) (m q : Int) : owA zs m q true = owTo zs q zs.length := if_pos rfl
theorem owA_no (zs : List Int) (m q : Int) : owA zs m q false = afters zs m q false := if_neg (by simp)
theorem owA_len (zs : List Int) (m q : Int) (y : Bool) : (owA zs m q y).length = zs.length := by
  unfold owA
  split
  · rw [owTo_len]
  · rw [afters_len]
theorem ow_after (zs : List Int) (m q : Int) : owTo (afters zs m q true) q zs.length = owTo zs q zs.length := by
  apply List.ext_getElem
  · simp [owTo, afters_len]
  · intro j h1 h2
    have hj : j < zs.length := by rw [owTo_len] at h2; exact h2
    simp only [owTo, List.getElem_map, List.getElem_range]
    cases h : inQ q j with
    | false => simp [hj]
    | true =>
      simp only [Bool.true_eq_false, and_false, if_false]
      have e := aftTo_lt zs m q true zs.length j hj hj
      rw [h, show (true != true) = false from rfl, aft1_no] at e
      unfold afters
      rw [List.getD, e, List.getD, List.getD, List.getElem?_eq_getElem hj]
      rfl
theorem owA_isSt {zs : List Int} {m : Int} (q : Int) (y : Bool) (h : isSt zs m = true) : isSt (owA zs m q y) m = true := by
  cases y with
  | false => rw [owA_no]; exact afters_isSt _ _ h
  | true =>
    rw [owA_yes]
    have h0 := h
    have hl := isSt_len h
    unfold isSt at h ⊢
    simp only [Bool.and_eq_true] at h ⊢
    rw [owTo_len]
    refine ⟨h.1, ?_⟩
    rw [List.all_eq_true]
    intro x hx
    obtain ⟨j, hj, rfl⟩ := List.getElem_of_mem hx
    have hj' : j < zs.length := by rw [owTo_len] at hj; exact hj
    simp only [owTo, List.getElem_map, List.getElem_range]
    have h1 := isSt_at h0 hj'
    refine inB_iff.2 ?_
    split
    · omega
    · rw [List.getD, List.getElem?_eq_getElem hj']
      exact h1
/-- The state behind the first k answers. -/
def owSt (n : Nat) (m : Int) (l : List (Int × Bool)) : Nat → List Int
  | 0 => List.replicate n 0
  | k + 1 => owA (owSt n m l k) m (l.getD k (0, false)).1 (l.getD k (0, false)).2
theorem owSt_len (n : Nat) (m : Int) (l : List (Int × Bool)) : ∀ k, (owSt n m l k).length = n
  | 0 => by simp [owSt]
  | k + 1 => by rw [owSt, owA_len, owSt_len n m l k]
theorem owSt_ok {n : Nat} {m : Int} (l : List (Int × Bool)) (h1 : 1 ≤ n) (h2 : n ≤ 12) (h3 : 0 ≤ m) (h4 : m ≤ 2) : ∀ k, isSt (owSt n m l k) m = true
  | 0 => stTo_ok l h1 h2 h3 h4 0
  | k + 1 => by rw [owSt]; exact owA_isSt _ _ (owSt_ok l h1 h2 h3 h4 k)
end Go.Proofs.Ytdkffkgoalgjmac
