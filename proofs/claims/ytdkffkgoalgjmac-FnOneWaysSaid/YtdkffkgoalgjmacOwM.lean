/- What the law FnOneWays says of lists: what is open one way is open both ways. -/
import Derived.Test.YtdkffkgoalgjmacL10A
namespace Go.Proofs.Ytdkffkgoalgjmac
open Go.RowKit Go.ChangeShapes Go.WideShapes
set_option linter.unusedVariables false

theorem owTo_get {zs : List Int} {q : Int} {j : Nat} (hj : j < zs.length) : (owTo zs q zs.length)[j]? = some (if inQ q j = true then zs[j] else -1) := by
  rw [List.getElem?_eq_getElem (by rw [owTo_len]; exact hj)]
  simp only [owTo, List.getElem_map, List.getElem_range]
  cases h : inQ q j <;> simp [hj, List.getD]
theorem afters_get {zs : List Int} {m q : Int} {y : Bool} {j : Nat} (hj : j < zs.length) : (afters zs m q y)[j]? = some (aft1 m (y != inQ q j) zs[j]) := by
  have e := aftTo_lt zs m q y zs.length j hj hj
  rw [getD_at hj] at e
  exact e
theorem owA_get {zs : List Int} {m q : Int} {y : Bool} {j : Nat} (hj : j < zs.length) : (owA zs m q y)[j]? = some (if y = true then (if inQ q j = true then zs[j] else -1) else aft1 m (inQ q j) zs[j]) := by
  cases y with
  | true => rw [owA_yes, owTo_get hj]; rfl
  | false => rw [owA_no, afters_get hj]; simp
/-- What is open one way is open both ways, with as many false answers. -/
theorem ow_open {n : Nat} {m : Int} {l : List (Int × Bool)} : ∀ (k j : Nat) (x : Int), (owSt n m l k)[j]? = some x → 0 ≤ x → (stTo n m l k)[j]? = some x
  | 0, j, x, h, _ => h
  | k + 1, j, x, h, hx => by
    have hj : j < n := by
      have := (List.getElem?_eq_some_iff.1 h).1
      rw [owSt_len] at this
      exact this
    have hj1 : j < (owSt n m l k).length := by rw [owSt_len]; exact hj
    have hj2 : j < (stTo n m l k).length := by rw [stTo_len]; exact hj
    rw [owSt, owA_get hj1] at h
    rw [stTo, afters_get hj2]
    have ih := ow_open (n := n) (m := m) (l := l) k j ((owSt n m l k)[j]) (List.getElem?_eq_getElem hj1)
    generalize (owSt n m l k)[j] = z at h ih
    have hs : ∀ v, (stTo n m l k)[j]? = some v → (stTo n m l k)[j] = v := fun v e => by
      rw [List.getElem?_eq_getElem hj2] at e
      injection e
    generalize (l.getD k (0, false)).2 = y at h ⊢
    generalize inQ (l.getD k (0, false)).1 j = b at h ⊢
    injection h with h
    cases y with
    | true =>
      cases b with
      | true =>
        simp only [if_true] at h
        subst h
        rw [hs z (ih hx)]
        simp [aft1]
      | false => simp at h; omega
    | false =>
      simp only [Bool.false_eq_true, if_false] at h
      have hz : 0 ≤ z := by
        rcases Int.lt_or_le z 0 with h2 | h2
        · rw [aft1_neg (by omega)] at h; omega
        · exact h2
      rw [hs z (ih hz), ← h]
      simp
theorem list_same {n : Nat} {xs ys : List Int} (h1 : xs.length = n) (h2 : ys.length = n) (h : ∀ j, j < n → xs[j]? = ys[j]?) : xs = ys := by
  apply List.ext_getElem?
  intro j
  by_cases hj : j < n
  · exact h j hj
  · rw [List.getElem?_eq_none (by omega), List.getElem?_eq_none (by omega)]
/-- Answers that are all no, or no false answers at all: both are the same. -/
theorem ow_same {n : Nat} {m : Int} {l : List (Int × Bool)} (h1 : 1 ≤ n) (h12 : n ≤ 12) (hm0 : 0 ≤ m) (hm2 : m ≤ 2) (h : (∀ j, j < l.length → (l.getD j (0, false)).2 = false) ∨ m = 0) : ∀ k, k ≤ l.length → owSt n m l k = stTo n m l k
  | 0, _ => rfl
  | k + 1, hk => by
    have ih := ow_same (l := l) h1 h12 hm0 hm2 h k (by omega)
    have hok := stTo_ok l h1 h12 hm0 hm2 k
    have hln := stTo_len n m l k
    rw [owSt, stTo, ih]
    rcases h with h | h
    · rw [h k (by omega), owA_no]
    · subst h
      generalize stTo n 0 l k = zs at hok hln
      generalize (l.getD k (0, false)).2 = y
      generalize (l.getD k (0, false)).1 = q
      cases y with
      | false => rw [owA_no]
      | true =>
        refine list_same (n := zs.length) (owA_len _ _ _ _) (afters_len _ _ _ _) fun j hj => ?_
        rw [owA_get hj, afters_get hj]
        have hb := isSt_at hok hj
        cases hq : inQ q j with
        | true => simp [aft1]
        | false =>
          simp only [if_true, Bool.false_eq_true, if_false]
          congr 1
          show -1 = aft1 0 true zs[j]
          rcases Int.lt_or_le zs[j] 0 with h2 | h2
          · rw [aft1_neg (by omega)]; omega
          · rw [aft1_yes h2, if_pos (by omega)]
end Go.Proofs.Ytdkffkgoalgjmac
