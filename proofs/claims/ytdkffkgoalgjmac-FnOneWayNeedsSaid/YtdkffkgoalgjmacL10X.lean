/- What l10Needs finds: lists alone. -/
import Derived.Test.YtdkffkgoalgjmacL10N
import Derived.Test.YtdkffkgoalgjmacWithin
namespace Go.Proofs.Ytdkffkgoalgjmac
open Go.RowKit Go.ChangeShapes Go.WideShapes
set_option linter.unusedVariables false

/-- What is found behind so many rounds: the needs below round, -1 else. -/
def foundAtO (round k : Nat) : Int := if rsum (rowK k) ≤ 8 ∧ needO (rowK k) < round then ((needO (rowK k) : Nat) : Int) else -1
/-- The keys below top that are left. -/
def leftKO (round : Nat) : Nat → List Int
  | 0 => []
  | k + 1 => leftKO round k ++ (if rsum (rowK k) ≤ 8 ∧ round ≤ needO (rowK k) then [(k : Int)] else [])
theorem left_memO {round : Nat} : ∀ {top : Nat} {x : Int}, x ∈ leftKO round top → ∃ k : Nat, x = (k : Int) ∧ k < top ∧ rsum (rowK k) ≤ 8 ∧ round ≤ needO (rowK k)
  | 0, x, h => by cases h
  | t + 1, x, h => by
    unfold leftKO at h
    rcases List.mem_append.1 h with h | h
    · obtain ⟨k, e, h1, h2⟩ := left_memO h
      exact ⟨k, e, by omega, h2⟩
    · split at h
      · rename_i hc
        simp at h
        exact ⟨t, h, by omega, hc⟩
      · cases h
theorem left_lenO (round : Nat) : ∀ top, (leftKO round top).length ≤ top
  | 0 => Nat.le_refl _
  | t + 1 => by
    have := left_lenO round t
    unfold leftKO
    split <;> simp <;> omega
theorem left_noneO {round top : Nat} (h : 10 ≤ round) : leftKO round top = [] := by
  cases hl : leftKO round top with
  | nil => rfl
  | cons x l =>
    have hx : x ∈ leftKO round top := by rw [hl]; simp
    obtain ⟨k, _, _, h8, hr⟩ := left_memO hx
    have := needO_le h8
    omega
/-- Of what is left, what is found in a round, and what stays. -/
theorem left_filterO (round : Nat) : ∀ top, (leftKO round top).filter (fun x => decide (round < needO (rowK x.toNat))) = leftKO (round + 1) top
  | 0 => rfl
  | t + 1 => by
    unfold leftKO
    rw [List.filter_append, left_filterO round t]
    by_cases h : rsum (rowK t) ≤ 8 ∧ round ≤ needO (rowK t)
    · rw [if_pos h]
      by_cases h2 : round + 1 ≤ needO (rowK t)
      · rw [if_pos ⟨h.1, h2⟩]
        have : round < needO (rowK t) := by omega
        simp [this]
      · rw [if_neg (fun q => h2 q.2)]
        have : ¬ round < needO (rowK t) := by omega
        simp [this]
    · rw [if_neg h, if_neg (fun q => h ⟨q.1, by omega⟩)]
      rfl
/-- The needs that are found behind so many rounds, by key. -/
def foundLO (p rd : Nat) : List Int := (List.range (9 ^ p)).map fun k => foundAtO rd k
theorem foundL_lenO (p rd : Nat) : (foundLO p rd).length = 9 ^ p := by simp [foundLO]
theorem foundL_atO {p rd k : Nat} (h : k < (foundLO p rd).length) : (foundLO p rd)[k] = foundAtO rd k := by simp [foundLO]
theorem found_keyO {rd : Nat} {r : Row} (h8 : rsum r ≤ 8) : foundAtO rd (keyR r) = if needO r < rd then ((needO r : Nat) : Int) else -1 := by
  unfold foundAtO
  rw [rowK_key h8]
  simp [h8]
theorem found_posO {rd : Nat} {r : Row} (h8 : rsum r ≤ 8) : 0 ≤ foundAtO rd (keyR r) ↔ needO r < rd := by
  rw [found_keyO h8]
  split
  · constructor
    · intro _; assumption
    · intro _; omega
  · constructor
    · intro h; omega
    · intro h; contradiction
def fndTO (top rd : Nat) : List Int := (List.range top).map fun k => foundAtO rd k
theorem fndT_lenO (top rd : Nat) : (fndTO top rd).length = top := by simp [fndTO]
/-- The first k keys of the first round. -/
def n1ToO (top k : Nat) : List Int := (List.range top).map fun j => if j < k then foundAtO 1 j else 0
theorem n1To_lenO (top k : Nat) : (n1ToO top k).length = top := by simp [n1ToO]
theorem n1To_zeroO (top : Nat) : n1ToO top 0 = List.replicate top 0 := by
  apply List.ext_getElem
  · simp [n1ToO]
  · intro j h1 h2; simp [n1ToO]
theorem n1To_allO (top : Nat) : n1ToO top top = fndTO top 1 := by
  apply List.ext_getElem
  · simp [n1ToO, fndTO]
  · intro j h1 h2
    have : j < top := by simpa [n1ToO] using h1
    simp [n1ToO, fndTO, this]
theorem n1To_setO (top k : Nat) : (n1ToO top k).set k (foundAtO 1 k) = n1ToO top (k + 1) := by
  apply List.ext_getElem
  · simp [n1ToO]
  · intro j h1 h2
    rw [List.getElem_set]
    by_cases h : k = j
    · subst h; simp [n1ToO]
    · rw [if_neg h]
      simp only [n1ToO, List.getElem_map, List.getElem_range]
      by_cases h3 : j < k
      · rw [if_pos h3, if_pos (by omega)]
      · rw [if_neg h3, if_neg (by omega)]
theorem found_oneO (k : Nat) : foundAtO 1 k = if rsum (rowK k) ≤ 1 then 0 else -1 := by
  unfold foundAtO
  by_cases h : rsum (rowK k) ≤ 1
  · rw [if_pos h, if_pos ⟨by omega, by rw [needO_told h]; omega⟩, needO_told h]; rfl
  · rw [if_neg h, if_neg]
    rintro ⟨h8, h2⟩
    have := needO_pos (r := rowK k) (by omega) h8
    omega
theorem left_toldO {k : Nat} (h : rsum (rowK k) ≤ 1) : leftKO 1 (k + 1) = leftKO 1 k := by
  show leftKO 1 k ++ _ = _
  rw [if_neg (by rw [needO_told h]; omega), List.append_nil]
theorem left_noO {k : Nat} (h : ¬ rsum (rowK k) ≤ 8) : leftKO 1 (k + 1) = leftKO 1 k := by
  show leftKO 1 k ++ _ = _
  rw [if_neg (fun q => h q.1), List.append_nil]
theorem left_yesO {k : Nat} (h : ¬ rsum (rowK k) ≤ 1) (h8 : rsum (rowK k) ≤ 8) : leftKO 1 (k + 1) = leftKO 1 k ++ [(k : Int)] := by
  show leftKO 1 k ++ _ = _
  rw [if_pos ⟨h8, needO_pos (by omega) h8⟩]
theorem mem_leftO {rd : Nat} : ∀ {top j : Nat}, (j : Int) ∈ leftKO rd top ↔ j < top ∧ rsum (rowK j) ≤ 8 ∧ rd ≤ needO (rowK j)
  | 0, j => by simp [leftKO]
  | t + 1, j => by
    unfold leftKO
    rw [List.mem_append, mem_leftO]
    by_cases h : rsum (rowK t) ≤ 8 ∧ rd ≤ needO (rowK t)
    · rw [if_pos h]
      simp only [List.mem_singleton]
      constructor
      · rintro (⟨h1, h2⟩ | e)
        · exact ⟨by omega, h2⟩
        · have e : j = t := by omega
          subst e
          exact ⟨by omega, h⟩
      · rintro ⟨h1, h2⟩
        by_cases e : j = t
        · exact .inr (by omega)
        · exact .inl ⟨by omega, h2⟩
    · rw [if_neg h]
      simp only [List.not_mem_nil, or_false]
      constructor
      · rintro ⟨h1, h2⟩; exact ⟨by omega, h2⟩
      · rintro ⟨h1, h2⟩
        refine ⟨?_, h2⟩
        by_cases e : j = t
        · subst e; exact absurd h2 h
        · omega
def isFO (rd : Nat) (x : Int) : Bool := decide (needO (rowK x.toNat) ≤ rd)
def fToO (rd top i : Nat) : List Int := ((leftKO rd top).take i).filter (isFO rd)
def mToO (rd top i : Nat) : List Int := ((leftKO rd top).take i).filter (fun x => !isFO rd x)
theorem fTo_yesO {rd top i : Nat} (hi : i < (leftKO rd top).length) (h : isFO rd (leftKO rd top)[i] = true) : fToO rd top (i + 1) = fToO rd top i ++ [(leftKO rd top)[i]] ∧ mToO rd top (i + 1) = mToO rd top i := by
  unfold fToO mToO
  rw [List.take_succ_eq_append_getElem hi, List.filter_append, List.filter_append]
  simp [h]
theorem fTo_noO {rd top i : Nat} (hi : i < (leftKO rd top).length) (h : isFO rd (leftKO rd top)[i] = false) : fToO rd top (i + 1) = fToO rd top i ∧ mToO rd top (i + 1) = mToO rd top i ++ [(leftKO rd top)[i]] := by
  unfold fToO mToO
  rw [List.take_succ_eq_append_getElem hi, List.filter_append, List.filter_append]
  simp [h]
theorem fTo_lenO (rd top i : Nat) : (fToO rd top i).length ≤ top ∧ (mToO rd top i).length ≤ top := by
  have h1 := left_lenO rd top
  have h2 := List.length_filter_le (isFO rd) ((leftKO rd top).take i)
  have h3 := List.length_filter_le (fun x => !isFO rd x) ((leftKO rd top).take i)
  have h4 : ((leftKO rd top).take i).length ≤ (leftKO rd top).length := by rw [List.length_take]; omega
  unfold fToO mToO
  omega
theorem mTo_allO (rd top : Nat) : mToO rd top (leftKO rd top).length = leftKO (rd + 1) top := by
  unfold mToO
  rw [List.take_length, ← left_filterO]
  apply List.filter_congr
  intro x _
  unfold isFO
  rw [Bool.eq_iff_iff]
  simp
/-- The needs while those that are found are being told: the first i are. -/
def sToO (rd top i : Nat) : List Int := (List.range top).map fun (j : Nat) => if (j : Int) ∈ (fToO rd top (leftKO rd top).length).take i then ((rd : Nat) : Int) else foundAtO rd j
theorem sTo_lenO (rd top i : Nat) : (sToO rd top i).length = top := by simp [sToO]
theorem sTo_zeroO (rd top : Nat) : sToO rd top 0 = fndTO top rd := by simp [sToO, fndTO]
theorem f_memO {rd top : Nat} {x : Int} (h : x ∈ fToO rd top (leftKO rd top).length) : ∃ k : Nat, x = (k : Int) ∧ k < top ∧ rsum (rowK k) ≤ 8 ∧ needO (rowK k) = rd := by
  unfold fToO at h
  rw [List.take_length, List.mem_filter] at h
  obtain ⟨k, rfl, h1, h2, h3⟩ := left_memO h.1
  refine ⟨k, rfl, h1, h2, ?_⟩
  have := h.2
  simp only [isFO, Int.toNat_natCast, decide_eq_true_eq] at this
  omega
theorem sTo_setO {rd top i k : Nat} (hi : i < (fToO rd top (leftKO rd top).length).length) (hk : (fToO rd top (leftKO rd top).length)[i] = (k : Int)) : (sToO rd top i).set k ((rd : Nat) : Int) = sToO rd top (i + 1) := by
  apply List.ext_getElem
  · simp [sToO]
  · intro j h1 h2
    rw [List.getElem_set]
    simp only [sToO, List.getElem_map, List.getElem_range]
    rw [List.take_succ_eq_append_getElem hi, hk]
    by_cases h : k = j
    · subst h; simp
    · rw [if_neg h]
      have : ¬ ((j : Int) = (k : Int)) := by omega
      simp [this]
theorem sTo_allO {rd top : Nat} : sToO rd top (fToO rd top (leftKO rd top).length).length = fndTO top (rd + 1) := by
  apply List.ext_getElem
  · simp [sToO, fndTO]
  · intro j h1 h2
    have hj : j < top := by simpa [sToO] using h1
    simp only [sToO, fndTO, List.getElem_map, List.getElem_range, List.take_length]
    by_cases h : (j : Int) ∈ fToO rd top (leftKO rd top).length
    · rw [if_pos h]
      obtain ⟨k, e, _, h8, hn⟩ := f_memO h
      have e : j = k := by omega
      subst e
      unfold foundAtO
      rw [if_pos ⟨h8, by omega⟩, hn]
    · rw [if_neg h]
      unfold foundAtO
      by_cases h3 : rsum (rowK j) ≤ 8 ∧ needO (rowK j) < rd
      · rw [if_pos h3, if_pos ⟨h3.1, by omega⟩]
      · rw [if_neg h3, if_neg]
        rintro ⟨h8, hn⟩
        refine h ?_
        unfold fToO
        rw [List.take_length, List.mem_filter, mem_leftO]
        refine ⟨⟨hj, h8, by omega⟩, ?_⟩
        simp only [isFO, Int.toNat_natCast, decide_eq_true_eq]
        omega
theorem fnd_doneO {rd top : Nat} (h : leftKO rd top = []) (hr : rd ≤ 10) : fndTO top rd = fndTO top 10 := by
  apply List.ext_getElem
  · simp [fndTO]
  · intro j h1 h2
    have hj : j < top := by simpa [fndTO] using h1
    simp only [fndTO, List.getElem_map, List.getElem_range]
    unfold foundAtO
    by_cases h8 : rsum (rowK j) ≤ 8
    · have hn : needO (rowK j) < rd := by
        rcases Nat.lt_or_ge (needO (rowK j)) rd with h3 | h3
        · exact h3
        · have : (j : Int) ∈ leftKO rd top := mem_leftO.2 ⟨hj, h8, h3⟩
          rw [h] at this; cases this
      rw [if_pos ⟨h8, hn⟩, if_pos ⟨h8, by omega⟩]
    · rw [if_neg (fun q => h8 q.1), if_neg (fun q => h8 q.1)]

theorem foundO_all {r : Row} (h8 : rsum r ≤ 8) : foundAtO 10 (keyR r) = ((needO r : Nat) : Int) := by
  rw [found_keyO h8, if_pos (by have := needO_le h8; omega)]
end Go.Proofs.Ytdkffkgoalgjmac
