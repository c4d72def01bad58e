/- What l4Needs finds: lists alone. -/
import Derived.Test.YthpnkeecpaflfaaWithin
namespace Go.Proofs.Ythpnkeecpaflfaa
open Go.RowKit Go.ChangeShapes Go.WideShapes
set_option linter.unusedVariables false

def fndT (top rd : Nat) : List Int := (List.range top).map fun k => foundAt rd k
theorem fndT_len (top rd : Nat) : (fndT top rd).length = top := by simp [fndT]
/-- The first k keys of the first round. -/
def n1To (top k : Nat) : List Int := (List.range top).map fun j => if j < k then foundAt 1 j else 0
theorem n1To_len (top k : Nat) : (n1To top k).length = top := by simp [n1To]
theorem n1To_zero (top : Nat) : n1To top 0 = List.replicate top 0 := by
  apply List.ext_getElem
  · simp [n1To]
  · intro j h1 h2; simp [n1To]
theorem n1To_all (top : Nat) : n1To top top = fndT top 1 := by
  apply List.ext_getElem
  · simp [n1To, fndT]
  · intro j h1 h2
    have : j < top := by simpa [n1To] using h1
    simp [n1To, fndT, this]
theorem n1To_set (top k : Nat) : (n1To top k).set k (foundAt 1 k) = n1To top (k + 1) := by
  apply List.ext_getElem
  · simp [n1To]
  · intro j h1 h2
    rw [List.getElem_set]
    by_cases h : k = j
    · subst h; simp [n1To]
    · rw [if_neg h]
      simp only [n1To, List.getElem_map, List.getElem_range]
      by_cases h3 : j < k
      · rw [if_pos h3, if_pos (by omega)]
      · rw [if_neg h3, if_neg (by omega)]
theorem found_one (k : Nat) : foundAt 1 k = if rsum (rowK k) ≤ 1 then 0 else -1 := by
  unfold foundAt
  by_cases h : rsum (rowK k) ≤ 1
  · rw [if_pos h, if_pos ⟨by omega, by rw [need_told h]; omega⟩, need_told h]; rfl
  · rw [if_neg h, if_neg]
    rintro ⟨h8, h2⟩
    have := need_pos (r := rowK k) (by omega) h8
    omega
theorem left_told {k : Nat} (h : rsum (rowK k) ≤ 1) : leftK 1 (k + 1) = leftK 1 k := by
  show leftK 1 k ++ _ = _
  rw [if_neg (by rw [need_told h]; omega), List.append_nil]
theorem left_no {k : Nat} (h : ¬ rsum (rowK k) ≤ 8) : leftK 1 (k + 1) = leftK 1 k := by
  show leftK 1 k ++ _ = _
  rw [if_neg (fun q => h q.1), List.append_nil]
theorem left_yes {k : Nat} (h : ¬ rsum (rowK k) ≤ 1) (h8 : rsum (rowK k) ≤ 8) : leftK 1 (k + 1) = leftK 1 k ++ [(k : Int)] := by
  show leftK 1 k ++ _ = _
  rw [if_pos ⟨h8, need_pos (by omega) h8⟩]
theorem mem_left {rd : Nat} : ∀ {top j : Nat}, (j : Int) ∈ leftK rd top ↔ j < top ∧ rsum (rowK j) ≤ 8 ∧ rd ≤ needR (rowK j)
  | 0, j => by simp [leftK]
  | t + 1, j => by
    unfold leftK
    rw [List.mem_append, mem_left]
    by_cases h : rsum (rowK t) ≤ 8 ∧ rd ≤ needR (rowK t)
    · rw [if_pos h]
      simp only [List.mem_singleton]
      constructor
      · rintro (⟨h1, h2⟩ | e)
        · exact ⟨by omega, h2⟩
        · have e : j = t := by omega
          subst e
          exact ⟨by omega, h⟩
      · rintro ⟨h1, h2⟩
        by_cases e : j = t
        · exact .inr (by omega)
        · exact .inl ⟨by omega, h2⟩
    · rw [if_neg h]
      simp only [List.not_mem_nil, or_false]
      constructor
      · rintro ⟨h1, h2⟩; exact ⟨by omega, h2⟩
      · rintro ⟨h1, h2⟩
        refine ⟨?_, h2⟩
        by_cases e : j = t
        · subst e; exact absurd h2 h
        · omega
def isF (rd : Nat) (x : Int) : Bool := decide (needR (rowK x.toNat) ≤ rd)
def fTo (rd top i : Nat) : List Int := ((leftK rd top).take i).filter (isF rd)
def mTo (rd top i : Nat) : List Int := ((leftK rd top).take i).filter (fun x => !isF rd x)
theorem fTo_yes {rd top i : Nat} (hi : i < (leftK rd top).length) (h : isF rd (leftK rd top)[i] = true) : fTo rd top (i + 1) = fTo rd top i ++ [(leftK rd top)[i]] ∧ mTo rd top (i + 1) = mTo rd top i := by
  unfold fTo mTo
  rw [List.take_succ_eq_append_getElem hi, List.filter_append, List.filter_append]
  simp [h]
theorem fTo_no {rd top i : Nat} (hi : i < (leftK rd top).length) (h : isF rd (leftK rd top)[i] = false) : fTo rd top (i + 1) = fTo rd top i ∧ mTo rd top (i + 1) = mTo rd top i ++ [(leftK rd top)[i]] := by
  unfold fTo mTo
  rw [List.take_succ_eq_append_getElem hi, List.filter_append, List.filter_append]
  simp [h]
theorem fTo_len (rd top i : Nat) : (fTo rd top i).length ≤ top ∧ (mTo rd top i).length ≤ top := by
  have h1 := left_len rd top
  have h2 := List.length_filter_le (isF rd) ((leftK rd top).take i)
  have h3 := List.length_filter_le (fun x => !isF rd x) ((leftK rd top).take i)
  have h4 : ((leftK rd top).take i).length ≤ (leftK rd top).length := by rw [List.length_take]; omega
  unfold fTo mTo
  omega
theorem mTo_all (rd top : Nat) : mTo rd top (leftK rd top).length = leftK (rd + 1) top := by
  unfold mTo
  rw [List.take_length, ← left_filter]
  apply List.filter_congr
  intro x _
  unfold isF
  rw [Bool.eq_iff_iff]
  simp
/-- The needs while those that are found are being told: the first i are. -/
def sTo (rd top i : Nat) : List Int := (List.range top).map fun (j : Nat) => if (j : Int) ∈ (fTo rd top (leftK rd top).length).take i then ((rd : Nat) : Int) else foundAt rd j
theorem sTo_len (rd top i : Nat) : (sTo rd top i).length = top := by simp [sTo]
theorem sTo_zero (rd top : Nat) : sTo rd top 0 = fndT top rd := by simp [sTo, fndT]
theorem f_mem {rd top : Nat} {x : Int} (h : x ∈ fTo rd top (leftK rd top).length) : ∃ k : Nat, x = (k : Int) ∧ k < top ∧ rsum (rowK k) ≤ 8 ∧ needR (rowK k) = rd := by
  unfold fTo at h
  rw [List.take_length, List.mem_filter] at h
  obtain ⟨k, rfl, h1, h2, h3⟩ := left_mem h.1
  refine ⟨k, rfl, h1, h2, ?_⟩
  have := h.2
  simp only [isF, Int.toNat_natCast, decide_eq_true_eq] at this
  omega
theorem sTo_set {rd top i k : Nat} (hi : i < (fTo rd top (leftK rd top).length).length) (hk : (fTo rd top (leftK rd top).length)[i] = (k : Int)) : (sTo rd top i).set k ((rd : Nat) : Int) = sTo rd top (i + 1) := by
  apply List.ext_getElem
  · simp [sTo]
  · intro j h1 h2
    rw [List.getElem_set]
    simp only [sTo, List.getElem_map, List.getElem_range]
    rw [List.take_succ_eq_append_getElem hi, hk]
    by_cases h : k = j
    · subst h; simp
    · rw [if_neg h]
      have : ¬ ((j : Int) = (k : Int)) := by omega
      simp [this]
theorem sTo_all {rd top : Nat} : sTo rd top (fTo rd top (leftK rd top).length).length = fndT top (rd + 1) := by
  apply List.ext_getElem
  · simp [sTo, fndT]
  · intro j h1 h2
    have hj : j < top := by simpa [sTo] using h1
    simp only [sTo, fndT, List.getElem_map, List.getElem_range, List.take_length]
    by_cases h : (j : Int) ∈ fTo rd top (leftK rd top).length
    · rw [if_pos h]
      obtain ⟨k, e, _, h8, hn⟩ := f_mem h
      have e : j = k := by omega
      subst e
      unfold foundAt
      rw [if_pos ⟨h8, by omega⟩, hn]
    · rw [if_neg h]
      unfold foundAt
      by_cases h3 : rsum (rowK j) ≤ 8 ∧ needR (rowK j) < rd
      · rw [if_pos h3, if_pos ⟨h3.1, by omega⟩]
      · rw [if_neg h3, if_neg]
        rintro ⟨h8, hn⟩
        refine h ?_
        unfold fTo
        rw [List.take_length, List.mem_filter, mem_left]
        refine ⟨⟨hj, h8, by omega⟩, ?_⟩
        simp only [isF, Int.toNat_natCast, decide_eq_true_eq]
        omega
theorem comp_key {k : Nat} (hk : k < 729) (i : Nat) : compR (rowK k) i ≤ 8 := by
  match i with
  | 0 => simp only [compR, rowK]; omega
  | 1 => simp only [compR, rowK]; omega
  | _ + 2 => simp only [compR, rowK]; omega
end Go.Proofs.Ythpnkeecpaflfaa
