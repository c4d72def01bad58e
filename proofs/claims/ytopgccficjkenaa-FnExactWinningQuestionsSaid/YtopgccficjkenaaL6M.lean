/- What a search from below finds, round by round: lists alone. nd: how many rounds a number wants. -/
import Derived.Test.YtopgccficjkenaaL6N
namespace Go.Proofs.Ytopgccficjkenaa
open Go.RowKit Go.ChangeShapes Go.WideShapes
set_option linter.unusedVariables false

def foundC (nd : Nat → Nat) (rd k : Nat) : Int := if nd k < rd then (nd k : Int) else -1
theorem foundC_pos {nd : Nat → Nat} {rd k : Nat} : 0 ≤ foundC nd rd k ↔ nd k < rd := by
  unfold foundC
  split
  · exact ⟨fun _ => by assumption, fun _ => by omega⟩
  · exact ⟨fun h => by omega, fun h => by contradiction⟩
def fndC (nd : Nat → Nat) (top rd : Nat) : List Int := (List.range top).map fun k => foundC nd rd k
theorem fndC_len (nd : Nat → Nat) (top rd : Nat) : (fndC nd top rd).length = top := by simp [fndC]
theorem fndC_at {nd : Nat → Nat} {top rd k : Nat} (h : k < (fndC nd top rd).length) : (fndC nd top rd)[k] = foundC nd rd k := by simp [fndC]
def leftC (nd : Nat → Nat) (rd : Nat) : Nat → List Int
  | 0 => []
  | t + 1 => leftC nd rd t ++ (if rd ≤ nd t then [(t : Int)] else [])
theorem leftC_len (nd : Nat → Nat) (rd : Nat) : ∀ t, (leftC nd rd t).length ≤ t
  | 0 => Nat.le_refl _
  | t + 1 => by
    have := leftC_len nd rd t
    rw [leftC, List.length_append]
    split <;> simp <;> omega
/-- The first k keys of the first round. -/
def n1C (nd : Nat → Nat) (top k : Nat) : List Int := (List.range top).map fun j => if j < k then foundC nd 1 j else 0
theorem n1C_len (nd : Nat → Nat) (top k : Nat) : (n1C nd top k).length = top := by simp [n1C]
theorem n1C_zero (nd : Nat → Nat) (top : Nat) : n1C nd top 0 = List.replicate top 0 := by
  apply List.ext_getElem
  · simp [n1C]
  · intro j h1 h2; simp [n1C]
theorem n1C_all (nd : Nat → Nat) (top : Nat) : n1C nd top top = fndC nd top 1 := by
  apply List.ext_getElem
  · simp [n1C, fndC]
  · intro j h1 h2
    have : j < top := by simpa [n1C] using h1
    simp [n1C, fndC, this]
theorem n1C_set (nd : Nat → Nat) (top k : Nat) : (n1C nd top k).set k (foundC nd 1 k) = n1C nd top (k + 1) := by
  apply List.ext_getElem
  · simp [n1C]
  · intro j h1 h2
    rw [List.getElem_set]
    by_cases h : k = j
    · subst h; simp [n1C]
    · rw [if_neg h]
      simp only [n1C, List.getElem_map, List.getElem_range]
      by_cases h3 : j < k
      · rw [if_pos h3, if_pos (by omega)]
      · rw [if_neg h3, if_neg (by omega)]
theorem foundC_one (nd : Nat → Nat) (k : Nat) : foundC nd 1 k = if nd k = 0 then 0 else -1 := by
  unfold foundC
  by_cases h : nd k = 0
  · rw [if_pos h, if_pos (by omega), h]; rfl
  · rw [if_neg h, if_neg (by omega)]
theorem leftC_told {nd : Nat → Nat} {k : Nat} (h : nd k = 0) : leftC nd 1 (k + 1) = leftC nd 1 k := by
  show leftC nd 1 k ++ _ = _
  rw [if_neg (by omega), List.append_nil]
theorem leftC_yes {nd : Nat → Nat} {k : Nat} (h : ¬ nd k = 0) : leftC nd 1 (k + 1) = leftC nd 1 k ++ [(k : Int)] := by
  show leftC nd 1 k ++ _ = _
  rw [if_pos (by omega)]
theorem mem_leftC {nd : Nat → Nat} {rd : Nat} : ∀ {top j : Nat}, (j : Int) ∈ leftC nd rd top ↔ j < top ∧ rd ≤ nd j
  | 0, j => by simp [leftC]
  | t + 1, j => by
    unfold leftC
    rw [List.mem_append, mem_leftC]
    by_cases h : rd ≤ nd t
    · rw [if_pos h]
      simp only [List.mem_singleton]
      constructor
      · rintro (⟨h1, h2⟩ | e)
        · exact ⟨by omega, h2⟩
        · have e : j = t := by omega
          subst e
          exact ⟨by omega, h⟩
      · rintro ⟨h1, h2⟩
        by_cases e : j = t
        · exact .inr (by omega)
        · exact .inl ⟨by omega, h2⟩
    · rw [if_neg h]
      simp only [List.not_mem_nil, or_false]
      constructor
      · rintro ⟨h1, h2⟩; exact ⟨by omega, h2⟩
      · rintro ⟨h1, h2⟩
        refine ⟨?_, h2⟩
        by_cases e : j = t
        · subst e; exact absurd h2 h
        · omega
theorem leftC_mem {nd : Nat → Nat} {rd : Nat} : ∀ {top : Nat} {x : Int}, x ∈ leftC nd rd top → ∃ k : Nat, x = (k : Int) ∧ k < top ∧ rd ≤ nd k
  | 0, x, h => by simp [leftC] at h
  | t + 1, x, h => by
    rw [leftC, List.mem_append] at h
    rcases h with h | h
    · obtain ⟨k, e, h1, h2⟩ := leftC_mem h
      exact ⟨k, e, by omega, h2⟩
    · split at h
      · simp only [List.mem_singleton] at h
        exact ⟨t, h, by omega, by assumption⟩
      · cases h
theorem leftC_filter (nd : Nat → Nat) (rd : Nat) : ∀ top, (leftC nd rd top).filter (fun x => !decide (nd x.toNat ≤ rd)) = leftC nd (rd + 1) top
  | 0 => rfl
  | t + 1 => by
    rw [leftC, List.filter_append, leftC_filter nd rd t, leftC]
    congr 1
    by_cases h : rd ≤ nd t
    · rw [if_pos h]
      by_cases h2 : rd + 1 ≤ nd t
      · rw [if_pos h2, List.filter_cons, if_pos (by simp; omega)]; rfl
      · rw [if_neg h2, List.filter_cons, if_neg (by simp; omega)]; rfl
    · rw [if_neg h, if_neg (by omega)]; rfl
def isFC (nd : Nat → Nat) (rd : Nat) (x : Int) : Bool := decide (nd x.toNat ≤ rd)
def fC (nd : Nat → Nat) (rd top i : Nat) : List Int := ((leftC nd rd top).take i).filter (isFC nd rd)
def mC (nd : Nat → Nat) (rd top i : Nat) : List Int := ((leftC nd rd top).take i).filter (fun x => !isFC nd rd x)
theorem fC_yes {nd : Nat → Nat} {rd top i : Nat} (hi : i < (leftC nd rd top).length) (h : isFC nd rd (leftC nd rd top)[i] = true) : fC nd rd top (i + 1) = fC nd rd top i ++ [(leftC nd rd top)[i]] ∧ mC nd rd top (i + 1) = mC nd rd top i := by
  unfold fC mC
  rw [List.take_succ_eq_append_getElem hi, List.filter_append, List.filter_append]
  simp [h]
theorem fC_no {nd : Nat → Nat} {rd top i : Nat} (hi : i < (leftC nd rd top).length) (h : isFC nd rd (leftC nd rd top)[i] = false) : fC nd rd top (i + 1) = fC nd rd top i ∧ mC nd rd top (i + 1) = mC nd rd top i ++ [(leftC nd rd top)[i]] := by
  unfold fC mC
  rw [List.take_succ_eq_append_getElem hi, List.filter_append, List.filter_append]
  simp [h]
theorem fC_len (nd : Nat → Nat) (rd top i : Nat) : (fC nd rd top i).length ≤ top ∧ (mC nd rd top i).length ≤ top := by
  have h1 := leftC_len nd rd top
  have h2 := List.length_filter_le (isFC nd rd) ((leftC nd rd top).take i)
  have h3 := List.length_filter_le (fun x => !isFC nd rd x) ((leftC nd rd top).take i)
  have h4 : ((leftC nd rd top).take i).length ≤ (leftC nd rd top).length := by rw [List.length_take]; omega
  unfold fC mC
  omega
theorem mC_all (nd : Nat → Nat) (rd top : Nat) : mC nd rd top (leftC nd rd top).length = leftC nd (rd + 1) top := by
  unfold mC
  rw [List.take_length, ← leftC_filter]
  rfl
/-- The needs while those that are found are being told: the first i are. -/
def sC (nd : Nat → Nat) (rd top i : Nat) : List Int := (List.range top).map fun (j : Nat) => if (j : Int) ∈ (fC nd rd top (leftC nd rd top).length).take i then ((rd : Nat) : Int) else foundC nd rd j
theorem sC_len (nd : Nat → Nat) (rd top i : Nat) : (sC nd rd top i).length = top := by simp [sC]
theorem sC_zero (nd : Nat → Nat) (rd top : Nat) : sC nd rd top 0 = fndC nd top rd := by simp [sC, fndC]
theorem fC_mem {nd : Nat → Nat} {rd top : Nat} {x : Int} (h : x ∈ fC nd rd top (leftC nd rd top).length) : ∃ k : Nat, x = (k : Int) ∧ k < top ∧ nd k = rd := by
  unfold fC at h
  rw [List.take_length, List.mem_filter] at h
  obtain ⟨k, rfl, h1, h2⟩ := leftC_mem h.1
  refine ⟨k, rfl, h1, ?_⟩
  have := h.2
  simp only [isFC, Int.toNat_natCast, decide_eq_true_eq] at this
  omega
theorem sC_set {nd : Nat → Nat} {rd top i k : Nat} (hi : i < (fC nd rd top (leftC nd rd top).length).length) (hk : (fC nd rd top (leftC nd rd top).length)[i] = (k : Int)) : (sC nd rd top i).set k ((rd : Nat) : Int) = sC nd rd top (i + 1) := by
  apply List.ext_getElem
  · simp [sC]
  · intro j h1 h2
    rw [List.getElem_set]
    simp only [sC, List.getElem_map, List.getElem_range]
    rw [List.take_succ_eq_append_getElem hi, hk]
    by_cases h : k = j
    · subst h; simp
    · rw [if_neg h]
      have : ¬ ((j : Int) = (k : Int)) := by omega
      simp [this]
theorem sC_all {nd : Nat → Nat} {rd top : Nat} : sC nd rd top (fC nd rd top (leftC nd rd top).length).length = fndC nd top (rd + 1) := by
  apply List.ext_getElem
  · simp [sC, fndC]
  · intro j h1 h2
    have hj : j < top := by simpa [sC] using h1
    simp only [sC, fndC, List.getElem_map, List.getElem_range, List.take_length]
    by_cases h : (j : Int) ∈ fC nd rd top (leftC nd rd top).length
    · rw [if_pos h]
      obtain ⟨k, e, _, hn⟩ := fC_mem h
      have e : j = k := by omega
      subst e
      unfold foundC
      rw [if_pos (by omega), hn]
    · rw [if_neg h]
      unfold foundC
      by_cases h3 : nd j < rd
      · rw [if_pos h3, if_pos (by omega)]
      · rw [if_neg h3, if_neg]
        intro hn
        refine h ?_
        unfold fC
        rw [List.take_length, List.mem_filter, mem_leftC]
        refine ⟨⟨hj, by omega⟩, ?_⟩
        simp only [isFC, Int.toNat_natCast, decide_eq_true_eq]
        omega
theorem fndC_done {nd : Nat → Nat} {rd top B : Nat} (h : leftC nd rd top = []) (hr : rd ≤ B) : fndC nd top rd = fndC nd top B := by
  apply List.ext_getElem
  · simp [fndC]
  · intro j h1 h2
    have hj : j < top := by simpa [fndC] using h1
    simp only [fndC, List.getElem_map, List.getElem_range]
    unfold foundC
    have hn : nd j < rd := by
      rcases Nat.lt_or_ge (nd j) rd with h3 | h3
      · exact h3
      · have : (j : Int) ∈ leftC nd rd top := mem_leftC.2 ⟨hj, h3⟩
        rw [h] at this; cases this
    rw [if_pos hn, if_pos (by omega)]
theorem leftC_none {nd : Nat → Nat} {rd top B : Nat} (hB : ∀ k, k < top → nd k < B) (h : B ≤ rd) : leftC nd rd top = [] := by
  rcases List.eq_nil_or_concat (leftC nd rd top) with h0 | ⟨l, x, e⟩
  · exact h0
  · have : x ∈ leftC nd rd top := by rw [e]; simp
    obtain ⟨k, _, h1, h2⟩ := leftC_mem this
    have := hB k h1
    omega

/-- The need of a state's number. -/
def ndK (M n key : Nat) : Nat := needL M (stOf M n key)
theorem stOf_fit (M : Nat) : ∀ n key, fitS M (stOf M n key)
  | 0, key => fun z hz => by cases hz
  | n + 1, key => fun z hz => by
    rw [stOf, List.mem_append] at hz
    rcases hz with h | h
    · exact stOf_fit M n _ z h
    · simp only [List.mem_singleton] at h
      subst h
      have : key % (M + 2) < M + 2 := Nat.mod_lt _ (by omega)
      omega
theorem stOf_short {M n : Nat} (hM : M ≤ 1) (h1 : 1 ≤ n) (h5 : n ≤ 5) (key : Nat) : Short M (stOf M n key) :=
  ⟨hM, by rw [stOf_len]; exact h1, by rw [stOf_len]; exact h5, stOf_fit M n key⟩
theorem ndK_key {M : Nat} {zs : List Int} (h : fitS M zs) : ndK M zs.length (keyS M zs) = needL M zs := by
  unfold ndK; rw [stOf_keyTo h]
theorem ndK_lt {M n : Nat} (hM : M ≤ 1) (h1 : 1 ≤ n) (h5 : n ≤ 5) (key : Nat) : ndK M n key < 7 := by
  have := needS_le (stOf_short hM h1 h5 key)
  unfold ndK; omega
/-- The needs of all states of so many numbers. -/
def needsL (M n : Nat) : List Int := fndC (ndK M n) ((M + 2) ^ n) 7
theorem needsL_len (M n : Nat) : (needsL M n).length = (M + 2) ^ n := fndC_len _ _ _
theorem needsL_at {M : Nat} {zs : List Int} (h : Short M zs) (hk : keyS M zs < (needsL M zs.length).length) : (needsL M zs.length)[keyS M zs] = (needL M zs : Int) := by
  simp only [needsL, fndC, List.getElem_map, List.getElem_range]
  unfold foundC
  rw [ndK_key h.fit, if_pos (by have := needS_le h; omega)]
theorem pow_top {M n : Nat} (hM : M ≤ 1) (h1 : 1 ≤ n) (h5 : n ≤ 5) : 2 ≤ (M + 2) ^ n ∧ (M + 2) ^ n ≤ 243 := by
  have : ∀ M, M ≤ 1 → ∀ n, n ≤ 5 → 1 ≤ n → 2 ≤ (M + 2) ^ n ∧ (M + 2) ^ n ≤ 243 := by decide
  exact this M hM n h5 h1
theorem canL_found {M rd k : Nat} {zs : List Int} (h : Short M zs) : canL M zs rd k = (decide (0 ≤ foundC (ndK M zs.length) rd (keyS M (cmpAft zs M k true))) && decide (0 ≤ foundC (ndK M zs.length) rd (keyS M (cmpAft zs M k false)))) := by
  have e1 := ndK_key (h.aft k true).fit
  have e2 := ndK_key (h.aft k false).fit
  rw [cmpAft_len] at e1 e2
  unfold canL
  rw [← e1, ← e2]
  congr 1
  · rw [decide_eq_decide]; exact foundC_pos.symm
  · rw [decide_eq_decide]; exact foundC_pos.symm
theorem anyL_mono {M rd : Nat} {zs : List Int} {k : Nat} (h : anyL M zs rd k = true) : ∀ {j}, k ≤ j → anyL M zs rd j = true
  | 0, hj => by obtain rfl : k = 0 := by omega
                exact h
  | j + 1, hj => by
    by_cases e : k = j + 1
    · subst e; exact h
    · rw [anyL, anyL_mono h (by omega), Bool.true_or]
end Go.Proofs.Ytopgccficjkenaa
