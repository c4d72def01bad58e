/- LessPlay: the play of the plan for a secret, and what becomes of the secret. -/
import Derived.Test.YtnomgnjfamideabL6w
namespace Go.Proofs.Ytnomgnjfamideab
open Go.RowKit Go.ChangeShapes Go.WideShapes Go.Maps
set_option linter.unusedVariables false

/-- The answer at a place of the play. -/
def yesP (M : Nat) (x lie : Int) (s : List Int) (n : Nat) : Bool := decide (x < ((planS M s).2 : Int)) != decide ((n : Int) = lie)
/-- State and answers behind so many rounds. -/
def play (M : Nat) (x lie : Int) (zs : List Int) : Nat → List Int × List (Int × Bool)
  | 0 => (zs, [])
  | i + 1 =>
    let p := play M x lie zs i
    if doneL p.1 then p else (cmpAft p.1 M (planS M p.1).2 (yesP M x lie p.1 p.2.length), p.2 ++ [((2 : Int) ^ (planS M p.1).2 - 1, yesP M x lie p.1 p.2.length)])
def pSt (M : Nat) (x lie : Int) (zs : List Int) (i : Nat) : List Int := (play M x lie zs i).1
def pL (M : Nat) (x lie : Int) (zs : List Int) (i : Nat) : List (Int × Bool) := (play M x lie zs i).2
theorem pSt_next {M : Nat} {x lie : Int} {zs : List Int} {i : Nat} (h : doneL (pSt M x lie zs i) = false) : pSt M x lie zs (i + 1) = cmpAft (pSt M x lie zs i) M (planS M (pSt M x lie zs i)).2 (yesP M x lie (pSt M x lie zs i) (pL M x lie zs i).length) := by
  unfold pSt pL at *
  rw [play]; simp [h]
theorem pL_next {M : Nat} {x lie : Int} {zs : List Int} {i : Nat} (h : doneL (pSt M x lie zs i) = false) : pL M x lie zs (i + 1) = pL M x lie zs i ++ [((2 : Int) ^ (planS M (pSt M x lie zs i)).2 - 1, yesP M x lie (pSt M x lie zs i) (pL M x lie zs i).length)] := by
  unfold pSt pL at *
  rw [play]; simp [h]
theorem play_done {M : Nat} {x lie : Int} {zs : List Int} {i : Nat} (h : doneL (pSt M x lie zs i) = true) : play M x lie zs (i + 1) = play M x lie zs i := by
  unfold pSt at h
  rw [play]; simp [h]
theorem pSt_short {M : Nat} {x lie : Int} {zs : List Int} (h : Short M zs) : ∀ i, Short M (pSt M x lie zs i) ∧ (pSt M x lie zs i).length = zs.length
  | 0 => ⟨h, rfl⟩
  | i + 1 => by
    have ih := pSt_short (x := x) (lie := lie) h i
    cases hd : doneL (pSt M x lie zs i) with
    | true =>
      have : pSt M x lie zs (i + 1) = pSt M x lie zs i := by show (play M x lie zs (i + 1)).1 = _; rw [play_done hd]; rfl
      rw [this]; exact ih
    | false => rw [pSt_next hd]; exact ⟨ih.1.aft _ _, by rw [cmpAft_len]; exact ih.2⟩
theorem pSt_mass {M : Nat} {x lie : Int} {zs : List Int} (hs : Short M zs) {i : Nat} (h : doneL (pSt M x lie zs i) = false) : massL M (pSt M x lie zs (i + 1)) < massL M (pSt M x lie zs i) := by
  have h1 := (pSt_short (x := x) (lie := lie) hs i).1
  have h2 := plan_in h1 h
  rw [pSt_next h]
  exact mass_lt h1 h2.1 h2.2.1 _
theorem play_stop {M : Nat} {x lie : Int} {zs : List Int} {i : Nat} (h : doneL (pSt M x lie zs i) = true) : ∀ d, play M x lie zs (i + d) = play M x lie zs i
  | 0 => rfl
  | d + 1 => by
    have ih := play_stop h d
    rw [← Nat.add_assoc]
    have h2 : doneL (pSt M x lie zs (i + d)) = true := by show doneL (play M x lie zs (i + d)).1 = true; rw [ih]; exact h
    rw [play_done h2, ih]
theorem play_end {M : Nat} {x lie : Int} {zs : List Int} {i : Nat} (h : doneL (pSt M x lie zs i) = true) (hi : i ≤ 10) : pSt M x lie zs i = pSt M x lie zs 10 ∧ pL M x lie zs i = pL M x lie zs 10 := by
  have := play_stop h (10 - i)
  rw [show i + (10 - i) = 10 by omega] at this
  unfold pSt pL
  rw [this]; exact ⟨rfl, rfl⟩
theorem pL_len (M : Nat) (x lie : Int) (zs : List Int) : ∀ i, (pL M x lie zs i).length ≤ i
  | 0 => Nat.le_refl _
  | i + 1 => by
    have ih := pL_len M x lie zs i
    cases hd : doneL (pSt M x lie zs i) with
    | true =>
      have : pL M x lie zs (i + 1) = pL M x lie zs i := by show (play M x lie zs (i + 1)).2 = _; rw [play_done hd]; rfl
      rw [this]; omega
    | false => rw [pL_next hd, List.length_append]; simp; omega
/-- The mass falls, so the play ends. -/
theorem play_ends {M : Nat} {x lie : Int} {zs : List Int} (hs : Short M zs) : doneL (pSt M x lie zs 10) = true := by
  have key : ∀ i, doneL (pSt M x lie zs i) = true ∨ massL M (pSt M x lie zs i) + i ≤ 10 := by
    intro i
    induction i with
    | zero => exact .inr (mass_ten hs)
    | succ i ih =>
      rcases ih with h | h
      · left
        show doneL (play M x lie zs (i + 1)).1 = true
        rw [play_done h]; exact h
      · cases hd : doneL (pSt M x lie zs i) with
        | true =>
          left
          show doneL (play M x lie zs (i + 1)).1 = true
          rw [play_done hd]; exact hd
        | false => have := pSt_mass (x := x) (lie := lie) hs hd; right; omega
  rcases key 10 with h | h
  · exact h
  · cases hd : doneL (pSt M x lie zs 10) with
    | true => rfl
    | false => have := pSt_mass (x := x) (lie := lie) hs hd; omega
theorem cmpAft_at {zs : List Int} {M k : Nat} {y : Bool} {j : Nat} : (cmpAft zs M k y)[j]? = (zs[j]?).map (aft1 (M : Int) (y != decide (j < k))) := by
  unfold cmpAft
  rw [List.getElem?_mapIdx]
/-- What the secret's place holds: what it held, or one false answer more. -/
theorem play_at {M : Nat} {lie : Int} {zs : List Int} (j : Nat) : ∀ i, (pSt M (j : Int) lie zs i)[j]? = if 0 ≤ lie ∧ lie < ((pL M (j : Int) lie zs i).length : Int) then (zs[j]?).map (aft1 (M : Int) true) else zs[j]?
  | 0 => by
    rw [if_neg (by show ¬ (0 ≤ lie ∧ lie < ((0 : Nat) : Int)); omega)]; rfl
  | i + 1 => by
    have ih := play_at (M := M) (lie := lie) (zs := zs) j i
    cases hd : doneL (pSt M (j : Int) lie zs i) with
    | true =>
      have h1 : pSt M (j : Int) lie zs (i + 1) = pSt M (j : Int) lie zs i := by show (play M (j : Int) lie zs (i + 1)).1 = _; rw [play_done hd]; rfl
      have h2 : pL M (j : Int) lie zs (i + 1) = pL M (j : Int) lie zs i := by show (play M (j : Int) lie zs (i + 1)).2 = _; rw [play_done hd]; rfl
      rw [h1, h2]; exact ih
    | false =>
      have hl : ((pL M (j : Int) lie zs (i + 1)).length : Int) = (pL M (j : Int) lie zs i).length + 1 := by rw [pL_next hd, List.length_append]; simp
      rw [hl, pSt_next hd, cmpAft_at, ih]
      generalize (pL M (j : Int) lie zs i).length = n
      generalize pSt M (j : Int) lie zs i = s
      have hy : (yesP M (j : Int) lie s n != decide (j < (planS M s).2)) = decide ((n : Int) = lie) := by
        unfold yesP
        have : decide ((j : Int) < ((planS M s).2 : Int)) = decide (j < (planS M s).2) := by simp
        rw [this]
        cases decide (j < (planS M s).2) <;> cases decide ((n : Int) = lie) <;> rfl
      rw [hy]
      by_cases h1 : (n : Int) = lie
      · rw [if_neg (by omega), if_pos (by omega), decide_eq_true h1]
      · rw [decide_eq_false h1]
        have hid : ∀ o : Option Int, o.map (aft1 (M : Int) false) = o := by
          intro o; cases o with
          | none => rfl
          | some z => simp [aft1_no]
        rw [hid]
        by_cases h2 : 0 ≤ lie ∧ lie < (n : Int)
        · rw [if_pos h2, if_pos (by omega)]
        · rw [if_neg h2, if_neg (by omega)]
/-- The open numbers. -/
theorem mem_filtP {p : Nat → Bool} : ∀ {k : Nat} {x : Int}, x ∈ filt p k ↔ ∃ j : Nat, x = j ∧ j < k ∧ p j = true
  | 0, x => by simp [filt]
  | k + 1, x => by
    rw [filt, List.mem_append, mem_filtP (k := k)]
    constructor
    · rintro (⟨j, h1, h2, h3⟩ | h)
      · exact ⟨j, h1, by omega, h3⟩
      · cases hp : p k with
        | true => rw [hp] at h; simp at h; exact ⟨k, h, by omega, hp⟩
        | false => rw [hp] at h; simp at h
    · rintro ⟨j, h1, h2, h3⟩
      by_cases hj : j = k
      · subst hj; right; rw [h3]; simp [h1]
      · exact .inl ⟨j, h1, by omega, h3⟩
theorem mem_opensP {zs : List Int} {x : Int} : x ∈ opens zs ↔ ∃ j : Nat, x = j ∧ ∃ z, zs[j]? = some z ∧ 0 ≤ z := by
  unfold opens
  rw [mem_filtP]
  constructor
  · rintro ⟨j, h1, h2, h3⟩
    have := of_decide_eq_true h3
    rw [getD_at h2] at this
    exact ⟨j, h1, _, List.getElem?_eq_getElem h2, this⟩
  · rintro ⟨j, h1, z, h2, h3⟩
    have hj : j < zs.length := by
      rcases Nat.lt_or_ge j zs.length with h | h
      · exact h
      · rw [List.getElem?_eq_none h] at h2; cases h2
    refine ⟨j, h1, hj, ?_⟩
    rw [getD_at hj]
    rw [List.getElem?_eq_getElem hj] at h2
    injection h2 with h2
    exact decide_eq_true (by omega)
/-- The end's only open number is the secret, if the secret was open, and is so behind its false answer. -/
def fitP (M : Nat) (x lie : Int) (zs : List Int) : Prop := ∃ j : Nat, x = j ∧ ∃ z, zs[j]? = some z ∧ 0 ≤ z ∧ (0 ≤ lie → z < (M : Int))
theorem play_mem {M : Nat} {x lie : Int} {zs : List Int} (hs : Short M zs) (hl : -1 ≤ lie) (hl2 : lie < ((pL M x lie zs 10).length : Int)) : x ∈ opens (pSt M x lie zs 10) ↔ fitP M x lie zs := by
  rw [mem_opensP]
  unfold fitP
  constructor
  · rintro ⟨j, rfl, z, h1, h2⟩
    refine ⟨j, rfl, ?_⟩
    rw [play_at j 10] at h1
    by_cases h0 : 0 ≤ lie
    · rw [if_pos ⟨h0, hl2⟩] at h1
      cases hz : zs[j]? with
      | none => rw [hz] at h1; cases h1
      | some y =>
        rw [hz] at h1
        have h1 : aft1 (M : Int) true y = z := by simpa using h1
        have hy0 : 0 ≤ y := by
          by_cases h : 0 ≤ y
          · exact h
          · rw [aft1_neg h] at h1; omega
        rw [aft1_yes hy0] at h1
        have hfit : y ≤ (M : Int) := by
          have hm : y ∈ zs := List.mem_of_getElem? hz
          have := hs.fit y hm
          omega
        refine ⟨y, rfl, hy0, fun _ => ?_⟩
        by_cases hym : y = (M : Int)
        · rw [if_pos hym] at h1; omega
        · omega
    · rw [if_neg (by omega)] at h1
      exact ⟨z, h1, h2, fun h => absurd h h0⟩
  · rintro ⟨j, rfl, z, h1, h2, h3⟩
    refine ⟨j, rfl, ?_⟩
    rw [play_at j 10]
    by_cases h0 : 0 ≤ lie
    · rw [if_pos ⟨h0, hl2⟩, h1]
      have := h3 h0
      refine ⟨z + 1, ?_, by omega⟩
      simp only [Option.map_some]
      rw [aft1_yes h2, if_neg (by omega)]
    · rw [if_neg (by omega)]
      exact ⟨z, h1, h2⟩
theorem only_done {M : Nat} {s : List Int} (hs : Short M s) (hd : doneL s = true) (h0 : 0 < (opens s).length) : ∃ t, opens s = [t] := by
  have h1 : (opens s).length < 2 := of_decide_eq_true hd
  exact only_yes (by omega)
end Go.Proofs.Ytnomgnjfamideab
