/- Counts of one to three places as lists; their keys; the next split; which needs are found round by round: numbers alone. -/
import Derived.Test.YthpnkeecpaflfaaNeed
namespace Go.Proofs.Ythpnkeecpaflfaa
set_option linter.unusedVariables false

/-- The list of so many places. -/
def lstR (p : Nat) (r : Row) : List Int := [(r.1 : Int), (r.2.1 : Int), (r.2.2 : Int)].drop (3 - p)
/-- Counts of so many places have zeros ahead. -/
def Wide (p : Nat) (r : Row) : Prop := (p = 1 ∧ r.1 = 0 ∧ r.2.1 = 0) ∨ (p = 2 ∧ r.1 = 0) ∨ p = 3
theorem Wide.le {p : Nat} {r : Row} (h : Wide p r) : 1 ≤ p ∧ p ≤ 3 := by rcases h with ⟨h, _⟩ | ⟨h, _⟩ | h <;> omega
theorem lstR_len {p : Nat} {r : Row} (h : Wide p r) : (lstR p r).length = p := by
  rcases h with ⟨h, _⟩ | ⟨h, _⟩ | h <;> subst h <;> rfl
theorem lstR_inj {p : Nat} {r s : Row} (hr : Wide p r) (hs : Wide p s) : lstR p r = lstR p s ↔ r = s := by
  obtain ⟨a, b, c⟩ := r
  obtain ⟨x, y, z⟩ := s
  rcases hr with ⟨h, h1, h2⟩ | ⟨h, h1⟩ | h <;> subst h <;> rcases hs with ⟨h, h3, h4⟩ | ⟨h, h3⟩ | h <;> first | (cases h; done) | skip
  all_goals simp_all [lstR]
  all_goals omega
/-- Lists of counts. -/
def sumI : List Int → Int
  | [] => 0
  | x :: l => x + sumI l
def cOK (l : List Int) : Bool := decide (1 ≤ l.length) && decide (l.length ≤ 3) && l.all (fun x => decide (0 ≤ x)) && decide (sumI l ≤ 8)
def fitL : List Int → List Int → Bool
  | [], [] => true
  | x :: l, y :: m => decide (0 ≤ x ∧ x ≤ y) && fitL l m
  | _, _ => false
theorem cOK_row {l : List Int} (h : cOK l = true) : ∃ r, l = lstR l.length r ∧ Wide l.length r ∧ rsum r ≤ 8 := by
  simp only [cOK, Bool.and_eq_true, decide_eq_true_eq] at h
  obtain ⟨⟨⟨h1, h2⟩, h3⟩, h4⟩ := h
  match l, h1, h2, h3, h4 with
  | [c], _, _, h3, h4 =>
    simp [sumI] at h3 h4
    exact ⟨(0, 0, c.toNat), by simp [lstR]; omega, .inl ⟨rfl, rfl, rfl⟩, by simp only [rsum]; omega⟩
  | [b, c], _, _, h3, h4 =>
    simp [sumI] at h3 h4
    exact ⟨(0, b.toNat, c.toNat), by simp [lstR]; omega, .inr (.inl ⟨rfl, rfl⟩), by simp only [rsum]; omega⟩
  | [a, b, c], _, _, h3, h4 =>
    simp [sumI] at h3 h4
    exact ⟨(a.toNat, b.toNat, c.toNat), by simp [lstR]; omega, .inr (.inr rfl), by simp only [rsum]; omega⟩
theorem row_cOK {p : Nat} {r : Row} (hw : Wide p r) (h8 : rsum r ≤ 8) : cOK (lstR p r) = true := by
  obtain ⟨a, b, c⟩ := r
  simp only [rsum] at h8
  rcases hw with ⟨h, h1, h2⟩ | ⟨h, h1⟩ | h <;> subst h <;> simp_all [cOK, lstR, sumI] <;> omega
theorem cOK_iff_row {p : Nat} {r : Row} (hw : Wide p r) : cOK (lstR p r) = decide (rsum r ≤ 8) := by
  obtain ⟨a, b, c⟩ := r
  rw [Bool.eq_iff_iff, decide_eq_true_iff]
  rcases hw with ⟨h, h1, h2⟩ | ⟨h, h1⟩ | h <;> subst h <;> simp_all [cOK, lstR, sumI, rsum] <;> omega
theorem fit_row {l : List Int} {p : Nat} {r : Row} (hw : Wide p r) (h : fitL l (lstR p r) = true) : ∃ s, l = lstR p s ∧ Wide p s ∧ Fits s r := by
  obtain ⟨a, b, c⟩ := r
  rcases hw with ⟨h1, h2, h3⟩ | ⟨h1, h2⟩ | h1
  · subst h1
    match l, h with
    | [z], h =>
      simp [lstR, fitL] at h
      exact ⟨(0, 0, z.toNat), by simp [lstR]; omega, .inl ⟨rfl, rfl, rfl⟩, by simp [Fits]; omega⟩
    | [], h => simp [lstR, fitL] at h
    | _ :: _ :: _, h => simp [lstR, fitL] at h
  · subst h1
    match l, h with
    | [y, z], h =>
      simp [lstR, fitL] at h
      exact ⟨(0, y.toNat, z.toNat), by simp [lstR]; omega, .inr (.inl ⟨rfl, rfl⟩), by simp [Fits]; omega⟩
    | [], h => simp [lstR, fitL] at h
    | [_], h => simp [lstR, fitL] at h
    | _ :: _ :: _ :: _, h => simp [lstR, fitL] at h
  · subst h1
    match l, h with
    | [x, y, z], h =>
      simp [lstR, fitL] at h
      exact ⟨(x.toNat, y.toNat, z.toNat), by simp [lstR]; omega, .inr (.inr rfl), by simp [Fits]; omega⟩
    | [], h => simp [lstR, fitL] at h
    | [_], h => simp [lstR, fitL] at h
    | [_, _], h => simp [lstR, fitL] at h
    | _ :: _ :: _ :: _ :: _, h => simp [lstR, fitL] at h
theorem row_fit {p : Nat} {r s : Row} (hr : Wide p r) (hs : Wide p s) (h : Fits s r) : fitL (lstR p s) (lstR p r) = true := by
  obtain ⟨a, b, c⟩ := r
  obtain ⟨x, y, z⟩ := s
  simp only [Fits] at h
  rcases hr with ⟨h1, _, _⟩ | ⟨h1, _⟩ | h1 <;> subst h1 <;> simp_all [lstR, fitL] <;> omega
theorem fits_wide {p : Nat} {r s : Row} (hr : Wide p r) (h : Fits s r) : Wide p s := by
  obtain ⟨a, b, c⟩ := r
  obtain ⟨x, y, z⟩ := s
  simp only [Fits] at h
  rcases hr with ⟨h1, h2, h3⟩ | ⟨h1, h2⟩ | h1
  · exact .inl ⟨h1, by simp_all, by simp_all⟩
  · exact .inr (.inl ⟨h1, by simp_all⟩)
  · exact .inr (.inr h1)
theorem left_fits {r s : Row} : Fits (leftR r s) r := by simp only [Fits, leftR]; omega
theorem yes_wide {p : Nat} {r s : Row} (hr : Wide p r) (h : Fits s r) : Wide p (yesR r s) ∧ Wide p (noR r s) := by
  obtain ⟨a, b, c⟩ := r
  obtain ⟨x, y, z⟩ := s
  simp only [Fits] at h
  rcases hr with ⟨h1, h2, h3⟩ | ⟨h1, h2⟩ | h1
  · simp only at h2 h3
    exact ⟨.inl ⟨h1, by simp only [yesR]; omega, by simp only [yesR]; omega⟩, .inl ⟨h1, by simp only [noR, leftR, yesR]; omega, by simp only [noR, leftR, yesR]; omega⟩⟩
  · simp only at h2
    exact ⟨.inr (.inl ⟨h1, by simp only [yesR]; omega⟩), .inr (.inl ⟨h1, by simp only [noR, leftR, yesR]; omega⟩)⟩
  · exact ⟨.inr (.inr h1), .inr (.inr h1)⟩

/-- The key of counts, and the counts of a key. -/
def keyR (r : Row) : Nat := r.1 * 81 + r.2.1 * 9 + r.2.2
def rowK (k : Nat) : Row := (k / 81, k / 9 % 9, k % 9)
theorem rowK_key {r : Row} (h : rsum r ≤ 8) : rowK (keyR r) = r := by
  obtain ⟨a, b, c⟩ := r
  simp only [rsum] at h
  simp only [rowK, keyR, Prod.mk.injEq]
  omega
theorem key_wide {p : Nat} {k : Nat} (hp : 1 ≤ p ∧ p ≤ 3) (hk : k < 9 ^ p) : Wide p (rowK k) := by
  obtain rfl | rfl | rfl : p = 1 ∨ p = 2 ∨ p = 3 := by omega
  · exact .inl ⟨rfl, by simp only [rowK]; omega, by simp only [rowK]; omega⟩
  · exact .inr (.inl ⟨rfl, by simp only [rowK]; omega⟩)
  · exact .inr (.inr rfl)
theorem key_lt {p : Nat} {r : Row} (hr : Wide p r) (h : rsum r ≤ 8) : keyR r < 9 ^ p := by
  obtain ⟨a, b, c⟩ := r
  simp only [rsum] at h
  rcases hr with ⟨h1, h2, h3⟩ | ⟨h1, h2⟩ | h1 <;> subst h1 <;> simp only [keyR] at * <;> omega

/-- The next split. -/
def nextR (r s : Row) : Option Row :=
  if s.2.2 < r.2.2 then some (s.1, s.2.1, s.2.2 + 1) else if s.2.1 < r.2.1 then some (s.1, s.2.1 + 1, 0) else if s.1 < r.1 then some (s.1 + 1, 0, 0) else none
theorem split_next {r : Row} (h8 : rsum r ≤ 8) {i : Nat} (hi : i < cntR r) : nextR r (splitR r i) = if i + 1 < cntR r then some (splitR r (i + 1)) else none := by
  have : allR (fun r => (List.range (cntR r)).all fun i => decide (nextR r (splitR r i) = if i + 1 < cntR r then some (splitR r (i + 1)) else none)) = true := by decide +kernel
  have := allR_at this h8
  simp only [List.all_eq_true, List.mem_range, decide_eq_true_eq] at this
  exact this i hi

/-- What is found behind so many rounds: the needs below round, -1 else. -/
def foundAt (round k : Nat) : Int := if rsum (rowK k) ≤ 8 ∧ needR (rowK k) < round then ((needR (rowK k) : Nat) : Int) else -1
/-- The keys below top that are left. -/
def leftK (round : Nat) : Nat → List Int
  | 0 => []
  | k + 1 => leftK round k ++ (if rsum (rowK k) ≤ 8 ∧ round ≤ needR (rowK k) then [(k : Int)] else [])
def withinR (round : Nat) (r : Row) : Bool := decide (needR r ≤ round)
theorem within_iff {round : Nat} {r : Row} (h8 : rsum r ≤ 8) (h1 : 1 < rsum r) (hr : 1 ≤ round) :
    (∃ i, i < cntR r ∧ needR (yesR r (splitR r i)) < round ∧ needR (noR r (splitR r i)) < round) ↔ needR r ≤ round := by
  constructor
  · rintro ⟨i, hi, hy, hn⟩
    have := need_split h8 (split_fits h8 hi)
    unfold valR at this
    omega
  · intro h
    have hb := (best_first h8 h1).1
    have hm := List.mem_of_getElem? hb
    unfold bestR at hm
    rw [List.mem_filter, List.mem_map] at hm
    obtain ⟨⟨i, hi, e⟩, hv⟩ := hm
    simp only [beq_iff_eq] at hv
    rw [← e] at hv
    unfold valR at hv
    exact ⟨i, List.mem_range.1 hi, by omega, by omega⟩
theorem left_mem {round : Nat} : ∀ {top : Nat} {x : Int}, x ∈ leftK round top → ∃ k : Nat, x = (k : Int) ∧ k < top ∧ rsum (rowK k) ≤ 8 ∧ round ≤ needR (rowK k)
  | 0, x, h => by cases h
  | t + 1, x, h => by
    unfold leftK at h
    rcases List.mem_append.1 h with h | h
    · obtain ⟨k, e, h1, h2⟩ := left_mem h
      exact ⟨k, e, by omega, h2⟩
    · split at h
      · rename_i hc
        simp at h
        exact ⟨t, h, by omega, hc⟩
      · cases h
theorem left_len (round : Nat) : ∀ top, (leftK round top).length ≤ top
  | 0 => Nat.le_refl _
  | t + 1 => by
    have := left_len round t
    unfold leftK
    split <;> simp <;> omega
theorem left_none {round top : Nat} (h : 10 ≤ round) : leftK round top = [] := by
  cases hl : leftK round top with
  | nil => rfl
  | cons x l =>
    have hx : x ∈ leftK round top := by rw [hl]; simp
    obtain ⟨k, _, _, h8, hr⟩ := left_mem hx
    have := need_le h8
    omega
/-- Of what is left, what is found in a round, and what stays. -/
theorem left_filter (round : Nat) : ∀ top, (leftK round top).filter (fun x => decide (round < needR (rowK x.toNat))) = leftK (round + 1) top
  | 0 => rfl
  | t + 1 => by
    unfold leftK
    rw [List.filter_append, left_filter round t]
    by_cases h : rsum (rowK t) ≤ 8 ∧ round ≤ needR (rowK t)
    · rw [if_pos h]
      by_cases h2 : round + 1 ≤ needR (rowK t)
      · rw [if_pos ⟨h.1, h2⟩]
        have : round < needR (rowK t) := by omega
        simp [this]
      · rw [if_neg (fun q => h2 q.2)]
        have : ¬ round < needR (rowK t) := by omega
        simp [this]
    · rw [if_neg h, if_neg (fun q => h ⟨q.1, by omega⟩)]
      rfl
end Go.Proofs.Ythpnkeecpaflfaa
