/- A race of two as numbers: winning questions, losing answers, the race that is played. -/
import Derived.Test.YtopgccficjkenaaL11N
namespace Go.Proofs.Ytopgccficjkenaa
open Go.RowKit Go.ChangeShapes Go.WideShapes
set_option linter.unusedVariables false

/-- The answers to a question with which the other one wins; the questions that win. -/
def loseL (M : Nat) (qs zs : List Int) (q : Int) : List Bool := [false, true].filter fun y => (raceL M qs (afters zs M q y)).wins
def winL (M : Nat) (qs zs : List Int) : List Int := (choL qs zs).filter fun q => (raceB M qs zs q).wins
theorem raceB_wins (M : Nat) (qs zs : List Int) (q : Int) : (raceB M qs zs q).wins = (!(raceL M qs (afters zs M q false)).wins && !(raceL M qs (afters zs M q true)).wins) := rfl
theorem lose_nil {M : Nat} {qs zs : List Int} {q : Int} : loseL M qs zs q = [] ↔ (raceB M qs zs q).wins = true := by
  rw [raceB_wins]
  unfold loseL
  generalize hf : (fun y => (raceL M qs (afters zs M q y)).wins) = f
  rw [show (raceL M qs (afters zs M q false)).wins = f false from by rw [← hf], show (raceL M qs (afters zs M q true)).wins = f true from by rw [← hf]]
  cases h0 : f false <;> cases h1 : f true <;> simp [h0, h1]
theorem orTo_wins {f : Int → OutR} {l : List Int} : ∀ {k}, k ≤ l.length → ((orTo f l k).wins = true ↔ ∃ i, i < k ∧ (f (l.getD i 0)).wins = true)
  | 0, _ => ⟨fun h => (by cases h), fun ⟨i, h, _⟩ => absurd h (by omega)⟩
  | 1, _ => by
    constructor
    · intro h
      exact ⟨0, by omega, h⟩
    · rintro ⟨i, h, h2⟩
      obtain rfl : i = 0 := by omega
      exact h2
  | k + 2, hk => by
    have ih := orTo_wins (f := f) (l := l) (k := k + 1) (by omega)
    rw [orTo]
    show ((orTo f l (k + 1)).wins || (f (l.getD (k + 1) 0)).wins) = true ↔ _
    rw [Bool.or_eq_true, ih]
    constructor
    · rintro (⟨i, h1, h2⟩ | h)
      · exact ⟨i, by omega, h2⟩
      · exact ⟨k + 1, by omega, h⟩
    · rintro ⟨i, h1, h2⟩
      by_cases e : i = k + 1
      · subst e; exact .inr h2
      · exact .inl ⟨i, by omega, h2⟩
theorem race_wins {M : Nat} {qs zs : List Int} (hs : Short M zs) : (raceL M qs zs).wins = true ↔ winL M qs zs ≠ [] := by
  rw [raceL_eq qs hs, orTo_wins (Nat.le_refl _)]
  constructor
  · rintro ⟨i, h1, h2⟩ e
    rw [getD_at0 h1] at h2
    have : (choL qs zs)[i] ∈ winL M qs zs := List.mem_filter.2 ⟨List.getElem_mem h1, h2⟩
    rw [e] at this
    cases this
  · intro h
    obtain ⟨q, hq⟩ := List.exists_mem_of_ne_nil _ h
    obtain ⟨h1, h2⟩ := List.mem_filter.1 hq
    obtain ⟨i, hi, rfl⟩ := List.getElem_of_mem h1
    exact ⟨i, hi, by rw [getD_at0 hi]; exact h2⟩
theorem race_loses {M : Nat} {qs zs : List Int} (hs : Short M zs) : (raceL M qs zs).wins = false ↔ winL M qs zs = [] := by
  have := race_wins (qs := qs) hs
  cases h : (raceL M qs zs).wins with
  | true => exact ⟨fun e => (by cases e), fun e => absurd e (this.1 h)⟩
  | false => exact ⟨fun _ => Classical.byContradiction fun e => by rw [h] at this; exact absurd (this.2 e) (by simp), fun _ => rfl⟩
theorem win_lose {M : Nat} {qs zs : List Int} {q : Int} (hq : q ∈ choL qs zs) : q ∈ winL M qs zs ↔ loseL M qs zs q = [] := by
  rw [lose_nil]
  exact ⟨fun h => (List.mem_filter.1 h).2, fun h => List.mem_filter.2 ⟨hq, h⟩⟩
/-- What is asked and answered. -/
def askR (M : Nat) (qs zs : List Int) : Int := (winL M qs zs ++ choL qs zs).headD 0
def ansR (M : Nat) (qs zs : List Int) : Bool := (loseL M qs zs (askR M qs zs) ++ [false, true]).headD false
def nextR (M : Nat) (qs zs : List Int) : List Int := afters zs M (askR M qs zs) (ansR M qs zs)
theorem ask_win {M : Nat} {qs zs : List Int} (h : winL M qs zs ≠ []) : askR M qs zs = (winL M qs zs).headD 0 ∧ askR M qs zs ∈ winL M qs zs := by
  unfold askR
  cases hw : winL M qs zs with
  | nil => exact absurd hw h
  | cons q l => exact ⟨rfl, by simp⟩
theorem ask_lose {M : Nat} {qs zs : List Int} (h : winL M qs zs = []) : askR M qs zs = (choL qs zs).headD 0 := by
  unfold askR
  rw [h, List.nil_append]
theorem ask_in {M : Nat} {qs zs : List Int} (h : choL qs zs ≠ []) : askR M qs zs ∈ choL qs zs := by
  by_cases hw : winL M qs zs = []
  · rw [ask_lose hw]
    cases hc : choL qs zs with
    | nil => exact absurd hc h
    | cons q l => simp
  · exact (List.mem_filter.1 (ask_win hw).2).1
/-- Who wins goes on to win. -/
theorem next_wins {M : Nat} {qs zs : List Int} (hs : Short M zs) (h : choL qs zs ≠ []) : (raceL M qs (nextR M qs zs)).wins = !(raceL M qs zs).wins := by
  have hi := ask_in (M := M) h
  unfold nextR
  by_cases hw : winL M qs zs = []
  · rw [(race_loses hs).2 hw]
    have hn : loseL M qs zs (askR M qs zs) ≠ [] := fun e => by
      have := (win_lose hi).2 e
      rw [hw] at this
      cases this
    have hm : ansR M qs zs ∈ loseL M qs zs (askR M qs zs) := by
      unfold ansR
      cases hl : loseL M qs zs (askR M qs zs) with
      | nil => exact absurd hl hn
      | cons y l => simp
    exact (List.mem_filter.1 hm).2
  · rw [(race_wins hs).2 hw]
    have h1 := lose_nil.1 ((win_lose hi).1 (ask_win hw).2)
    rw [raceB_wins, Bool.and_eq_true] at h1
    cases ansR M qs zs with
    | false => simpa using h1.1
    | true => simpa using h1.2
theorem ans_win {M : Nat} {qs zs : List Int} (h : winL M qs zs ≠ []) : ansR M qs zs = false := by
  have hm := (ask_win h).2
  unfold ansR
  rw [(win_lose (List.mem_filter.1 hm).1).1 hm]
  rfl
theorem ans_lose {M : Nat} {qs zs : List Int} (hc : choL qs zs ≠ []) (h : winL M qs zs = []) : loseL M qs zs (askR M qs zs) ≠ [] ∧ ansR M qs zs = (loseL M qs zs (askR M qs zs)).headD false := by
  have hn : loseL M qs zs (askR M qs zs) ≠ [] := fun e => by
    have := (win_lose (ask_in hc)).2 e
    rw [h] at this
    cases this
  refine ⟨hn, ?_⟩
  unfold ansR
  cases hl : loseL M qs zs (askR M qs zs) with
  | nil => exact absurd hl hn
  | cons y l => rfl
/-- The race that is played. -/
def playF (M : Nat) (qs : List Int) : Nat → List Int → List (Int × Bool)
  | 0, _ => []
  | m + 1, zs => if choL qs zs = [] then [] else (askR M qs zs, ansR M qs zs) :: playF M qs m (nextR M qs zs)
def playL (M : Nat) (qs zs : List Int) : List (Int × Bool) := playF M qs (massL M zs + 1) zs
theorem next_mass {M : Nat} {qs zs : List Int} (hs : Short M zs) (h : choL qs zs ≠ []) : massL M (nextR M qs zs) < massL M zs :=
  mass_after hs (mem_choL.1 (ask_in h)).2 _
theorem Short.next {M : Nat} {zs : List Int} (h : Short M zs) (qs : List Int) : Short M (nextR M qs zs) := h.after _ _
theorem playF_same (M : Nat) (qs : List Int) : ∀ (m n : Nat) (zs : List Int), Short M zs → massL M zs < m → massL M zs < n → playF M qs m zs = playF M qs n zs
  | 0, _, zs, _, h, _ => absurd h (by omega)
  | _, 0, zs, _, _, h => absurd h (by omega)
  | m + 1, n + 1, zs, hs, hm, hn => by
    rw [playF, playF]
    by_cases hc : choL qs zs = []
    · rw [if_pos hc, if_pos hc]
    · have := next_mass hs hc
      rw [if_neg hc, if_neg hc, playF_same M qs m n _ (hs.next qs) (by omega) (by omega)]
theorem play_end {M : Nat} {qs zs : List Int} (h : choL qs zs = []) : playL M qs zs = [] := by rw [playL, playF, if_pos h]
theorem play_step {M : Nat} {qs zs : List Int} (hs : Short M zs) (h : choL qs zs ≠ []) : playL M qs zs = (askR M qs zs, ansR M qs zs) :: playL M qs (nextR M qs zs) := by
  have := next_mass hs h
  rw [playL, playF, if_neg h, playL, playF_same M qs (massL M zs) (massL M (nextR M qs zs) + 1) _ (hs.next qs) (by omega) (by omega)]
theorem play_len {M : Nat} {qs : List Int} : ∀ (m : Nat) (zs : List Int), Short M zs → massL M zs < m → (playL M qs zs).length ≤ massL M zs
  | 0, zs, _, h => absurd h (by omega)
  | m + 1, zs, hs, h => by
    by_cases hc : choL qs zs = []
    · rw [play_end hc]; simp
    · have h1 := next_mass hs hc
      have := play_len (qs := qs) m (nextR M qs zs) (hs.next qs) (by omega)
      rw [play_step hs hc, List.length_cons]
      omega
theorem play_ten {M : Nat} {qs zs : List Int} (hs : Short M zs) : (playL M qs zs).length ≤ 10 := Nat.le_trans (play_len _ zs hs (Nat.lt_succ_self _)) (mass_bd hs)
/-- Who wins the race that is played. -/
theorem play_won {M : Nat} {qs : List Int} : ∀ (m : Nat) (zs : List Int), Short M zs → massL M zs < m → ((raceL M qs zs).wins = true ↔ (playL M qs zs).length % 2 = 1)
  | 0, zs, _, h => absurd h (by omega)
  | m + 1, zs, hs, h => by
    by_cases hc : choL qs zs = []
    · rw [play_end hc, race_end hs hc]
      exact ⟨fun h => (by cases h), fun h => by cases h⟩
    · have h1 := next_mass hs hc
      have ih := play_won (qs := qs) m (nextR M qs zs) (hs.next qs) (by omega)
      rw [play_step hs hc, List.length_cons]
      rw [next_wins hs hc] at ih
      cases hw : (raceL M qs zs).wins with
      | true =>
        rw [hw] at ih
        have : ¬ (playL M qs (nextR M qs zs)).length % 2 = 1 := fun e => absurd (ih.2 e) (by simp)
        exact ⟨fun _ => by omega, fun _ => rfl⟩
      | false =>
        rw [hw] at ih
        have : (playL M qs (nextR M qs zs)).length % 2 = 1 := ih.1 rfl
        exact ⟨fun h => (by cases h), fun _ => by omega⟩
end Go.Proofs.Ytopgccficjkenaa
