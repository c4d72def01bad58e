/- A race of two as numbers: what there is to know of a short state, by a set of questions. -/
import Derived.Test.YtopgccficjkenaaL6a
import Derived.Test.YtopgccficjkenaaVain
namespace Go.Proofs.Ytopgccficjkenaa
open Go.RowKit Go.ChangeShapes Go.WideShapes
set_option linter.unusedVariables false

theorem mem_filtR {p : Nat → Bool} : ∀ {k : Nat} {x : Int}, x ∈ filt p k ↔ ∃ j : Nat, x = j ∧ j < k ∧ p j = true
  | 0, x => by simp [filt]
  | k + 1, x => by
    rw [filt, List.mem_append, mem_filtR (k := k)]
    constructor
    · rintro (⟨j, h1, h2, h3⟩ | h)
      · exact ⟨j, h1, by omega, h3⟩
      · cases hp : p k with
        | true => rw [hp] at h; simp at h; exact ⟨k, h, by omega, hp⟩
        | false => rw [hp] at h; simp at h
    · rintro ⟨j, h1, h2, h3⟩
      by_cases hj : j = k
      · subst hj; right; rw [h3]; simp [h1]
      · exact .inl ⟨j, h1, by omega, h3⟩
theorem mem_opensR {zs : List Int} {x : Int} : x ∈ opens zs ↔ ∃ j : Nat, x = j ∧ ∃ z, zs[j]? = some z ∧ 0 ≤ z := by
  unfold opens
  rw [mem_filtR]
  constructor
  · rintro ⟨j, h1, h2, h3⟩
    have := of_decide_eq_true h3
    rw [getD_at h2] at this
    exact ⟨j, h1, _, List.getElem?_eq_getElem h2, this⟩
  · rintro ⟨j, h1, z, h2, h3⟩
    have hj : j < zs.length := by
      rcases Nat.lt_or_ge j zs.length with h | h
      · exact h
      · rw [List.getElem?_eq_none h] at h2; cases h2
    refine ⟨j, h1, hj, ?_⟩
    rw [getD_at hj]
    rw [List.getElem?_eq_getElem hj] at h2
    injection h2 with h2
    exact decide_eq_true (by omega)
theorem afters_get {zs : List Int} {m q : Int} {y : Bool} {j : Nat} {z : Int} (h : zs[j]? = some z) : (afters zs m q y)[j]? = some (aft1 m (y != inQ q j) z) := by
  have hj : j < zs.length := by
    rcases Nat.lt_or_ge j zs.length with h' | h'
    · exact h'
    · rw [List.getElem?_eq_none h'] at h; cases h
  rw [show (afters zs m q y)[j]? = _ from aftTo_lt zs m q y zs.length j hj hj, getD_at hj]
  rw [List.getElem?_eq_getElem hj] at h
  injection h with h
  rw [h]
theorem afters_map (zs : List Int) (m q : Int) (y : Bool) : afters zs m q y = zs.mapIdx fun j z => aft1 m (y != inQ q j) z := by
  apply List.ext_getElem?
  intro j
  by_cases hj : j < zs.length
  · rw [afters_get (List.getElem?_eq_getElem hj)]
    simp [hj]
  · rw [List.getElem?_eq_none (by rw [afters_len]; omega), List.getElem?_eq_none (by simp; omega)]
theorem Short.after {M : Nat} {zs : List Int} (h : Short M zs) (q : Int) (y : Bool) : Short M (afters zs M q y) :=
  Short.of (afters_isSt q y h.valid) (by rw [afters_len]; exact h.len) h.m

/-- What is left to be said falsely of a number. -/
def restR (M : Nat) (z : Int) : Nat := if 0 ≤ z then M + 1 - z.toNat else 0
theorem foldR (M : Nat) : ∀ (zs : List Int) (a : Nat), zs.foldl (fun a z => a + (if 0 ≤ z then M + 1 - z.toNat else 0)) a = a + (zs.map (restR M)).sum
  | [], a => by simp
  | z :: zs, a => by
    rw [List.foldl_cons, foldR M zs, List.map_cons, List.sum_cons]
    unfold restR
    omega
theorem massR (M : Nat) (zs : List Int) : massL M zs = (zs.map (restR M)).sum := by
  unfold massL
  rw [foldR, Nat.zero_add]
theorem getD_at0 {zs : List Int} {k : Nat} (h : k < zs.length) : zs.getD k 0 = zs[k] := by simp [List.getD, h]
theorem rest_neg {M : Nat} {z : Int} (h : ¬ 0 ≤ z) : restR M z = 0 := if_neg h
theorem rest_pos {M : Nat} {z : Int} (h : 0 ≤ z) : restR M z = M + 1 - z.toNat := if_pos h
theorem rest_le {M : Nat} {p : Bool} {z : Int} (h : -1 ≤ z ∧ z ≤ (M : Int)) : restR M (aft1 M p z) ≤ restR M z ∧ (p = true → 0 ≤ z → restR M (aft1 M p z) < restR M z) := by
  by_cases h0 : 0 ≤ z
  · cases p with
    | false => rw [aft1_no]; exact ⟨Nat.le_refl _, fun e => by cases e⟩
    | true =>
      have : restR M (aft1 M true z) < restR M z := by
        rw [aft1_yes h0, rest_pos h0]
        by_cases hz : z = (M : Int)
        · rw [if_pos hz, rest_neg (by omega)]; omega
        · rw [if_neg hz, rest_pos (by omega)]; omega
      exact ⟨Nat.le_of_lt this, fun _ _ => this⟩
  · rw [aft1_neg h0]
    exact ⟨Nat.le_refl _, fun _ e => absurd e h0⟩
theorem mass_idx {M : Nat} : ∀ (zs : List Int) (b : Nat → Bool), fitS M zs →
    ((zs.mapIdx fun j z => aft1 (M : Int) (b j) z).map (restR M)).sum ≤ (zs.map (restR M)).sum ∧
    ((∃ j z, zs[j]? = some z ∧ 0 ≤ z ∧ b j = true) → ((zs.mapIdx fun j z => aft1 (M : Int) (b j) z).map (restR M)).sum < (zs.map (restR M)).sum)
  | [], b, _ => ⟨by simp, by rintro ⟨j, z, h, _⟩; simp at h⟩
  | z :: zs, b, hf => by
    have ih := mass_idx zs (fun j => b (j + 1)) fun x hx => hf x (by simp [hx])
    have hz := rest_le (p := b 0) (hf z (by simp))
    rw [List.mapIdx_cons, List.map_cons, List.map_cons, List.sum_cons, List.sum_cons]
    refine ⟨by have := ih.1; omega, ?_⟩
    rintro ⟨j, x, h1, h2, h3⟩
    cases j with
    | zero =>
      simp at h1
      subst h1
      have := ih.1
      have := hz.2 h3 h2
      omega
    | succ j =>
      have := ih.2 ⟨j, x, by simpa using h1, h2, h3⟩
      omega
theorem inTo_some {q : Int} {l : List Int} : ∀ {k}, inTo q l k ≠ 0 → ∃ i, i < k ∧ inQ q (l.getD i 0).toNat = true
  | 0, h => absurd rfl h
  | k + 1, h => by
    cases hb : inQ q (l.getD k 0).toNat with
    | true => exact ⟨k, by omega, hb⟩
    | false =>
      rw [inTo, hb] at h
      obtain ⟨i, h1, h2⟩ := inTo_some (q := q) (l := l) (k := k) (by simpa using h)
      exact ⟨i, by omega, h2⟩
theorem inTo_not {q : Int} {l : List Int} : ∀ {k}, inTo q l k ≠ k → ∃ i, i < k ∧ inQ q (l.getD i 0).toNat = false
  | 0, h => absurd rfl h
  | k + 1, h => by
    cases hb : inQ q (l.getD k 0).toNat with
    | false => exact ⟨k, by omega, hb⟩
    | true =>
      rw [inTo, hb] at h
      obtain ⟨i, h1, h2⟩ := inTo_not (q := q) (l := l) (k := k) (by simpa using h)
      exact ⟨i, by omega, h2⟩
/-- A question that parts the open numbers: some are told by either answer. -/
theorem parts_open {zs : List Int} {q : Int} (h : vain q (opens zs) = false) (b : Bool) : ∃ j z, zs[j]? = some z ∧ 0 ≤ z ∧ inQ q j = b := by
  have h := of_decide_eq_false h
  obtain ⟨i, h1, h2⟩ : ∃ i, i < (opens zs).length ∧ inQ q ((opens zs).getD i 0).toNat = b := by
    cases b with
    | true => exact inTo_some fun e => h (.inl e)
    | false => exact inTo_not fun e => h (.inr e)
  obtain ⟨j, hj, z, hz, h0⟩ := mem_opensR.1 (List.getElem_mem h1)
  rw [getD_at0 h1, hj] at h2
  exact ⟨j, z, hz, h0, by simpa using h2⟩
theorem mass_after {M : Nat} {zs : List Int} (hs : Short M zs) {q : Int} (h : vain q (opens zs) = false) (y : Bool) : massL M (afters zs M q y) < massL M zs := by
  rw [massR, massR, afters_map]
  refine (mass_idx zs (fun j => y != inQ q j) hs.fit).2 ?_
  obtain ⟨j, z, h1, h2, h3⟩ := parts_open h (!y)
  exact ⟨j, z, h1, h2, by rw [h3]; cases y <;> rfl⟩
theorem open_after {M : Nat} {zs : List Int} {q : Int} (h : vain q (opens zs) = false) (y : Bool) : 0 < (opens (afters zs (M : Int) q y)).length := by
  obtain ⟨j, z, h1, h2, h3⟩ := parts_open h y
  refine List.length_pos_of_mem (a := (j : Int)) (mem_opensR.2 ⟨j, rfl, z, ?_, h2⟩)
  rw [afters_get h1, h3]
  cases y <;> exact congrArg some aft1_no
theorem vain_few {zs : List Int} (h : doneL zs = true) (q : Int) : vain q (opens zs) = true := by
  have h := of_decide_eq_true h
  have h2 := inTo_le q (opens zs) (opens zs).length
  exact decide_eq_true (by omega)
theorem mass_bd {M : Nat} {zs : List Int} (hs : Short M zs) : massL M zs ≤ 10 := by
  rw [massR]
  have h : ∀ (l : List Int), (l.map (restR M)).sum ≤ l.length * 2 := by
    intro l
    induction l with
    | nil => simp
    | cons z l ih =>
      rw [List.map_cons, List.sum_cons, List.length_cons]
      have : restR M z ≤ 2 := by
        have := hs.m
        unfold restR
        split <;> omega
      omega
  have := h zs
  have := hs.len
  omega

/-- What is known of a state: whether who is to ask wins, the most and the fewest questions that follow, in how many ways. -/
structure OutR where
  wins : Bool
  long : Nat
  short : Nat
  many : Nat
def endR : OutR := ⟨false, 0, 0, 1⟩
def OutR.or (a b : OutR) : OutR := ⟨a.wins || b.wins, max a.long b.long, min a.short b.short, a.many + b.many⟩
def bothR (n y : OutR) : OutR := ⟨!n.wins && !y.wins, 1 + max n.long y.long, 1 + min n.short y.short, n.many + y.many⟩
/-- The questions that can be chosen. -/
def choL (qs zs : List Int) : List Int := qs.filter fun q => !vain q (opens zs)
def orTo (f : Int → OutR) (l : List Int) : Nat → OutR
  | 0 => endR
  | 1 => f (l.getD 0 0)
  | k + 2 => (orTo f l (k + 1)).or (f (l.getD (k + 1) 0))
def raceF (M : Nat) (qs : List Int) : Nat → List Int → OutR
  | 0, _ => endR
  | m + 1, zs => orTo (fun q => bothR (raceF M qs m (afters zs M q false)) (raceF M qs m (afters zs M q true))) (choL qs zs) (choL qs zs).length
def raceL (M : Nat) (qs zs : List Int) : OutR := raceF M qs (massL M zs + 1) zs
def raceB (M : Nat) (qs zs : List Int) (q : Int) : OutR := bothR (raceL M qs (afters zs M q false)) (raceL M qs (afters zs M q true))
theorem mem_choL {qs zs : List Int} {q : Int} : q ∈ choL qs zs ↔ q ∈ qs ∧ vain q (opens zs) = false := by simp [choL]
theorem orTo_congr {f g : Int → OutR} {l : List Int} (h : ∀ q ∈ l, f q = g q) : ∀ {k}, k ≤ l.length → orTo f l k = orTo g l k
  | 0, _ => rfl
  | 1, hk => by
    have h0 : 0 < l.length := by omega
    have := h (l.getD 0 0) (by rw [getD_at0 h0]; exact List.getElem_mem _)
    exact this
  | k + 2, hk => by
    rw [orTo, orTo, orTo_congr h (k := k + 1) (by omega), h _ (by rw [getD_at0 (show k + 1 < l.length by omega)]; exact List.getElem_mem _)]
theorem raceF_same (M : Nat) (qs : List Int) : ∀ (m n : Nat) (zs : List Int), Short M zs → massL M zs < m → massL M zs < n → raceF M qs m zs = raceF M qs n zs
  | 0, _, zs, _, h, _ => absurd h (by omega)
  | _, 0, zs, _, _, h => absurd h (by omega)
  | m + 1, n + 1, zs, hs, hm, hn => by
    rw [raceF, raceF]
    refine orTo_congr (fun q hq => ?_) (Nat.le_refl _)
    have hv := (mem_choL.1 hq).2
    have h1 := mass_after hs hv false
    have h2 := mass_after hs hv true
    rw [raceF_same M qs m n _ (hs.after q false) (by omega) (by omega), raceF_same M qs m n _ (hs.after q true) (by omega) (by omega)]
theorem raceL_eq {M : Nat} (qs : List Int) {zs : List Int} (hs : Short M zs) : raceL M qs zs = orTo (raceB M qs zs) (choL qs zs) (choL qs zs).length := by
  rw [raceL, raceF]
  refine orTo_congr (fun q hq => ?_) (Nat.le_refl _)
  have hv := (mem_choL.1 hq).2
  have h1 := mass_after hs hv false
  have h2 := mass_after hs hv true
  rw [raceB, raceL, raceL]
  rw [raceF_same M qs (massL M zs) (massL M (afters zs M q false) + 1) _ (hs.after q false) (by omega) (by omega), raceF_same M qs (massL M zs) (massL M (afters zs M q true) + 1) _ (hs.after q true) (by omega) (by omega)]
theorem race_end {M : Nat} {qs zs : List Int} (hs : Short M zs) (h : choL qs zs = []) : raceL M qs zs = endR := by rw [raceL_eq qs hs, h]; rfl

/-- Bounds, so that nothing runs over. -/
structure BdR (m : Nat) (o : OutR) : Prop where
  long : o.long ≤ m
  short : o.short ≤ o.long
  pos : 1 ≤ o.many
  many : o.many ≤ 10 ^ m
theorem orTo_bd {f : Int → OutR} {l : List Int} {m : Nat} (h : ∀ q ∈ l, (f q).long ≤ m ∧ (f q).short ≤ (f q).long ∧ 1 ≤ (f q).many ∧ (f q).many ≤ 2 * 10 ^ (m - 1)) : ∀ {k}, 1 ≤ k → k ≤ l.length → (orTo f l k).long ≤ m ∧ (orTo f l k).short ≤ (orTo f l k).long ∧ 1 ≤ (orTo f l k).many ∧ (orTo f l k).many ≤ k * (2 * 10 ^ (m - 1))
  | 0, h1, _ => absurd h1 (by omega)
  | 1, _, hk => by
    have h0 : 0 < l.length := by omega
    have := h (l.getD 0 0) (by rw [getD_at0 h0]; exact List.getElem_mem _)
    rw [Nat.one_mul]
    exact this
  | k + 2, _, hk => by
    have ih := orTo_bd h (k := k + 1) (by omega) (by omega)
    have hq := h (l.getD (k + 1) 0) (by rw [getD_at0 (show k + 1 < l.length by omega)]; exact List.getElem_mem _)
    rw [orTo]
    generalize orTo f l (k + 1) = a at ih ⊢
    generalize f (l.getD (k + 1) 0) = b at hq ⊢
    refine ⟨?_, ?_, ?_, ?_⟩
    · show max a.long b.long ≤ m
      omega
    · show min a.short b.short ≤ max a.long b.long
      omega
    · show 1 ≤ a.many + b.many
      omega
    · show a.many + b.many ≤ (k + 2) * (2 * 10 ^ (m - 1))
      have : (k + 2) * (2 * 10 ^ (m - 1)) = (k + 1) * (2 * 10 ^ (m - 1)) + 2 * 10 ^ (m - 1) := by rw [← Nat.succ_mul]
      omega
theorem raceB_bdF {M : Nat} {qs zs : List Int} (hs : Short M zs) (m : Nat) (hm : massL M zs ≤ m) (ih : ∀ ys, Short M ys → massL M ys < m → BdR (massL M ys) (raceL M qs ys)) {q : Int} (hv : vain q (opens zs) = false) : (raceB M qs zs q).long ≤ massL M zs ∧ (raceB M qs zs q).short ≤ (raceB M qs zs q).long ∧ 1 ≤ (raceB M qs zs q).many ∧ (raceB M qs zs q).many ≤ 2 * 10 ^ (massL M zs - 1) := by
  have l1 := mass_after hs hv false
  have l2 := mass_after hs hv true
  have h1 := ih _ (hs.after q false) (by omega)
  have h2 := ih _ (hs.after q true) (by omega)
  unfold raceB
  have a1 := h1.long
  have a2 := h2.long
  have b1 := h1.short
  have b2 := h2.short
  have c1 := h1.pos
  have d1 := Nat.le_trans h1.many (Nat.pow_le_pow_right (by omega) (show massL M (afters zs M q false) ≤ massL M zs - 1 by omega))
  have d2 := Nat.le_trans h2.many (Nat.pow_le_pow_right (by omega) (show massL M (afters zs M q true) ≤ massL M zs - 1 by omega))
  generalize raceL M qs (afters zs M q false) = a at *
  generalize raceL M qs (afters zs M q true) = b at *
  refine ⟨?_, ?_, ?_, ?_⟩
  · show 1 + max a.long b.long ≤ _
    omega
  · show 1 + min a.short b.short ≤ 1 + max a.long b.long
    omega
  · show 1 ≤ a.many + b.many
    omega
  · show a.many + b.many ≤ _
    omega
theorem race_bdF {M : Nat} {qs : List Int} (hq : qs.length ≤ 5) : ∀ (m : Nat) (zs : List Int), Short M zs → massL M zs < m → BdR (massL M zs) (raceL M qs zs)
  | 0, zs, _, h => absurd h (by omega)
  | m + 1, zs, hs, h => by
    cases hc : choL qs zs with
    | nil =>
      rw [race_end hs hc]
      exact ⟨Nat.zero_le _, Nat.le_refl _, Nat.le_refl _, Nat.pow_pos (by omega)⟩
    | cons q0 l0 =>
      have hl : 1 ≤ (choL qs zs).length := by rw [hc]; simp
      have hl5 : (choL qs zs).length ≤ 5 := Nat.le_trans (List.length_filter_le _ _) hq
      have hmass : 1 ≤ massL M zs := by
        have := mass_after hs (mem_choL.1 (show q0 ∈ choL qs zs by rw [hc]; simp)).2 false
        omega
      have hb := orTo_bd (f := raceB M qs zs) (l := choL qs zs) (m := massL M zs) (fun q hq' => raceB_bdF hs m (by omega) (fun ys hy hlt => race_bdF hq m ys hy hlt) (mem_choL.1 hq').2) hl (Nat.le_refl _)
      rw [← raceL_eq qs hs] at hb
      refine ⟨hb.1, hb.2.1, hb.2.2.1, Nat.le_trans hb.2.2.2 ?_⟩
      obtain ⟨d, hd⟩ : ∃ d, massL M zs = d + 1 := ⟨massL M zs - 1, by omega⟩
      rw [hd, Nat.add_sub_cancel, Nat.pow_succ]
      have := Nat.mul_le_mul_right (2 * 10 ^ d) hl5
      omega
theorem race_bd {M : Nat} {qs zs : List Int} (hq : qs.length ≤ 5) (hs : Short M zs) : BdR (massL M zs) (raceL M qs zs) := race_bdF hq _ zs hs (Nat.lt_succ_self _)
/-- The bounds as numbers. -/
theorem race_nums {M : Nat} {qs zs : List Int} (hq : qs.length ≤ 5) (hs : Short M zs) : (raceL M qs zs).long ≤ 10 ∧ (raceL M qs zs).short ≤ (raceL M qs zs).long ∧ 1 ≤ (raceL M qs zs).many ∧ (raceL M qs zs).many ≤ 10000000000 := by
  have h := race_bd hq hs
  have hm := mass_bd hs
  have h2 : (10 : Nat) ^ massL M zs ≤ 10 ^ 10 := Nat.pow_le_pow_right (by omega) hm
  refine ⟨Nat.le_trans h.long hm, h.short, h.pos, Nat.le_trans h.many (Nat.le_trans h2 (by decide))⟩
theorem raceTo_nums {M : Nat} {qs zs : List Int} (hq : qs.length ≤ 5) (hs : Short M zs) {k : Nat} (h1 : 1 ≤ k) (hk : k ≤ (choL qs zs).length) :
    (orTo (raceB M qs zs) (choL qs zs) k).long ≤ 20 ∧ (orTo (raceB M qs zs) (choL qs zs) k).short ≤ 20 ∧ (orTo (raceB M qs zs) (choL qs zs) k).many ≤ 100000000000 := by
  have hb := orTo_bd (f := raceB M qs zs) (l := choL qs zs) (m := massL M zs) (fun q hq' => raceB_bdF hs _ (Nat.le_refl _) (fun ys hy hlt => race_bd hq hy) (mem_choL.1 hq').2) h1 hk
  have hm := mass_bd hs
  have h5 : k ≤ 5 := Nat.le_trans hk (Nat.le_trans (List.length_filter_le _ _) hq)
  have h2 : (10 : Nat) ^ (massL M zs - 1) ≤ 10 ^ 10 := Nat.pow_le_pow_right (by omega) (by omega)
  have h3 : k * (2 * 10 ^ (massL M zs - 1)) ≤ 5 * (2 * 10 ^ 10) := Nat.mul_le_mul h5 (Nat.mul_le_mul_left 2 h2)
  refine ⟨by omega, by omega, Nat.le_trans hb.2.2.2 (Nat.le_trans h3 (by decide))⟩
theorem raceB_nums {M : Nat} {qs zs : List Int} (hq : qs.length ≤ 5) (hs : Short M zs) (q : Int) :
    (raceB M qs zs q).long ≤ 20 ∧ (raceB M qs zs q).short ≤ 20 ∧ (raceB M qs zs q).many ≤ 20000000000 := by
  have h1 := race_nums hq (hs.after q false)
  have h2 := race_nums hq (hs.after q true)
  unfold raceB
  generalize raceL M qs (afters zs M q false) = a at *
  generalize raceL M qs (afters zs M q true) = b at *
  refine ⟨?_, ?_, ?_⟩
  · show 1 + max a.long b.long ≤ _
    omega
  · show 1 + min a.short b.short ≤ _
    omega
  · show a.many + b.many ≤ _
    omega
end Go.Proofs.Ytopgccficjkenaa
