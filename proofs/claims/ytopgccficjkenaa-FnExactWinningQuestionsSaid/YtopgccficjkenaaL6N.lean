/- Comparisons of short states, as numbers: what is behind them, how many are needed. -/
import Derived.Test.YtopgccficjkenaaAfter
import Derived.Test.YtopgccficjkenaaVain
import Derived.Test.YtopgccficjkenaaTold
namespace Go.Proofs.Ytopgccficjkenaa
open Go.RowKit Go.ChangeShapes Go.WideShapes
set_option linter.unusedVariables false

/-- The numbers behind a comparison. -/
def cmpAft (zs : List Int) (M k : Nat) (y : Bool) : List Int := zs.mapIdx fun j z => aft1 (M : Int) (y != decide (j < k)) z
theorem cmpAft_len (zs : List Int) (M k : Nat) (y : Bool) : (cmpAft zs M k y).length = zs.length := by simp [cmpAft]
theorem inQ_cmp {j k : Nat} (hk : k ≤ 12) (hj : j ≤ 12) : inQ ((2 : Int) ^ k - 1) j = decide (j < k) := by
  have : ∀ k, k ≤ 12 → ∀ j, j ≤ 12 → inQ ((2 : Int) ^ k - 1) j = decide (j < k) := by decide +kernel
  exact this k hk j hj
theorem afters_cmp {zs : List Int} {M k : Nat} {y : Bool} (hl : zs.length ≤ 12) (hk : k ≤ 12) : afters zs (M : Int) ((2 : Int) ^ k - 1) y = cmpAft zs M k y := by
  apply List.ext_getElem?
  intro j
  by_cases hj : j < zs.length
  · rw [show (afters zs (M : Int) ((2 : Int) ^ k - 1) y)[j]? = _ from aftTo_lt zs (M : Int) _ y zs.length j hj hj, inQ_cmp hk (by omega), getD_at hj]
    simp [cmpAft, hj]
  · rw [List.getElem?_eq_none (by rw [afters_len]; omega), List.getElem?_eq_none (by rw [cmpAft_len]; omega)]

/-- A state's number, and the state of a number. -/
def keyS (M : Nat) (zs : List Int) : Nat := zs.foldl (fun a z => a * (M + 2) + (z + 1).toNat) 0
def stOf (M : Nat) : Nat → Nat → List Int
  | 0, _ => []
  | n + 1, key => stOf M n (key / (M + 2)) ++ [((key % (M + 2) : Nat) : Int) - 1]
theorem stOf_len (M : Nat) : ∀ n key, (stOf M n key).length = n
  | 0, _ => rfl
  | n + 1, key => by rw [stOf, List.length_append, stOf_len M n]; rfl
theorem keyTo_snoc (M : Nat) (zs : List Int) (z : Int) : keyS M (zs ++ [z]) = keyS M zs * (M + 2) + (z + 1).toNat := by simp [keyS]
theorem keyTo_stOf (M : Nat) : ∀ n key, key < (M + 2) ^ n → keyS M (stOf M n key) = key
  | 0, key, h => by
    rw [Nat.pow_zero] at h
    obtain rfl : key = 0 := by omega
    rfl
  | n + 1, key, h => by
    rw [stOf, keyTo_snoc, keyTo_stOf M n _ (Nat.div_lt_of_lt_mul (by rw [Nat.mul_comm, ← Nat.pow_succ]; exact h)), show (((key % (M + 2) : Nat) : Int) - 1 + 1).toNat = key % (M + 2) from by omega]
    exact Nat.div_add_mod' key (M + 2)
/-- All in -1..M. -/
def fitS (M : Nat) (zs : List Int) : Prop := ∀ z ∈ zs, -1 ≤ z ∧ z ≤ (M : Int)
theorem fitS_snoc {M : Nat} {zs : List Int} {z : Int} (h : fitS M (zs ++ [z])) : fitS M zs ∧ -1 ≤ z ∧ z ≤ (M : Int) :=
  ⟨fun x hx => h x (List.mem_append_left _ hx), h z (by simp)⟩
theorem keyTo_rev (M : Nat) : ∀ (rs : List Int), fitS M rs.reverse → keyS M rs.reverse < (M + 2) ^ rs.length ∧ stOf M rs.length (keyS M rs.reverse) = rs.reverse
  | [], _ => ⟨by simp [keyS], rfl⟩
  | z :: rs, h => by
    rw [List.reverse_cons] at h ⊢
    obtain ⟨h1, h2, h3⟩ := fitS_snoc h
    obtain ⟨h4, h5⟩ := keyTo_rev M rs h1
    rw [keyTo_snoc]
    have hz : (z + 1).toNat < M + 2 := by omega
    have hd : (keyS M rs.reverse * (M + 2) + (z + 1).toNat) / (M + 2) = keyS M rs.reverse := by
      rw [Nat.mul_comm, Nat.mul_add_div (by omega), Nat.div_eq_of_lt hz, Nat.add_zero]
    have hm : (keyS M rs.reverse * (M + 2) + (z + 1).toNat) % (M + 2) = (z + 1).toNat := by
      rw [Nat.mul_comm, Nat.mul_add_mod, Nat.mod_eq_of_lt hz]
    refine ⟨?_, ?_⟩
    · rw [List.length_cons, Nat.pow_succ]
      calc keyS M rs.reverse * (M + 2) + (z + 1).toNat < keyS M rs.reverse * (M + 2) + (M + 2) := by omega
        _ = (keyS M rs.reverse + 1) * (M + 2) := by rw [Nat.add_mul, Nat.one_mul]
        _ ≤ _ := Nat.mul_le_mul_right _ h4
    · rw [List.length_cons, stOf, hd, hm, h5, show (((z + 1).toNat : Nat) : Int) - 1 = z from by omega]
theorem keyTo_lt {M : Nat} {zs : List Int} (h : fitS M zs) : keyS M zs < (M + 2) ^ zs.length := by
  have := (keyTo_rev M zs.reverse (by rw [List.reverse_reverse]; exact h)).1
  rwa [List.reverse_reverse, List.length_reverse] at this
theorem stOf_keyTo {M : Nat} {zs : List Int} (h : fitS M zs) : stOf M zs.length (keyS M zs) = zs := by
  have := (keyTo_rev M zs.reverse (by rw [List.reverse_reverse]; exact h)).2
  rwa [List.reverse_reverse, List.length_reverse] at this

/-- A short state. -/
structure Short (M : Nat) (zs : List Int) : Prop where
  m : M ≤ 1
  pos : 1 ≤ zs.length
  len : zs.length ≤ 5
  fit : fitS M zs
/-- Something holds of all short states. -/
def allS6 (p : Nat → List Int → Bool) : Bool := [0, 1].all fun M => [1, 2, 3, 4, 5].all fun n => (List.range ((M + 2) ^ n)).all fun key => p M (stOf M n key)
theorem allS6_at {p : Nat → List Int → Bool} (h : allS6 p = true) {M : Nat} {zs : List Int} (hs : Short M zs) : p M zs = true := by
  unfold allS6 at h
  have h1 := List.all_eq_true.1 h M (by have := hs.m; simp; omega)
  have h2 := List.all_eq_true.1 h1 zs.length (by have := hs.pos; have := hs.len; simp; omega)
  have h3 := List.all_eq_true.1 h2 (keyS M zs) (List.mem_range.2 (keyTo_lt hs.fit))
  rwa [stOf_keyTo hs.fit] at h3
theorem cmpAft_fit {M k : Nat} {y : Bool} {zs : List Int} (h : fitS M zs) : fitS M (cmpAft zs M k y) := fun z hz => by
  obtain ⟨j, hj, rfl⟩ := List.getElem_of_mem hz
  have hj' : j < zs.length := by rw [cmpAft_len] at hj; exact hj
  have := aft1_in (p := (y != decide (j < k))) (h zs[j] (List.getElem_mem hj')) (by omega)
  simpa [cmpAft] using this
theorem Short.aft {M : Nat} {zs : List Int} (h : Short M zs) (k : Nat) (y : Bool) : Short M (cmpAft zs M k y) :=
  ⟨h.m, by rw [cmpAft_len]; exact h.pos, by rw [cmpAft_len]; exact h.len, cmpAft_fit h.fit⟩
theorem Short.valid {M : Nat} {zs : List Int} (h : Short M zs) : isSt zs (M : Int) = true := by
  have h1 := h.m
  have h2 := h.pos
  have h3 := h.len
  unfold isSt
  simp only [Bool.and_eq_true]
  exact ⟨⟨inB_t (by omega) (by omega), inB_t (by omega) (by omega)⟩, List.all_eq_true.2 fun z hz => inB_iff.2 (h.fit z hz)⟩
theorem Short.of {M : Nat} {zs : List Int} (h : isSt zs (M : Int) = true) (h5 : zs.length ≤ 5) (h1 : M ≤ 1) : Short M zs :=
  ⟨h1, (isSt_len h).1, h5, fun z hz => by obtain ⟨j, hj, rfl⟩ := List.getElem_of_mem hz; exact isSt_at h hj⟩

/-- How many comparisons are needed. -/
def needT : Nat → Nat → List Nat
| 0, 1 => [0, 0]
  | 0, 2 => [0, 0, 0, 1]
  | 0, 3 => [0, 0, 0, 1, 0, 1, 1, 2]
  | 0, 4 => [0, 0, 0, 1, 0, 1, 1, 2, 0, 1, 1, 2, 1, 2, 2, 2]
  | 0, 5 => [0, 0, 0, 1, 0, 1, 1, 2, 0, 1, 1, 2, 1, 2, 2, 2, 0, 1, 1, 2, 1, 2, 2, 2, 1, 2, 2, 2, 2, 2, 2, 3]
  | 1, 1 => [0, 0, 0]
  | 1, 2 => [0, 0, 0, 0, 3, 2, 0, 2, 1]
  | 1, 3 => [0, 0, 0, 0, 3, 2, 0, 2, 1, 0, 3, 2, 3, 5, 4, 2, 4, 3, 0, 2, 1, 2, 4, 3, 1, 3, 2]
  | 1, 4 => [0, 0, 0, 0, 3, 2, 0, 2, 1, 0, 3, 2, 3, 5, 4, 2, 4, 3, 0, 2, 1, 2, 4, 3, 1, 3, 2, 0, 3, 2, 3, 5, 4, 2, 4, 3, 3, 5, 4, 5, 5, 5, 4, 5, 4, 2, 4, 3, 4, 5, 4, 3, 4, 3, 0, 2, 1, 2, 4, 3, 1, 3, 2, 2, 4, 3, 4, 5, 4, 3, 4, 3, 1, 3, 2, 3, 4, 3, 2, 3, 2]
  | 1, 5 => [0, 0, 0, 0, 3, 2, 0, 2, 1, 0, 3, 2, 3, 5, 4, 2, 4, 3, 0, 2, 1, 2, 4, 3, 1, 3, 2, 0, 3, 2, 3, 5, 4, 2, 4, 3, 3, 5, 4, 5, 5, 5, 4, 5, 4, 2, 4, 3, 4, 5, 4, 3, 4, 3, 0, 2, 1, 2, 4, 3, 1, 3, 2, 2, 4, 3, 4, 5, 4, 3, 4, 3, 1, 3, 2, 3, 4, 3, 2, 3, 2, 0, 3, 2, 3, 5, 4, 2, 4, 3, 3, 5, 4, 5, 5, 5, 4, 5, 4, 2, 4, 3, 4, 5, 4, 3, 4, 3, 3, 5, 4, 5, 5, 5, 4, 5, 4, 5, 5, 5, 5, 6, 5, 5, 5, 5, 4, 5, 4, 5, 5, 5, 4, 5, 4, 2, 4, 3, 4, 5, 4, 3, 4, 3, 4, 5, 4, 5, 5, 5, 4, 5, 4, 3, 4, 3, 4, 5, 4, 3, 4, 3, 0, 2, 1, 2, 4, 3, 1, 3, 2, 2, 4, 3, 4, 5, 4, 3, 4, 3, 1, 3, 2, 3, 4, 3, 2, 3, 2, 2, 4, 3, 4, 5, 4, 3, 4, 3, 4, 5, 4, 5, 5, 5, 4, 5, 4, 3, 4, 3, 4, 5, 4, 3, 4, 3, 1, 3, 2, 3, 4, 3, 2, 3, 2, 3, 4, 3, 4, 5, 4, 3, 4, 4, 2, 3, 2, 3, 4, 3, 2, 3, 3]
  | _, _ => []
def needL (M : Nat) (zs : List Int) : Nat := (needT M zs.length).getD (keyS M zs) 0
def nofL (M : Nat) (zs : List Int) (k : Nat) : Nat := 1 + max (needL M (cmpAft zs M k false)) (needL M (cmpAft zs M k true))
def lowN (zs : List Int) : Nat := ((opens zs).getD 0 0).toNat
def highN (zs : List Int) : Nat := ((opens zs).getD ((opens zs).length - 1) 0).toNat
/-- The plan while its comparisons are looked through. -/
def orP (p : Nat × Nat) (k need : Nat) : Nat × Nat := if p = (0, 0) ∨ need < p.1 then (need, k) else p
def planTo (M : Nat) (zs : List Int) : Nat → Nat × Nat
  | 0 => (0, 0)
  | i + 1 => orP (planTo M zs i) (lowN zs + 1 + i) (nofL M zs (lowN zs + 1 + i))
def usesL (zs : List Int) : Nat := highN zs - lowN zs
def planS (M : Nat) (zs : List Int) : Nat × Nat := planTo M zs (usesL zs)
def massL (M : Nat) (zs : List Int) : Nat := zs.foldl (fun a z => a + (if 0 ≤ z then M + 1 - z.toNat else 0)) 0
def doneL (zs : List Int) : Bool := decide ((opens zs).length < 2)

theorem need_plan {M : Nat} {zs : List Int} (h : Short M zs) : (planS M zs).1 = needL M zs := by
  have : allS6 (fun M zs => decide ((planS M zs).1 = needL M zs)) = true := by decide +kernel
  exact of_decide_eq_true (allS6_at this h)
theorem done_iff {M : Nat} {zs : List Int} (h : Short M zs) : (doneL zs = true ∧ needL M zs = 0 ∧ planS M zs = (0, 0)) ∨ (doneL zs = false ∧ 1 ≤ needL M zs ∧ needL M zs ≤ 6 ∧ lowN zs < (planS M zs).2 ∧ (planS M zs).2 ≤ highN zs) := by
  have : allS6 (fun M zs => (doneL zs && decide (needL M zs = 0) && decide (planS M zs = (0, 0))) || (!doneL zs && decide (1 ≤ needL M zs) && decide (needL M zs ≤ 6) && decide (lowN zs < (planS M zs).2) && decide ((planS M zs).2 ≤ highN zs))) = true := by decide +kernel
  have := allS6_at this h
  simpa [and_assoc] using this
theorem span_bd {M : Nat} {zs : List Int} (h : Short M zs) : lowN zs ≤ highN zs ∧ highN zs < zs.length ∧ (doneL zs = true → usesL zs = 0) := by
  have : allS6 (fun M zs => decide (lowN zs ≤ highN zs) && decide (highN zs < zs.length) && (!doneL zs || decide (usesL zs = 0))) = true := by decide +kernel
  have := allS6_at this h
  simp only [Bool.and_eq_true, Bool.or_eq_true, decide_eq_true_eq, Bool.not_eq_true'] at this
  exact ⟨this.1.1, this.1.2, fun hd => by rcases this.2 with h | h; (rw [hd] at h; cases h); exact h⟩
/-- Behind a comparison that parts the open numbers there is less left. -/
theorem mass_lt {M : Nat} {zs : List Int} (h : Short M zs) {k : Nat} (h1 : lowN zs < k) (h2 : k ≤ highN zs) (y : Bool) : massL M (cmpAft zs M k y) < massL M zs := by
  have : allS6 (fun M zs => (List.range 6).all fun k => !(decide (lowN zs < k) && decide (k ≤ highN zs)) || [true, false].all fun y => decide (massL M (cmpAft zs M k y) < massL M zs)) = true := by decide +kernel
  have := List.all_eq_true.1 (allS6_at this h) k (List.mem_range.2 (by have := span_bd h; have := h.len; omega))
  simp only [h1, h2, decide_true, Bool.and_self, Bool.not_true, Bool.false_or] at this
  exact of_decide_eq_true (List.all_eq_true.1 this y (by cases y <;> simp))
theorem planTo_bd {M : Nat} {zs : List Int} (h : Short M zs) {i : Nat} (hi : i ≤ 5) : (planTo M zs i).1 ≤ 20 ∧ (planTo M zs i).2 ≤ 20 := by
  have : allS6 (fun M zs => (List.range 6).all fun i => decide ((planTo M zs i).1 ≤ 20) && decide ((planTo M zs i).2 ≤ 20)) = true := by decide +kernel
  have := List.all_eq_true.1 (allS6_at this h) i (List.mem_range.2 (by omega))
  simpa using this
theorem needS_le {M : Nat} {zs : List Int} (h : Short M zs) : needL M zs ≤ 6 := by
  rcases done_iff h with ⟨_, h, _⟩ | ⟨_, _, h, _⟩ <;> omega
/-- A round of the search from below: a state is found where a comparison leads to found ones. -/
def canL (M : Nat) (zs : List Int) (r k : Nat) : Bool := decide (needL M (cmpAft zs M k true) < r) && decide (needL M (cmpAft zs M k false) < r)
def anyL (M : Nat) (zs : List Int) (r : Nat) : Nat → Bool
  | 0 => false
  | k + 1 => anyL M zs r k || canL M zs r (k + 1)
theorem round_iff {M : Nat} {zs : List Int} (h : Short M zs) {r : Nat} (h1 : 1 ≤ r) (h2 : r ≤ needL M zs) : anyL M zs r (zs.length - 1) = decide (needL M zs = r) := by
  have : allS6 (fun M zs => (List.range 7).all fun r => !(decide (1 ≤ r) && decide (r ≤ needL M zs)) || decide (anyL M zs r (zs.length - 1) = decide (needL M zs = r))) = true := by decide +kernel
  have := List.all_eq_true.1 (allS6_at this h) r (List.mem_range.2 (by have := needS_le h; omega))
  simp only [h1, h2, decide_true, Bool.and_self, Bool.not_true, Bool.false_or] at this
  exact of_decide_eq_true this
/-- The specification's need of a comparison, and its search for the best. -/
def snofL (M : Nat) (zs : List Int) (k : Nat) : Int := if cmpAft zs M k true = zs ∨ cmpAft zs M k false = zs then -1 else ((1 + max (needL M (cmpAft zs M k true)) (needL M (cmpAft zs M k false)) : Nat) : Int)
theorem best6_first {M : Nat} {zs : List Int} (h : Short M zs) (hd : doneL zs = false) : snofL M zs (planS M zs).2 = (needL M zs : Int) ∧ ∀ k, 1 ≤ k → k < (planS M zs).2 → ¬ snofL M zs k = (needL M zs : Int) := by
  have : allS6 (fun M zs => doneL zs || (decide (snofL M zs (planS M zs).2 = (needL M zs : Int)) && (List.range 6).all fun k => !(decide (1 ≤ k) && decide (k < (planS M zs).2)) || !decide (snofL M zs k = (needL M zs : Int)))) = true := by decide +kernel
  have := allS6_at this h
  simp only [hd, Bool.false_or, Bool.and_eq_true, decide_eq_true_eq] at this
  refine ⟨this.1, fun k h1 h2 => ?_⟩
  have h3 : (planS M zs).2 ≤ 5 := by
    have := span_bd h
    have := h.len
    rcases done_iff h with ⟨h, _⟩ | ⟨_, _, _, _, h⟩
    · rw [hd] at h; cases h
    · omega
  have := List.all_eq_true.1 this.2 k (List.mem_range.2 (by omega))
  simpa [h1, h2] using this
/-- A comparison leads back just where it does not part the open numbers. -/
theorem back_iff {M : Nat} {zs : List Int} (h : Short M zs) {k : Nat} (h1 : 1 ≤ k) (h2 : k < zs.length) (hd : doneL zs = false) : ((cmpAft zs M k true = zs ∨ cmpAft zs M k false = zs) ↔ ¬ (lowN zs < k ∧ k ≤ highN zs)) ∧ (vain ((2 : Int) ^ k - 1) (opens zs) = true ↔ ¬ (lowN zs < k ∧ k ≤ highN zs)) := by
  have : allS6 (fun M zs => doneL zs || (List.range 6).all fun k => !(decide (1 ≤ k) && decide (k < zs.length)) || (decide ((cmpAft zs M k true = zs ∨ cmpAft zs M k false = zs) ↔ ¬ (lowN zs < k ∧ k ≤ highN zs)) && decide (vain ((2 : Int) ^ k - 1) (opens zs) = true ↔ ¬ (lowN zs < k ∧ k ≤ highN zs)))) = true := by decide +kernel
  have := allS6_at this h
  rw [hd, Bool.false_or] at this
  have := List.all_eq_true.1 this k (List.mem_range.2 (by have := h.len; omega))
  simp only [h1, h2, decide_true, Bool.and_self, Bool.not_true, Bool.false_or, Bool.and_eq_true] at this
  exact ⟨of_decide_eq_true this.1, of_decide_eq_true this.2⟩
theorem vain_done {M : Nat} {zs : List Int} (h : Short M zs) {k : Nat} (h1 : 1 ≤ k) (h2 : k < zs.length) (hd : doneL zs = true) : vain ((2 : Int) ^ k - 1) (opens zs) = true := by
  have : allS6 (fun M zs => !doneL zs || (List.range 6).all fun k => !(decide (1 ≤ k) && decide (k < zs.length)) || vain ((2 : Int) ^ k - 1) (opens zs)) = true := by decide +kernel
  have := allS6_at this h
  rw [hd, Bool.not_true, Bool.false_or] at this
  have := List.all_eq_true.1 this k (List.mem_range.2 (by have := h.len; omega))
  simpa [h1, h2] using this
end Go.Proofs.Ytopgccficjkenaa
