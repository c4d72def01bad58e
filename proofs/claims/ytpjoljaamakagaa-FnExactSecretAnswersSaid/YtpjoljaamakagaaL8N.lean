/- The answerer, as numbers: the states at the end of answers, in the order of the answers. -/
import Derived.Test.YtpjoljaamakagaaAfter
import Derived.Test.YtpjoljaamakagaaOpenN
namespace Go.Proofs.Ytpjoljaamakagaa
set_option linter.unusedVariables false

/-- The state at the end of questions and answers. -/
def endZ (m : Int) : List Int → List Int → List Bool → List Int
  | zs, q :: qs, y :: bs => endZ m (afters zs m q y) qs bs
  | zs, _, _ => zs
/-- The n low bits of a number, the highest one first. -/
def bitsB : Nat → Nat → List Bool
  | 0, _ => []
  | n + 1, c => c.testBit n :: bitsB n c
def behindL (m q : Int) (L : List (List Int)) : List (List Int) := L.flatMap fun z => [afters z m q false, afters z m q true]
def endsL (m : Int) : List (List Int) → List Int → List (List Int)
  | L, [] => L
  | L, q :: qs => endsL m (behindL m q L) qs
theorem bitsB_len : ∀ n c, (bitsB n c).length = n
  | 0, _ => rfl
  | n + 1, c => by simp [bitsB, bitsB_len n c]
theorem bitsB_at : ∀ n c i, i < n → (bitsB n c)[i]? = some (c.testBit (n - 1 - i))
  | 0, c, i, h => absurd h (by omega)
  | n + 1, c, 0, h => by simp [bitsB]
  | n + 1, c, i + 1, h => by
    rw [bitsB, List.getElem?_cons_succ, bitsB_at n c i (by omega)]
    congr 2
    omega
theorem bitsB_mod : ∀ n c d, (∀ i, i < n → c.testBit i = d.testBit i) → bitsB n c = bitsB n d
  | 0, c, d, h => rfl
  | n + 1, c, d, h => by rw [bitsB, bitsB, h n (Nat.lt_succ_self n), bitsB_mod n c d fun i hi => h i (by omega)]
theorem endZ_len (m : Int) : ∀ qs zs bs, (endZ m zs qs bs).length = zs.length
  | [], zs, bs => by simp [endZ]
  | q :: qs, zs, [] => by simp [endZ]
  | q :: qs, zs, y :: bs => by rw [endZ, endZ_len m qs, afters_len]
theorem endZ_isSt (m : Int) : ∀ qs zs bs, isSt zs m = true → isSt (endZ m zs qs bs) m = true
  | [], zs, bs, h => by simpa [endZ] using h
  | q :: qs, zs, [], h => by simpa [endZ] using h
  | q :: qs, zs, y :: bs, h => by rw [endZ]; exact endZ_isSt m qs _ bs (afters_isSt q y h)
theorem endZ_take (m : Int) : ∀ (qs zs : List Int) (bs : List Bool) (k : Nat) (q : Int) (y : Bool), qs[k]? = some q → bs[k]? = some y → endZ m zs (qs.take (k + 1)) (bs.take (k + 1)) = afters (endZ m zs (qs.take k) (bs.take k)) m q y
  | [], zs, bs, k, q, y, h, _ => by simp at h
  | a :: qs, zs, [], k, q, y, _, h => by simp at h
  | a :: qs, zs, b :: bs, 0, q, y, h, h2 => by
    simp at h h2
    subst h h2
    simp [endZ]
  | a :: qs, zs, b :: bs, k + 1, q, y, h, h2 => by
    simp only [List.getElem?_cons_succ] at h h2
    have := endZ_take m qs (afters zs m a b) bs k q y h h2
    simpa [endZ] using this
theorem behindL_app (m q : Int) (L K : List (List Int)) : behindL m q (L ++ K) = behindL m q L ++ behindL m q K := by simp [behindL]
theorem behindL_len (m q : Int) : ∀ L : List (List Int), (behindL m q L).length = 2 * L.length
  | [] => rfl
  | z :: L => by
    show ([afters z m q false, afters z m q true] ++ behindL m q L).length = _
    rw [List.length_append, behindL_len m q L]
    simp
    omega
theorem endsL_app (m : Int) : ∀ (qs : List Int) (L K : List (List Int)), endsL m (L ++ K) qs = endsL m L qs ++ endsL m K qs
  | [], L, K => rfl
  | q :: qs, L, K => by rw [endsL, behindL_app, endsL_app m qs, ← endsL, ← endsL]
theorem endsL_snoc (m : Int) : ∀ (qs : List Int) (L : List (List Int)) (q : Int), endsL m L (qs ++ [q]) = behindL m q (endsL m L qs)
  | [], L, q => rfl
  | a :: qs, L, q => by show endsL m (behindL m a L) (qs ++ [q]) = _; rw [endsL_snoc m qs]; rfl
theorem endsL_take (m : Int) (qs : List Int) (L : List (List Int)) (k : Nat) (h : k < qs.length) : endsL m L (qs.take (k + 1)) = behindL m qs[k] (endsL m L (qs.take k)) := by
  rw [List.take_succ_eq_append_getElem h, endsL_snoc]
theorem endsL_len (m : Int) : ∀ (qs : List Int) (L : List (List Int)), (endsL m L qs).length = 2 ^ qs.length * L.length
  | [], L => by simp [endsL]
  | q :: qs, L => by rw [endsL, endsL_len m qs, behindL_len, List.length_cons, Nat.pow_succ, Nat.mul_assoc]
theorem endsL_all (m : Int) (n : Nat) : ∀ (qs : List Int) (L : List (List Int)), (∀ z ∈ L, z.length = n ∧ isSt z m = true) → ∀ z ∈ endsL m L qs, z.length = n ∧ isSt z m = true
  | [], L, h => h
  | q :: qs, L, h => endsL_all m n qs _ fun z hz => by
    obtain ⟨x, hx, hz⟩ := List.mem_flatMap.1 hz
    have := h x hx
    simp at hz
    rcases hz with rfl | rfl
    · exact ⟨by rw [afters_len]; exact this.1, afters_isSt _ _ this.2⟩
    · exact ⟨by rw [afters_len]; exact this.1, afters_isSt _ _ this.2⟩
theorem endsL_at (m : Int) : ∀ (qs zs : List Int) (c : Nat), c < 2 ^ qs.length → (endsL m [zs] qs)[c]? = some (endZ m zs qs (bitsB qs.length c))
  | [], zs, c, h => by
    have : c = 0 := by simp at h; omega
    subst this
    simp [endsL, endZ]
  | q :: qs, zs, c, h => by
    show (endsL m ([afters zs m q false] ++ [afters zs m q true]) qs)[c]? = _
    rw [endsL_app]
    have hl : (endsL m [afters zs m q false] qs).length = 2 ^ qs.length := by rw [endsL_len]; simp
    have hp : 2 ^ (q :: qs).length = 2 * 2 ^ qs.length := by rw [List.length_cons, Nat.pow_succ, Nat.mul_comm]
    rw [hp] at h
    show _ = some (endZ m zs (q :: qs) (c.testBit qs.length :: bitsB qs.length c))
    rw [endZ]
    by_cases hc : c < 2 ^ qs.length
    · rw [List.getElem?_append_left (by rw [hl]; exact hc), endsL_at m qs _ c hc, Nat.testBit_lt_two_pow hc]
    · rw [List.getElem?_append_right (by rw [hl]; omega), hl, endsL_at m qs _ (c - 2 ^ qs.length) (by omega)]
      have hd : c = 2 ^ qs.length + (c - 2 ^ qs.length) := by omega
      have ht : c.testBit qs.length = true := by
        rw [hd, Nat.testBit_two_pow_add_eq, Nat.testBit_lt_two_pow (by omega)]; rfl
      rw [ht, bitsB_mod qs.length (c - 2 ^ qs.length) c fun i hi => by
        conv => rhs; rw [hd]
        rw [Nat.testBit_two_pow_add_gt hi]]
/-- How many numbers are open at the end of the answers of a number; for all answers, in order. -/
def lft (m : Int) (zs qs : List Int) (c : Nat) : Nat := (opens (endZ m zs qs (bitsB qs.length c))).length
def opnL (m : Int) (zs qs : List Int) : List Int := (List.range (2 ^ qs.length)).map fun c => (lft m zs qs c : Int)
theorem opnL_len (m : Int) (zs qs : List Int) : (opnL m zs qs).length = 2 ^ qs.length := by simp [opnL]
theorem opnL_at (m : Int) (zs qs : List Int) (c : Nat) (h : c < 2 ^ qs.length) : (opnL m zs qs)[c]? = some (lft m zs qs c : Int) := by simp [opnL, h]
theorem opnL_get (m : Int) (zs qs : List Int) (c : Nat) (h : c < (opnL m zs qs).length) : (opnL m zs qs)[c] = (lft m zs qs c : Int) := by
  have e := opnL_at m zs qs c (by rw [opnL_len] at h; exact h)
  rw [List.getElem?_eq_getElem h] at e
  injection e
theorem opnL_map (m : Int) (zs qs : List Int) : (endsL m [zs] qs).map (fun z => ((opens z).length : Int)) = opnL m zs qs := by
  apply List.ext_getElem?
  intro c
  by_cases h : c < 2 ^ qs.length
  · rw [List.getElem?_map, endsL_at m qs zs c h, opnL_at m zs qs c h]; rfl
  · rw [List.getElem?_eq_none (by rw [List.length_map, endsL_len, List.length_singleton, Nat.mul_one]; exact Nat.le_of_not_lt h), List.getElem?_eq_none (by rw [opnL_len]; exact Nat.le_of_not_lt h)]
theorem opens_le (zs : List Int) : (opens zs).length ≤ zs.length := filt_len _ _
theorem lft_le (m : Int) (zs qs : List Int) (c : Nat) : lft m zs qs c ≤ zs.length := by
  have := opens_le (endZ m zs qs (bitsB qs.length c))
  rw [endZ_len] at this
  exact this

/-- How many of the first k are at least x. -/
def geTo (l : List Int) (x : Int) : Nat → Nat
  | 0 => 0
  | k + 1 => geTo l x k + if x ≤ l.getD k 0 then 1 else 0
theorem geTo_le (l : List Int) (x : Int) : ∀ k, geTo l x k ≤ k
  | 0 => Nat.le_refl _
  | k + 1 => by have := geTo_le l x k; unfold geTo; split <;> omega
theorem geTo_yes {l : List Int} {x : Int} {k : Nat} (hk : k < l.length) (h : x ≤ l[k]) : geTo l x (k + 1) = geTo l x k + 1 := by
  rw [geTo, if_pos (by simpa [List.getD, hk] using h)]
theorem geTo_no {l : List Int} {x : Int} {k : Nat} (hk : k < l.length) (h : ¬ x ≤ l[k]) : geTo l x (k + 1) = geTo l x k := by
  rw [geTo, if_neg (by simpa [List.getD, hk] using h), Nat.add_zero]
theorem geTo_zero {l : List Int} {x : Int} : ∀ {k : Nat}, geTo l x k = 0 ↔ ∀ j, j < k → ¬ x ≤ l.getD j 0
  | 0 => by simp [geTo]
  | k + 1 => by
    rw [geTo]
    constructor
    · intro h j hj
      by_cases e : j = k
      · subst e
        intro h2
        rw [if_pos h2] at h
        omega
      · exact geTo_zero.1 (Nat.eq_zero_of_add_eq_zero_right h) j (by omega)
    · intro h
      rw [if_neg (h k (by omega)), Nat.add_zero]
      exact geTo_zero.2 fun j hj => h j (by omega)
/-- All lists of answers that leave at least x numbers open. -/
def geC (m : Int) (zs qs : List Int) (x : Int) : Nat := geTo (opnL m zs qs) x (2 ^ qs.length)
theorem geC_le (m : Int) (zs qs : List Int) (x : Int) (h : qs.length ≤ 8) : geC m zs qs x ≤ 256 := by
  have := geTo_le (opnL m zs qs) x (2 ^ qs.length)
  have h2 : 2 ^ qs.length ≤ 2 ^ 8 := Nat.pow_le_pow_right (by omega) h
  unfold geC
  omega
/-- Whether questions tell. -/
def tellB (m : Int) (zs qs : List Int) : Bool := decide (geC m zs qs 2 = 0)
/-- The first place of at least x. -/
def FirstGe (l : List Int) (x : Int) (c : Nat) : Prop := ∃ h : c < l.length, x ≤ l[c] ∧ ∀ j, j < c → ¬ x ≤ l.getD j 0
theorem first_or (l : List Int) (x : Int) : ∀ k, k ≤ l.length → (∀ j, j < k → ¬ x ≤ l.getD j 0) ∨ ∃ c, c < k ∧ FirstGe l x c
  | 0, _ => .inl fun j hj => absurd hj (by omega)
  | k + 1, hk => by
    rcases first_or l x k (by omega) with h | ⟨c, hc, h⟩
    · by_cases hx : x ≤ l[k]
      · exact .inr ⟨k, by omega, by omega, hx, h⟩
      · refine .inl fun j hj => ?_
        by_cases e : j = k
        · subst e
          simpa [List.getD, show j < l.length by omega] using hx
        · exact h j (by omega)
    · exact .inr ⟨c, by omega, h⟩
/-- The greatest number of questions below k to which some answers hold. -/
def lngTo (m : Int) (zs qs : List Int) : Nat → Int
  | 0 => -1
  | k + 1 => if tellB m zs (qs.take k) = true then lngTo m zs qs k else (k : Int)
/-- The first of the greatest among the first k. -/
structure BestB (l : List Int) (k c : Nat) : Prop where
  lt : c < k
  le : k ≤ l.length
  top : ∀ j, j < k → l.getD j 0 ≤ l.getD c 0
  first : ∀ j, j < c → l.getD j 0 < l.getD c 0
theorem BestB.one {l : List Int} (h : 0 < l.length) : BestB l 1 0 := ⟨by omega, by omega, fun j hj => by
  have : j = 0 := by omega
  subst this; exact Int.le_refl _, fun j hj => absurd hj (by omega)⟩
theorem BestB.stay {l : List Int} {k c : Nat} (h : BestB l k c) (hk : k < l.length) (hx : l.getD k 0 ≤ l.getD c 0) : BestB l (k + 1) c :=
  ⟨by have := h.lt; omega, by omega, fun j hj => by
    by_cases e : j = k
    · subst e; exact hx
    · exact h.top j (by omega), h.first⟩
theorem BestB.turn {l : List Int} {k c : Nat} (h : BestB l k c) (hk : k < l.length) (hx : l.getD c 0 < l.getD k 0) : BestB l (k + 1) k :=
  ⟨by omega, by omega, fun j hj => by
    by_cases e : j = k
    · subst e; exact Int.le_refl _
    · have := h.top j (by omega); omega, fun j hj => by have := h.top j (by omega); omega⟩
theorem best_is (l : List Int) : ∀ k, 0 < k → k ≤ l.length → ∃ c, BestB l k c
  | 0, h, _ => absurd h (by omega)
  | 1, _, h => ⟨0, BestB.one (by omega)⟩
  | k + 2, _, h => by
    obtain ⟨c, hc⟩ := best_is l (k + 1) (by omega) (by omega)
    by_cases hx : l.getD (k + 1) 0 ≤ l.getD c 0
    · exact ⟨c, hc.stay (by omega) hx⟩
    · exact ⟨_, hc.turn (by omega) (by omega)⟩
theorem BestB.unique {l : List Int} {k c d : Nat} (h : BestB l k c) (g : BestB l k d) : c = d := by
  rcases Nat.lt_trichotomy c d with e | e | e
  · have := g.first c e
    have := h.top d g.lt
    omega
  · exact e
  · have := h.first d e
    have := g.top c h.lt
    omega
end Go.Proofs.Ytpjoljaamakagaa
