/- Weights behind answers: Pascal's rule; the other question; how many questions are balanced. -/
import Derived.Test.YtdolonmjhlhkeabEven
namespace Go.Proofs.Ytdolonmjhlhkeab
open Go.RowKit Go.ChangeShapes Go.WideShapes
set_option linter.unusedVariables false

theorem ball_pascal (q k : Nat) (hq : q ≤ 29) (hk : k ≤ 2) : ball (q + 1) (min k (q + 1)) = ball q (min k q) + (if k = 0 then 0 else ball q (min (k - 1) q)) := by
  have : ∀ q, q ≤ 29 → ∀ k, k ≤ 2 → ball (q + 1) (min k (q + 1)) = ball q (min k q) + (if k = 0 then 0 else ball q (min (k - 1) q)) := by decide +kernel
  exact this q hq k hk
theorem ball_full (q : Nat) (hq : q ≤ 30) : ball q q = 2 ^ q := by
  have : ∀ q, q ≤ 30 → ball q q = 2 ^ q := by decide +kernel
  exact this q hq
theorem ball_double (q k : Nat) (hq : q ≤ 29) (hk : k ≤ 2) : ball (q + 1) (min k (q + 1)) ≤ 2 * ball q (min k q) := by
  have : ∀ q, q ≤ 29 → ∀ k, k ≤ 2 → ball (q + 1) (min k (q + 1)) ≤ 2 * ball q (min k q) := by decide +kernel
  exact this q hq k hk
/-- Both answers have the weight of a number together. -/
theorem numW_both {q M : Nat} {z : Int} (p : Bool) (hq : q ≤ 29) (hM : M ≤ 2) (hz : -1 ≤ z ∧ z ≤ (M : Int)) :
    numW q M (aft1 (M : Int) p z) + numW q M (aft1 (M : Int) (!p) z) = numW (q + 1) M z := by
  by_cases h0 : 0 ≤ z
  · obtain ⟨a, rfl⟩ : ∃ a : Nat, z = (a : Int) := ⟨z.toNat, by omega⟩
    have ha : a ≤ M := by omega
    have hno : aft1 (M : Int) false (a : Int) = a := aft1_no
    have hyes : numW q M (aft1 (M : Int) true (a : Int)) = (if M - a = 0 then 0 else ball q (min (M - a - 1) q)) := by
      rw [aft1_yes h0]
      by_cases he : (a : Int) = (M : Int)
      · rw [if_pos he, if_pos (by omega)]
        exact numW_no (by omega)
      · rw [if_neg he, if_neg (by omega)]
        unfold numW
        rw [if_pos (by omega)]
        congr 1
    have hN : numW q M (a : Int) = ball q (min (M - a) q) := by
      unfold numW; rw [if_pos h0, Int.toNat_natCast]
    have hN2 : numW (q + 1) M (a : Int) = ball (q + 1) (min (M - a) (q + 1)) := by
      unfold numW; rw [if_pos h0, Int.toNat_natCast]
    have hP := ball_pascal q (M - a) hq (by omega)
    cases p
    · show numW q M (aft1 (M : Int) false a) + numW q M (aft1 (M : Int) true a) = _
      rw [hno, hyes, hN, hN2, hP]
    · show numW q M (aft1 (M : Int) true a) + numW q M (aft1 (M : Int) false a) = _
      rw [hno, hyes, hN, hN2, hP]
      omega
  · have h1 : aft1 (M : Int) p z = z := aft1_neg h0
    have h2 : aft1 (M : Int) (!p) z = z := aft1_neg h0
    rw [h1, h2, numW_no h0, numW_no h0]
theorem afters_getD {zs : List Int} {m k : Int} {y : Bool} {j : Nat} (h : j < zs.length) : (afters zs m k y).getD j (-1) = aft1 m (y != inQ k j) (zs.getD j (-1)) := by
  have := aftTo_lt zs m k y zs.length j h h
  rw [List.getD_eq_getElem?_getD]
  unfold afters
  rw [this]
  rfl
theorem stWTo_both {q M : Nat} {zs : List Int} (k : Int) (hq : q ≤ 29) (hst : isSt zs (M : Int) = true) : ∀ j, j ≤ zs.length →
    stWTo q M (afters zs (M : Int) k true) j + stWTo q M (afters zs (M : Int) k false) j = stWTo (q + 1) M zs j
  | 0, _ => rfl
  | j + 1, h => by
    have ih := stWTo_both k hq hst j (by omega)
    have hat := isSt_at hst (k := j) (by omega)
    have hl := isSt_len hst
    rw [stWTo, stWTo, stWTo, afters_getD (by omega), afters_getD (by omega)]
    have hz : -1 ≤ zs.getD j (-1) ∧ zs.getD j (-1) ≤ (M : Int) := by rw [getD_at (show j < zs.length by omega)]; exact hat
    have := numW_both (q := q) (M := M) (z := zs.getD j (-1)) (true != inQ k j) hq (by omega) hz
    rw [show (!(true != inQ k j)) = (false != inQ k j) by cases inQ k j <;> rfl] at this
    omega
/-- Both answers have the weight of the State together. -/
theorem behW_both {q M : Nat} {zs : List Int} (k : Int) (hq : q ≤ 29) (hst : isSt zs (M : Int) = true) : behW q M zs k true + behW q M zs k false = stW (q + 1) M zs := by
  unfold behW stW
  rw [afters_len, afters_len]
  exact stWTo_both k hq hst zs.length (Nat.le_refl _)
theorem and_one (x : Nat) (hx : x < 4096) : (bits .and .i64 (x : Int) 1 == 1) = decide (x % 2 = 1) := by
  have h : ∀ a, a < 64 → ∀ b, b < 64 → (bits .and .i64 ((64 * a + b : Nat) : Int) 1 == 1) = decide ((64 * a + b) % 2 = 1) := by decide +kernel
  have := h (x / 64) (by omega) (x % 64) (by omega)
  rwa [show 64 * (x / 64) + x % 64 = x by omega] at this
theorem inQ_bit {a j : Nat} (ha : a < 4096) : inQ (a : Int) j = a.testBit j := by
  unfold inQ
  rw [show (a : Int) / 2 ^ j = ((a / 2 ^ j : Nat) : Int) by norm_cast]
  rw [and_one _ (Nat.lt_of_le_of_lt (Nat.div_le_self _ _) ha), Nat.testBit_eq_decide_div_mod_eq]
/-- The other question asks for the numbers that are not in it. -/
theorem inQ_other {n : Nat} {k : Int} (hn : n ≤ 12) (hk : 0 ≤ k ∧ k < 2 ^ n) {j : Nat} (hj : j < n) : inQ (2 ^ n - 1 - k) j = !(inQ k j) := by
  obtain ⟨a, rfl⟩ : ∃ a : Nat, k = (a : Int) := ⟨k.toNat, by omega⟩
  have hpc := pow_cast n
  have hpn : 2 ^ n ≤ 4096 := by
    have : ∀ n, n ≤ 12 → 2 ^ n ≤ 4096 := by decide
    exact this n hn
  have ha : a < 2 ^ n := by omega
  rw [show (2 : Int) ^ n - 1 - (a : Int) = ((2 ^ n - (a + 1) : Nat) : Int) by omega, inQ_bit (by omega), inQ_bit (by omega), Nat.testBit_two_pow_sub_succ ha]
  simp [hj]
theorem stWTo_ext {q M : Nat} {xs ys : List Int} : ∀ j, (∀ i, i < j → xs.getD i (-1) = ys.getD i (-1)) → stWTo q M xs j = stWTo q M ys j
  | 0, _ => rfl
  | j + 1, h => by rw [stWTo, stWTo, stWTo_ext j (fun i hi => h i (by omega)), h j (by omega)]
theorem behW_other {q M : Nat} {zs : List Int} {k : Int} (hn : zs.length ≤ 12) (hk : 0 ≤ k ∧ k < 2 ^ zs.length) (y : Bool) : behW q M zs (2 ^ zs.length - 1 - k) y = behW q M zs k (!y) := by
  unfold behW stW
  rw [afters_len, afters_len]
  refine stWTo_ext _ fun i hi => ?_
  rw [afters_getD hi, afters_getD hi, inQ_other hn hk hi]
  congr 1
  cases y <;> cases inQ k i <;> rfl
theorem wst_other {q M : Nat} {zs : List Int} {k : Int} (hn : zs.length ≤ 12) (hk : 0 ≤ k ∧ k < 2 ^ zs.length) : wst q M zs (2 ^ zs.length - 1 - k) = wst q M zs k := by
  unfold wst
  rw [behW_other hn hk, behW_other hn hk]
  exact Nat.max_comm _ _
/-- Counting over a list that reads the same both ways, an even number long, gives an even number. -/
def cntP (p : Nat → Bool) : Nat → Nat
  | 0 => 0
  | j + 1 => cntP p j + (if p j then 1 else 0)
theorem cntP_shift (p : Nat → Bool) : ∀ j, cntP p (j + 1) = (if p 0 then 1 else 0) + cntP (fun i => p (i + 1)) j
  | 0 => by simp [cntP]
  | j + 1 => by
    rw [cntP, cntP_shift p j, cntP]
    omega
theorem cntP_even (h : Nat) : ∀ (p : Nat → Bool), (∀ i, i < 2 * h → p i = p (2 * h - 1 - i)) → cntP p (2 * h) % 2 = 0 := by
  induction h with
  | zero => intro p _; rfl
  | succ h ih =>
    intro p hp
    rw [show 2 * (h + 1) = (2 * h + 1) + 1 by omega, cntP, cntP_shift]
    have h1 := ih (fun i => p (i + 1)) (fun i hi => by
      have := hp (i + 1) (by omega)
      rw [show 2 * (h + 1) - 1 - (i + 1) = (2 * h - 1 - i) + 1 by omega] at this
      exact this)
    have h0 := hp 0 (by omega)
    rw [show 2 * (h + 1) - 1 - 0 = 2 * h + 1 by omega] at h0
    rw [← h0]
    split <;> omega
theorem cntB_cntP (q M : Nat) (zs : List Int) : ∀ j, cntB q M zs j = cntP (fun i => isBal q M zs (i : Int)) j
  | 0 => rfl
  | j + 1 => by rw [cntB, cntP, cntB_cntP q M zs j]
/-- An even number of questions is balanced. -/
theorem cntB_even {q M : Nat} {zs : List Int} (hst : isSt zs (M : Int) = true) : cntB q M zs (2 ^ zs.length) % 2 = 0 := by
  have hl := isSt_len hst
  obtain ⟨n, hn⟩ : ∃ n, zs.length = n + 1 := ⟨zs.length - 1, by omega⟩
  rw [cntB_cntP]
  have e : 2 ^ zs.length = 2 * 2 ^ n := by rw [hn, Nat.pow_succ]; omega
  rw [e]
  refine cntP_even _ _ fun i hi => ?_
  have hk : 0 ≤ (i : Int) ∧ (i : Int) < 2 ^ zs.length := by
    have := pow_cast zs.length
    omega
  have := wst_other (q := q) (M := M) hl.2.1 hk
  have hc : ((2 * 2 ^ n - 1 - i : Nat) : Int) = 2 ^ zs.length - 1 - (i : Int) := by
    have := pow_cast zs.length
    omega
  show isBal q M zs (i : Int) = isBal q M zs ((2 * 2 ^ n - 1 - i : Nat) : Int)
  unfold isBal
  rw [hc, this]
/-- The even question has the least of the greater weights. -/
theorem bestTo_min (f : Nat → Nat) : ∀ j i, i < j → f (bestTo f j) ≤ f i
  | 0, i, h => by omega
  | j + 1, i, h => by
    by_cases hl : f j < f (bestTo f j)
    · rw [bestTo_yes hl]
      by_cases e : i = j
      · subst e; exact Nat.le_refl _
      · exact Nat.le_trans (Nat.le_of_lt hl) (bestTo_min f j i (by omega))
    · rw [bestTo_no hl]
      by_cases e : i = j
      · subst e; omega
      · exact bestTo_min f j i (by omega)
theorem cntP_pos {p : Nat → Bool} : ∀ {j}, 0 < cntP p j → ∃ i, i < j ∧ p i = true
  | 0, h => by simp [cntP] at h
  | j + 1, h => by
    by_cases hp : p j = true
    · exact ⟨j, by omega, hp⟩
    · rw [cntP, if_neg hp] at h
      obtain ⟨i, hi, hpi⟩ := cntP_pos h
      exact ⟨i, by omega, hpi⟩
theorem cntP_ge {p : Nat → Bool} {i : Nat} (hp : p i = true) : ∀ {j}, i < j → 0 < cntP p j
  | 0, h => by omega
  | j + 1, h => by
    rw [cntP]
    by_cases e : i = j
    · subst e; rw [if_pos hp]; omega
    · have := cntP_ge hp (show i < j by omega); omega
/-- The even question is balanced if some is. -/
theorem even_bal {q M : Nat} {zs : List Int} : isBal q M zs ((bestTo (wsN q M zs) (2 ^ zs.length) : Nat) : Int) = decide (0 < cntB q M zs (2 ^ zs.length)) := by
  have h1 : 1 ≤ 2 ^ zs.length := Nat.one_le_two_pow
  rw [Bool.eq_iff_iff, decide_eq_true_iff, cntB_cntP]
  constructor
  · intro hb
    have hle : bestTo (wsN q M zs) (2 ^ zs.length) < 2 ^ zs.length := by
      have : ∀ j, 1 ≤ j → bestTo (wsN q M zs) j < j := by
        intro j
        induction j with
        | zero => intro h; omega
        | succ j ih =>
          intro _
          rw [bestTo]
          split
          · omega
          · by_cases hj : j = 0
            · subst hj; simp [bestTo]
            · have := ih (by omega); omega
      exact this _ h1
    exact cntP_ge (p := fun i => isBal q M zs (i : Int)) hb hle
  · intro h
    obtain ⟨i, hi, hp⟩ := cntP_pos h
    have hmin := bestTo_min (wsN q M zs) _ i hi
    unfold isBal at hp ⊢
    rw [decide_eq_true_iff] at hp ⊢
    exact Nat.le_trans hmin hp
end Go.Proofs.Ytdolonmjhlhkeab
