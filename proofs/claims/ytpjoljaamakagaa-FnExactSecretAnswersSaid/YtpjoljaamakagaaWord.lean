/- Words as numbers: their bits, how many of two are apart. -/
import Derived.Test.YtpjoljaamakagaaVain
import Derived.Laws.BitsAllLaws
namespace Go.Proofs.Ytpjoljaamakagaa
open Go.RowKit Go.ChangeShapes Go.WideShapes
set_option linter.unusedVariables false

/-- How many of the first places hold. -/
def cntB (p : Nat → Bool) : Nat → Nat
  | 0 => 0
  | n + 1 => cntB p n + (if p n then 1 else 0)
theorem cntB_le (p : Nat → Bool) : ∀ n, cntB p n ≤ n
  | 0 => Nat.le_refl _
  | n + 1 => by have := cntB_le p n; rw [cntB]; split <;> omega
theorem cntB_ext {p q : Nat → Bool} : ∀ n, (∀ i, i < n → p i = q i) → cntB p n = cntB q n
  | 0, _ => rfl
  | n + 1, h => by rw [cntB, cntB, cntB_ext n (fun i hi => h i (by omega)), h n (by omega)]
theorem cntB_mono (p : Nat → Bool) {n : Nat} : ∀ {m}, n ≤ m → cntB p n ≤ cntB p m
  | 0, h => by obtain rfl : n = 0 := by omega
               exact Nat.le_refl _
  | m + 1, h => by
    by_cases e : n = m + 1
    · subst e; exact Nat.le_refl _
    · have := cntB_mono p (n := n) (m := m) (by omega)
      rw [cntB]; omega
theorem cntB_stop {p : Nat → Bool} {n : Nat} : ∀ {m}, n ≤ m → (∀ i, n ≤ i → p i = false) → cntB p m = cntB p n
  | 0, h, _ => by obtain rfl : n = 0 := by omega
                  rfl
  | m + 1, h, h0 => by
    by_cases e : n = m + 1
    · subst e; rfl
    · rw [cntB, h0 m (by omega), cntB_stop (n := n) (m := m) (by omega) h0]; simp
theorem cntB_zero {p : Nat → Bool} : ∀ {n}, cntB p n = 0 → ∀ i, i < n → p i = false
  | 0, _, i, hi => absurd hi (by omega)
  | n + 1, h, i, hi => by
    rw [cntB] at h
    by_cases e : i = n
    · subst e
      cases hp : p i with
      | false => rfl
      | true => rw [hp] at h; simp at h
    · exact cntB_zero (n := n) (by omega) i (by omega)
theorem cntB_none {p : Nat → Bool} : ∀ n, (∀ i, i < n → p i = false) → cntB p n = 0
  | 0, _ => rfl
  | n + 1, h => by rw [cntB, cntB_none n (fun i hi => h i (by omega)), h n (by omega)]; rfl
/-- The number that has these bits. -/
def ofB (p : Nat → Bool) : Nat → Nat
  | 0 => 0
  | n + 1 => ofB p n + (if p n then 2 ^ n else 0)
theorem ofB_lt (p : Nat → Bool) : ∀ n, ofB p n < 2 ^ n
  | 0 => by simp [ofB]
  | n + 1 => by
    have := ofB_lt p n
    rw [ofB, Nat.pow_succ]
    split <;> omega
theorem ofB_bit (p : Nat → Bool) : ∀ n i, (ofB p n).testBit i = (decide (i < n) && p i)
  | 0, i => by simp [ofB]
  | n + 1, i => by
    have hl := ofB_lt p n
    have ih := ofB_bit p n i
    rw [ofB]
    by_cases e : i = n
    · subst e
      cases hp : p i with
      | false => simp only [Bool.false_eq_true, if_false, Nat.add_zero]; rw [ih]; simp
      | true =>
        simp only [if_true]
        rw [Nat.add_comm, Nat.testBit_two_pow_add_eq, ih]
        simp
    · by_cases hlt : i < n
      · have h1 : (ofB p n + if p n = true then 2 ^ n else 0).testBit i = (ofB p n).testBit i := by
          split
          · rw [Nat.add_comm, Nat.testBit_two_pow_add_gt hlt]
          · rw [Nat.add_zero]
        rw [h1, ih]
        simp [hlt, show i < n + 1 by omega]
      · have h2 : ofB p n + (if p n = true then 2 ^ n else 0) < 2 ^ (n + 1) := by rw [Nat.pow_succ]; split <;> omega
        rw [Nat.testBit_lt_two_pow (Nat.lt_of_lt_of_le h2 (Nat.pow_le_pow_right (by omega) (by omega)))]
        simp [show ¬ i < n + 1 by omega]
theorem ofB_ext {p q : Nat → Bool} : ∀ n, (∀ i, i < n → p i = q i) → ofB p n = ofB q n
  | 0, _ => rfl
  | n + 1, h => by rw [ofB, ofB, ofB_ext n (fun i hi => h i (by omega)), h n (by omega)]
theorem ofB_self {v n : Nat} (h : v < 2 ^ n) : ofB v.testBit n = v := by
  apply Nat.eq_of_testBit_eq
  intro i
  rw [ofB_bit]
  by_cases hi : i < n
  · simp [hi]
  · rw [Nat.testBit_lt_two_pow (Nat.lt_of_lt_of_le h (Nat.pow_le_pow_right (by omega) (by omega)))]; simp
theorem ofB_yes {p : Nat → Bool} {n : Nat} (h : p n = true) : ofB p (n + 1) = ofB p n + 2 ^ n := by rw [ofB, if_pos h]
theorem ofB_no {p : Nat → Bool} {n : Nat} (h : p n = false) : ofB p (n + 1) = ofB p n := by rw [ofB, h]; simp
theorem ofB_stop {p : Nat → Bool} {n : Nat} : ∀ {m}, n ≤ m → (∀ i, n ≤ i → p i = false) → ofB p m = ofB p n
  | 0, h, _ => by obtain rfl : n = 0 := by omega
                  rfl
  | m + 1, h, h0 => by
    by_cases e : n = m + 1
    · subst e; rfl
    · rw [ofB_no (h0 m (by omega)), ofB_stop (n := n) (m := m) (by omega) h0]

theorem i64_or (a b : Nat) (ha : a < 9223372036854775808) (hb : b < 9223372036854775808) : bits .or .i64 (a : Int) (b : Int) = ((a ||| b : Nat) : Int) := by
  have hx : a ||| b < 2 ^ 63 := Nat.or_lt_two_pow (by omega) (by omega)
  show IntKind.i64.wrap ((BitVec.ofInt 64 (a : Int) ||| BitVec.ofInt 64 (b : Int)).toNat : Int) = _
  have e1 : (BitVec.ofInt 64 (a : Int)).toNat = a := by rw [BitVec.toNat_ofInt]; omega
  have e2 : (BitVec.ofInt 64 (b : Int)).toNat = b := by rw [BitVec.toNat_ofInt]; omega
  rw [BitVec.toNat_or, e1, e2, IntKind.wrap_i64]
  omega
theorem i64_xor (a b : Nat) (ha : a < 9223372036854775808) (hb : b < 9223372036854775808) : bits .xor .i64 (a : Int) (b : Int) = ((a ^^^ b : Nat) : Int) := by
  have hx : a ^^^ b < 2 ^ 63 := Nat.xor_lt_two_pow (by omega) (by omega)
  show IntKind.i64.wrap ((BitVec.ofInt 64 (a : Int) ^^^ BitVec.ofInt 64 (b : Int)).toNat : Int) = _
  have e1 : (BitVec.ofInt 64 (a : Int)).toNat = a := by rw [BitVec.toNat_ofInt]; omega
  have e2 : (BitVec.ofInt 64 (b : Int)).toNat = b := by rw [BitVec.toNat_ofInt]; omega
  rw [BitVec.toNat_xor, e1, e2, IntKind.wrap_i64]
  omega
theorem i64_and1 (a : Nat) (ha : a < 9223372036854775808) : bits .and .i64 (a : Int) 1 = ((a % 2 : Nat) : Int) := by
  show IntKind.i64.wrap ((BitVec.ofInt 64 (a : Int) &&& BitVec.ofInt 64 1).toNat : Int) = _
  have e1 : (BitVec.ofInt 64 (a : Int)).toNat = a := by rw [BitVec.toNat_ofInt]; omega
  have e2 : (BitVec.ofInt 64 (1 : Int)).toNat = 1 := by decide
  rw [BitVec.toNat_and, e1, e2, IntKind.wrap_i64, nat_mask1]
  omega
theorem or_pow {v n : Nat} (h : v < 2 ^ n) (hn : n ≤ 20) : bits .or .i64 (v : Int) (2 ^ n) = ((v + 2 ^ n : Nat) : Int) := by
  have hp : 2 ^ n ≤ 1048576 := by
    have : ∀ n, n ≤ 20 → 2 ^ n ≤ 1048576 := by decide
    exact this n hn
  have e : (2 : Int) ^ n = ((2 ^ n : Nat) : Int) := by norm_cast
  have hj := Nat.two_pow_add_eq_or_of_lt h 1
  rw [e, i64_or _ _ (by omega) (by omega), Nat.or_comm]
  rw [Nat.mul_one] at hj
  rw [← hj, Nat.add_comm]
theorem or_nil {v : Nat} (h : v < 9223372036854775808) : bits .or .i64 (v : Int) 0 = (v : Int) := by
  have := i64_or v 0 h (by omega)
  simpa using this
theorem inQ_nat {v i : Nat} (h : v < 9223372036854775808) : inQ (v : Int) i = v.testBit i := by
  unfold inQ
  rw [show (v : Int) / 2 ^ i = ((v / 2 ^ i : Nat) : Int) by norm_cast]
  have hd := Nat.div_le_self v (2 ^ i)
  rw [i64_and1 _ (by omega), Nat.testBit_eq_decide_div_mod_eq]
  have h2 := Nat.mod_two_eq_zero_or_one (v / 2 ^ i)
  rcases h2 with h2 | h2 <;> rw [h2] <;> rfl

/-- How many bits of two words are different. -/
def apartN (a b : Nat) : Nat := cntB (fun i => a.testBit i != b.testBit i) 14
theorem apartN_le (a b : Nat) : apartN a b ≤ 14 := cntB_le _ _
theorem apartN_comm (a b : Nat) : apartN a b = apartN b a := cntB_ext _ fun i _ => by cases a.testBit i <;> cases b.testBit i <;> rfl
theorem apartN_self (a : Nat) : apartN a a = 0 := cntB_none _ fun i _ => by simp
theorem apartN_eq {a b : Nat} (ha : a < 2 ^ 14) (hb : b < 2 ^ 14) (h : apartN a b = 0) : a = b := by
  apply Nat.eq_of_testBit_eq
  intro i
  by_cases hi : i < 14
  · have := cntB_zero h i hi
    simpa using this
  · have e1 : a.testBit i = false := Nat.testBit_lt_two_pow (Nat.lt_of_lt_of_le ha (Nat.pow_le_pow_right (by omega) (by omega)))
    have e2 : b.testBit i = false := Nat.testBit_lt_two_pow (Nat.lt_of_lt_of_le hb (Nat.pow_le_pow_right (by omega) (by omega)))
    rw [e1, e2]
theorem apartN_xor (a b : Nat) : apartN a b = cntB (a ^^^ b).testBit 14 := cntB_ext _ fun i _ => by rw [Nat.testBit_xor]
theorem cnt_step (X j : Nat) : cntB X.testBit (j + 1) = cntB X.testBit j + X / 2 ^ j % 2 := by
  rw [cntB, Nat.testBit_eq_decide_div_mod_eq]
  have h2 := Nat.mod_two_eq_zero_or_one (X / 2 ^ j)
  rcases h2 with h2 | h2 <;> rw [h2] <;> simp
theorem cnt_end {X j : Nat} (h : X / 2 ^ j = 0) (hj : j ≤ 14) : cntB X.testBit 14 = cntB X.testBit j := by
  refine cntB_stop hj fun i hi => ?_
  have hp : 0 < 2 ^ j := Nat.pow_pos (by omega)
  have hx : X < 2 ^ j := by
    rcases Nat.lt_or_ge X (2 ^ j) with h1 | h1
    · exact h1
    · have := Nat.div_pos h1 hp; omega
  exact Nat.testBit_lt_two_pow (Nat.lt_of_lt_of_le hx (Nat.pow_le_pow_right (by omega) hi))
theorem div_step (X j : Nat) : X / 2 ^ j / 2 = X / 2 ^ (j + 1) := by rw [Nat.div_div_eq_div_mul, Nat.pow_succ]

/-- The true word of a number. -/
def twN (qs : List Int) (k : Nat) : Nat := ofB (fun i => inQ (qs.getD i 0) k) qs.length
theorem twN_lt (qs : List Int) (k : Nat) : twN qs k < 2 ^ qs.length := ofB_lt _ _
theorem pow_mono14 {n : Nat} (h : n ≤ 14) : 2 ^ n ≤ 2 ^ 14 := Nat.pow_le_pow_right (by omega) h
theorem twN_14 {qs : List Int} (h : qs.length ≤ 14) (k : Nat) : twN qs k < 2 ^ 14 := Nat.lt_of_lt_of_le (twN_lt qs k) (pow_mono14 h)
/-- The true words of the numbers below n. -/
def twL (qs : List Int) (n : Nat) : List Nat := (List.range n).map (twN qs)
theorem twL_len (qs : List Int) (n : Nat) : (twL qs n).length = n := by simp [twL]
theorem twL_at {qs : List Int} {n k : Nat} (h : k < n) : (twL qs n).getD k 0 = twN qs k := by simp [twL, List.getD, h]
theorem twL_succ (qs : List Int) (n : Nat) : twL qs (n + 1) = twL qs n ++ [twN qs n] := by simp [twL, List.range_succ]
/-- Which lists are schemes. -/
def isSch (n : Int) (qs : List Int) : Bool := inB n 1 12 && decide (qs.length ≤ 14) && qs.all fun q => qOK n q
theorem isSch_iff {n : Int} {qs : List Int} : isSch n qs = true ↔ (1 ≤ n ∧ n ≤ 12) ∧ qs.length ≤ 14 ∧ ∀ q ∈ qs, qOK n q = true := by
  simp [isSch, inB, and_assoc]

/-- The gap of words: the least that two are apart. -/
def gIn (ws : List Nat) (k : Nat) : Nat → Nat → Nat
  | 0, g => g
  | j + 1, g => min (gIn ws k j g) (apartN (ws.getD k 0) (ws.getD j 0))
def gTo (ws : List Nat) : Nat → Nat
  | 0 => 14
  | k + 1 => gIn ws k k (gTo ws k)
theorem gIn_le (ws : List Nat) (k : Nat) : ∀ (j g : Nat), gIn ws k j g ≤ g
  | 0, g => Nat.le_refl _
  | j + 1, g => by have := gIn_le ws k j g; rw [gIn]; omega
theorem gIn_at {ws : List Nat} {k i : Nat} : ∀ {j g : Nat}, i < j → gIn ws k j g ≤ apartN (ws.getD k 0) (ws.getD i 0)
  | 0, _, h => absurd h (by omega)
  | j + 1, g, h => by
    rw [gIn]
    by_cases e : i = j
    · subst e; omega
    · have := gIn_at (ws := ws) (k := k) (i := i) (j := j) (g := g) (by omega); omega
theorem gTo_le (ws : List Nat) : ∀ k, gTo ws k ≤ 14
  | 0 => Nat.le_refl _
  | k + 1 => Nat.le_trans (gIn_le ws k k _) (gTo_le ws k)
theorem gTo_mono (ws : List Nat) {k : Nat} : ∀ {m}, k ≤ m → gTo ws m ≤ gTo ws k
  | 0, h => by obtain rfl : k = 0 := by omega
               exact Nat.le_refl _
  | m + 1, h => by
    by_cases e : k = m + 1
    · subst e; exact Nat.le_refl _
    · exact Nat.le_trans (gIn_le ws m m _) (gTo_mono ws (k := k) (m := m) (by omega))
theorem gTo_at {ws : List Nat} {m k i : Nat} (h1 : k < m) (h2 : i < k) : gTo ws m ≤ apartN (ws.getD k 0) (ws.getD i 0) :=
  Nat.le_trans (gTo_mono ws (k := k + 1) h1) (gIn_at h2)
theorem gIn_le14 (ws : List Nat) (k j : Nat) : gIn ws k j (gTo ws k) ≤ 14 := Nat.le_trans (gIn_le _ _ _ _) (gTo_le _ _)
def gapN (ws : List Nat) : Nat := if ws.length ≤ 1 then 0 else gTo ws ws.length
theorem gapN_le (ws : List Nat) : gapN ws ≤ 14 := by unfold gapN; split; exact Nat.zero_le _; exact gTo_le _ _
theorem gapN_zero {ws : List Nat} {k i : Nat} (h1 : k < ws.length) (h2 : i < k) (h : ws.getD k 0 = ws.getD i 0) : gapN ws = 0 := by
  have := gTo_at (ws := ws) h1 h2
  rw [h, apartN_self] at this
  unfold gapN
  rw [if_neg (by omega)]
  omega
end Go.Proofs.Ytpjoljaamakagaa
