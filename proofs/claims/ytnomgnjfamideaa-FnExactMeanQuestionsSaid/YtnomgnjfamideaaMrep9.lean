/- One number repeated by the library. -/
import Derived.Test.YtnomgnjfamideaaVain
import Derived.Test.YtnomgnjfamideaaOpenN
import Derived.Test.YtnomgnjfamideaaNums
import Derived.Test.YtnomgnjfamideaaCopy
import Derived.Test.YtnomgnjfamideaaShelf
import Derived.Laws.BitsAllLaws
import Derived.Deep.WholeRow
import Derived.Laws.CopyRow
import Derived.ChangeKeysEq
import Derived.IntWalk
import Derived.Laws.CopyOwn
import Derived.Deep.RegionLaw
namespace Go.Proofs.Ytnomgnjfamideaa
open Go.RowKit Go.ChangeShapes Go.WideShapes
set_option linter.unusedVariables false

/-- How many of the first places hold. -/
def cntB (p : Nat → Bool) : Nat → Nat
  | 0 => 0
  | n + 1 => cntB p n + (if p n then 1 else 0)
theorem cntB_le (p : Nat → Bool) : ∀ n, cntB p n ≤ n
  | 0 => Nat.le_refl _
  | n + 1 => by have := cntB_le p n; rw [cntB]; split <;> omega
theorem cntB_ext {p q : Nat → Bool} : ∀ n, (∀ i, i < n → p i = q i) → cntB p n = cntB q n
  | 0, _ => rfl
  | n + 1, h => by rw [cntB, cntB, cntB_ext n (fun i hi => h i (by omega)), h n (by omega)]
theorem cntB_mono (p : Nat → Bool) {n : Nat} : ∀ {m}, n ≤ m → cntB p n ≤ cntB p m
  | 0, h => by obtain rfl : n = 0 := by omega
               exact Nat.le_refl _
  | m + 1, h => by
    by_cases e : n = m + 1
    · subst e; exact Nat.le_refl _
    · have := cntB_mono p (n := n) (m := m) (by omega)
      rw [cntB]; omega
theorem cntB_stop {p : Nat → Bool} {n : Nat} : ∀ {m}, n ≤ m → (∀ i, n ≤ i → p i = false) → cntB p m = cntB p n
  | 0, h, _ => by obtain rfl : n = 0 := by omega
                  rfl
  | m + 1, h, h0 => by
    by_cases e : n = m + 1
    · subst e; rfl
    · rw [cntB, h0 m (by omega), cntB_stop (n := n) (m := m) (by omega) h0]; simp
theorem cntB_zero {p : Nat → Bool} : ∀ {n}, cntB p n = 0 → ∀ i, i < n → p i = false
  | 0, _, i, hi => absurd hi (by omega)
  | n + 1, h, i, hi => by
    rw [cntB] at h
    by_cases e : i = n
    · subst e
      cases hp : p i with
      | false => rfl
      | true => rw [hp] at h; simp at h
    · exact cntB_zero (n := n) (by omega) i (by omega)
theorem cntB_none {p : Nat → Bool} : ∀ n, (∀ i, i < n → p i = false) → cntB p n = 0
  | 0, _ => rfl
  | n + 1, h => by rw [cntB, cntB_none n (fun i hi => h i (by omega)), h n (by omega)]; rfl
/-- The number that has these bits. -/
def ofB (p : Nat → Bool) : Nat → Nat
  | 0 => 0
  | n + 1 => ofB p n + (if p n then 2 ^ n else 0)
theorem ofB_lt (p : Nat → Bool) : ∀ n, ofB p n < 2 ^ n
  | 0 => by simp [ofB]
  | n + 1 => by
    have := ofB_lt p n
    rw [ofB, Nat.pow_succ]
    split <;> omega
theorem ofB_bit (p : Nat → Bool) : ∀ n i, (ofB p n).testBit i = (decide (i < n) && p i)
  | 0, i => by simp [ofB]
  | n + 1, i => by
    have hl := ofB_lt p n
    have ih := ofB_bit p n i
    rw [ofB]
    by_cases e : i = n
    · subst e
      cases hp : p i with
      | false => simp only [Bool.false_eq_true, if_false, Nat.add_zero]; rw [ih]; simp
      | true =>
        simp only [if_true]
        rw [Nat.add_comm, Nat.testBit_two_pow_add_eq, ih]
        simp
    · by_cases hlt : i < n
      · have h1 : (ofB p n + if p n = true then 2 ^ n else 0).testBit i = (ofB p n).testBit i := by
          split
          · rw [Nat.add_comm, Nat.testBit_two_pow_add_gt hlt]
          · rw [Nat.add_zero]
        rw [h1, ih]
        simp [hlt, show i < n + 1 by omega]
      · have h2 : ofB p n + (if p n = true then 2 ^ n else 0) < 2 ^ (n + 1) := by rw [Nat.pow_succ]; split <;> omega
        rw [Nat.testBit_lt_two_pow (Nat.lt_of_lt_of_le h2 (Nat.pow_le_pow_right (by omega) (by omega)))]
        simp [show ¬ i < n + 1 by omega]
theorem ofB_ext {p q : Nat → Bool} : ∀ n, (∀ i, i < n → p i = q i) → ofB p n = ofB q n
  | 0, _ => rfl
  | n + 1, h => by rw [ofB, ofB, ofB_ext n (fun i hi => h i (by omega)), h n (by omega)]
theorem ofB_self {v n : Nat} (h : v < 2 ^ n) : ofB v.testBit n = v := by
  apply Nat.eq_of_testBit_eq
  intro i
  rw [ofB_bit]
  by_cases hi : i < n
  · simp [hi]
  · rw [Nat.testBit_lt_two_pow (Nat.lt_of_lt_of_le h (Nat.pow_le_pow_right (by omega) (by omega)))]; simp
theorem ofB_yes {p : Nat → Bool} {n : Nat} (h : p n = true) : ofB p (n + 1) = ofB p n + 2 ^ n := by rw [ofB, if_pos h]
theorem ofB_no {p : Nat → Bool} {n : Nat} (h : p n = false) : ofB p (n + 1) = ofB p n := by rw [ofB, h]; simp
theorem ofB_stop {p : Nat → Bool} {n : Nat} : ∀ {m}, n ≤ m → (∀ i, n ≤ i → p i = false) → ofB p m = ofB p n
  | 0, h, _ => by obtain rfl : n = 0 := by omega
                  rfl
  | m + 1, h, h0 => by
    by_cases e : n = m + 1
    · subst e; rfl
    · rw [ofB_no (h0 m (by omega)), ofB_stop (n := n) (m := m) (by omega) h0]

theorem i64_or (a b : Nat) (ha : a < 9223372036854775808) (hb : b < 9223372036854775808) : bits .or .i64 (a : Int) (b : Int) = ((a ||| b : Nat) : Int) := by
  have hx : a ||| b < 2 ^ 63 := Nat.or_lt_two_pow (by omega) (by omega)
  show IntKind.i64.wrap ((BitVec.ofInt 64 (a : Int) ||| BitVec.ofInt 64 (b : Int)).toNat : Int) = _
  have e1 : (BitVec.ofInt 64 (a : Int)).toNat = a := by rw [BitVec.toNat_ofInt]; omega
  have e2 : (BitVec.ofInt 64 (b : Int)).toNat = b := by rw [BitVec.toNat_ofInt]; omega
  rw [BitVec.toNat_or, e1, e2, IntKind.wrap_i64]
  omega
theorem i64_xor (a b : Nat) (ha : a < 9223372036854775808) (hb : b < 9223372036854775808) : bits .xor .i64 (a : Int) (b : Int) = ((a ^^^ b : Nat) : Int) := by
  have hx : a ^^^ b < 2 ^ 63 := Nat.xor_lt_two_pow (by omega) (by omega)
  show IntKind.i64.wrap ((BitVec.ofInt 64 (a : Int) ^^^ BitVec.ofInt 64 (b : Int)).toNat : Int) = _
  have e1 : (BitVec.ofInt 64 (a : Int)).toNat = a := by rw [BitVec.toNat_ofInt]; omega
  have e2 : (BitVec.ofInt 64 (b : Int)).toNat = b := by rw [BitVec.toNat_ofInt]; omega
  rw [BitVec.toNat_xor, e1, e2, IntKind.wrap_i64]
  omega
theorem i64_and1 (a : Nat) (ha : a < 9223372036854775808) : bits .and .i64 (a : Int) 1 = ((a % 2 : Nat) : Int) := by
  show IntKind.i64.wrap ((BitVec.ofInt 64 (a : Int) &&& BitVec.ofInt 64 1).toNat : Int) = _
  have e1 : (BitVec.ofInt 64 (a : Int)).toNat = a := by rw [BitVec.toNat_ofInt]; omega
  have e2 : (BitVec.ofInt 64 (1 : Int)).toNat = 1 := by decide
  rw [BitVec.toNat_and, e1, e2, IntKind.wrap_i64, nat_mask1]
  omega
theorem or_pow {v n : Nat} (h : v < 2 ^ n) (hn : n ≤ 20) : bits .or .i64 (v : Int) (2 ^ n) = ((v + 2 ^ n : Nat) : Int) := by
  have hp : 2 ^ n ≤ 1048576 := by
    have : ∀ n, n ≤ 20 → 2 ^ n ≤ 1048576 := by decide
    exact this n hn
  have e : (2 : Int) ^ n = ((2 ^ n : Nat) : Int) := by norm_cast
  have hj := Nat.two_pow_add_eq_or_of_lt h 1
  rw [e, i64_or _ _ (by omega) (by omega), Nat.or_comm]
  rw [Nat.mul_one] at hj
  rw [← hj, Nat.add_comm]
theorem or_nil {v : Nat} (h : v < 9223372036854775808) : bits .or .i64 (v : Int) 0 = (v : Int) := by
  have := i64_or v 0 h (by omega)
  simpa using this
theorem inQ_nat {v i : Nat} (h : v < 9223372036854775808) : inQ (v : Int) i = v.testBit i := by
  unfold inQ
  rw [show (v : Int) / 2 ^ i = ((v / 2 ^ i : Nat) : Int) by norm_cast]
  have hd := Nat.div_le_self v (2 ^ i)
  rw [i64_and1 _ (by omega), Nat.testBit_eq_decide_div_mod_eq]
  have h2 := Nat.mod_two_eq_zero_or_one (v / 2 ^ i)
  rcases h2 with h2 | h2 <;> rw [h2] <;> rfl

/-- How many bits of two words are different. -/
def apartN (a b : Nat) : Nat := cntB (fun i => a.testBit i != b.testBit i) 14
theorem apartN_le (a b : Nat) : apartN a b ≤ 14 := cntB_le _ _
theorem apartN_comm (a b : Nat) : apartN a b = apartN b a := cntB_ext _ fun i _ => by cases a.testBit i <;> cases b.testBit i <;> rfl
theorem apartN_self (a : Nat) : apartN a a = 0 := cntB_none _ fun i _ => by simp
theorem apartN_eq {a b : Nat} (ha : a < 2 ^ 14) (hb : b < 2 ^ 14) (h : apartN a b = 0) : a = b := by
  apply Nat.eq_of_testBit_eq
  intro i
  by_cases hi : i < 14
  · have := cntB_zero h i hi
    simpa using this
  · have e1 : a.testBit i = false := Nat.testBit_lt_two_pow (Nat.lt_of_lt_of_le ha (Nat.pow_le_pow_right (by omega) (by omega)))
    have e2 : b.testBit i = false := Nat.testBit_lt_two_pow (Nat.lt_of_lt_of_le hb (Nat.pow_le_pow_right (by omega) (by omega)))
    rw [e1, e2]
theorem apartN_xor (a b : Nat) : apartN a b = cntB (a ^^^ b).testBit 14 := cntB_ext _ fun i _ => by rw [Nat.testBit_xor]
theorem cnt_step (X j : Nat) : cntB X.testBit (j + 1) = cntB X.testBit j + X / 2 ^ j % 2 := by
  rw [cntB, Nat.testBit_eq_decide_div_mod_eq]
  have h2 := Nat.mod_two_eq_zero_or_one (X / 2 ^ j)
  rcases h2 with h2 | h2 <;> rw [h2] <;> simp
theorem cnt_end {X j : Nat} (h : X / 2 ^ j = 0) (hj : j ≤ 14) : cntB X.testBit 14 = cntB X.testBit j := by
  refine cntB_stop hj fun i hi => ?_
  have hp : 0 < 2 ^ j := Nat.pow_pos (by omega)
  have hx : X < 2 ^ j := by
    rcases Nat.lt_or_ge X (2 ^ j) with h1 | h1
    · exact h1
    · have := Nat.div_pos h1 hp; omega
  exact Nat.testBit_lt_two_pow (Nat.lt_of_lt_of_le hx (Nat.pow_le_pow_right (by omega) hi))
theorem div_step (X j : Nat) : X / 2 ^ j / 2 = X / 2 ^ (j + 1) := by rw [Nat.div_div_eq_div_mul, Nat.pow_succ]

/-- The true word of a number. -/
def twN (qs : List Int) (k : Nat) : Nat := ofB (fun i => inQ (qs.getD i 0) k) qs.length
theorem twN_lt (qs : List Int) (k : Nat) : twN qs k < 2 ^ qs.length := ofB_lt _ _
theorem pow_mono14 {n : Nat} (h : n ≤ 14) : 2 ^ n ≤ 2 ^ 14 := Nat.pow_le_pow_right (by omega) h
theorem twN_14 {qs : List Int} (h : qs.length ≤ 14) (k : Nat) : twN qs k < 2 ^ 14 := Nat.lt_of_lt_of_le (twN_lt qs k) (pow_mono14 h)
/-- The true words of the numbers below n. -/
def twL (qs : List Int) (n : Nat) : List Nat := (List.range n).map (twN qs)
theorem twL_len (qs : List Int) (n : Nat) : (twL qs n).length = n := by simp [twL]
theorem twL_at {qs : List Int} {n k : Nat} (h : k < n) : (twL qs n).getD k 0 = twN qs k := by simp [twL, List.getD, h]
theorem twL_succ (qs : List Int) (n : Nat) : twL qs (n + 1) = twL qs n ++ [twN qs n] := by simp [twL, List.range_succ]
/-- Which lists are schemes. -/
def isSch (n : Int) (qs : List Int) : Bool := inB n 1 12 && decide (qs.length ≤ 14) && qs.all fun q => qOK n q
theorem isSch_iff {n : Int} {qs : List Int} : isSch n qs = true ↔ (1 ≤ n ∧ n ≤ 12) ∧ qs.length ≤ 14 ∧ ∀ q ∈ qs, qOK n q = true := by
  simp [isSch, inB, and_assoc]

/-- The gap of words: the least that two are apart. -/
def gIn (ws : List Nat) (k : Nat) : Nat → Nat → Nat
  | 0, g => g
  | j + 1, g => min (gIn ws k j g) (apartN (ws.getD k 0) (ws.getD j 0))
def gTo (ws : List Nat) : Nat → Nat
  | 0 => 14
  | k + 1 => gIn ws k k (gTo ws k)
theorem gIn_le (ws : List Nat) (k : Nat) : ∀ (j g : Nat), gIn ws k j g ≤ g
  | 0, g => Nat.le_refl _
  | j + 1, g => by have := gIn_le ws k j g; rw [gIn]; omega
theorem gIn_at {ws : List Nat} {k i : Nat} : ∀ {j g : Nat}, i < j → gIn ws k j g ≤ apartN (ws.getD k 0) (ws.getD i 0)
  | 0, _, h => absurd h (by omega)
  | j + 1, g, h => by
    rw [gIn]
    by_cases e : i = j
    · subst e; omega
    · have := gIn_at (ws := ws) (k := k) (i := i) (j := j) (g := g) (by omega); omega
theorem gTo_le (ws : List Nat) : ∀ k, gTo ws k ≤ 14
  | 0 => Nat.le_refl _
  | k + 1 => Nat.le_trans (gIn_le ws k k _) (gTo_le ws k)
theorem gTo_mono (ws : List Nat) {k : Nat} : ∀ {m}, k ≤ m → gTo ws m ≤ gTo ws k
  | 0, h => by obtain rfl : k = 0 := by omega
               exact Nat.le_refl _
  | m + 1, h => by
    by_cases e : k = m + 1
    · subst e; exact Nat.le_refl _
    · exact Nat.le_trans (gIn_le ws m m _) (gTo_mono ws (k := k) (m := m) (by omega))
theorem gTo_at {ws : List Nat} {m k i : Nat} (h1 : k < m) (h2 : i < k) : gTo ws m ≤ apartN (ws.getD k 0) (ws.getD i 0) :=
  Nat.le_trans (gTo_mono ws (k := k + 1) h1) (gIn_at h2)
theorem gIn_le14 (ws : List Nat) (k j : Nat) : gIn ws k j (gTo ws k) ≤ 14 := Nat.le_trans (gIn_le _ _ _ _) (gTo_le _ _)
def gapN (ws : List Nat) : Nat := if ws.length ≤ 1 then 0 else gTo ws ws.length
theorem gapN_le (ws : List Nat) : gapN ws ≤ 14 := by unfold gapN; split; exact Nat.zero_le _; exact gTo_le _ _
theorem gapN_zero {ws : List Nat} {k i : Nat} (h1 : k < ws.length) (h2 : i < k) (h : ws.getD k 0 = ws.getD i 0) : gapN ws = 0 := by
  have := gTo_at (ws := ws) h1 h2
  rw [h, apartN_self] at this
  unfold gapN
  rw [if_neg (by omega)]
  omega
end Go.Proofs.Ytnomgnjfamideaa
namespace Go.Proofs.Ytnomgnjfamideaa
open Go.RowKit Go.ChangeShapes Go.WideShapes
set_option linter.unusedVariables false

theorem pow_le14 (k : Nat) (h : k ≤ 14) : (1 : Int) ≤ 2 ^ k ∧ (2 : Int) ^ k ≤ 16384 := by
  have : ∀ k, k ≤ 14 → ((1 : Int) ≤ 2 ^ k ∧ (2 : Int) ^ k ≤ 16384) := by decide
  exact this k h
theorem wrap_pow14 (k : Nat) (h : k ≤ 14) : wrap64 ((2 : Int) ^ k) = 2 ^ k := by
  have : ∀ k, k ≤ 14 → wrap64 ((2 : Int) ^ k) = 2 ^ k := by decide +kernel
  exact this k h
/-- Whether x is a word of m answers. -/
def wOK5 (m : Nat) (x : Int) : Bool := inB x 0 (2 ^ m - 1)
theorem wOK5_iff {m : Nat} {x : Int} : wOK5 m x = true ↔ 0 ≤ x ∧ x < 2 ^ m := by simp [wOK5, inB]; omega
/-- The first k are all questions. -/
def QsTo (qs : List Int) (n : Int) (k : Nat) : Prop := ∀ j (h : j < qs.length), j < k → qOK n qs[j] = true
theorem QsTo.zero {qs : List Int} {n : Int} : QsTo qs n 0 := fun j _ h => absurd h (by omega)
theorem QsTo.step {qs : List Int} {n : Int} {k : Nat} (h : QsTo qs n k) (hk : k < qs.length) (hb : qOK n qs[k] = true) : QsTo qs n (k + 1) := fun j hj hlt => by
  by_cases e : j = k
  · subst e; exact hb
  · exact h j hj (by omega)
theorem isSch_bad {qs : List Int} {n : Int} {k : Nat} (h : k < qs.length) (hb : qOK n qs[k] = false) : isSch n qs = false := by
  rw [Bool.eq_false_iff, Ne, isSch_iff]
  rintro ⟨_, _, h3⟩
  rw [h3 _ (List.getElem_mem h)] at hb
  cases hb
theorem isSch_long {qs : List Int} {n : Int} (h : 14 < qs.length) : isSch n qs = false := by
  rw [Bool.eq_false_iff, Ne, isSch_iff]
  rintro ⟨_, h2, _⟩
  omega
theorem isSch_n {qs : List Int} {n : Int} (h : inB n 1 12 = false) : isSch n qs = false := by simp [isSch, h]
theorem QsTo.isSch {qs : List Int} {n : Int} {k : Nat} (h : QsTo qs n k) (hk : qs.length ≤ k ∨ 15 ≤ k) : isSch n qs = (inB n 1 12 && decide (qs.length ≤ 14)) := by
  by_cases hl : qs.length ≤ 14
  · have : (qs.all fun q => qOK n q) = true := by
      rw [List.all_eq_true]
      intro z hz
      obtain ⟨j, hj, rfl⟩ := List.getElem_of_mem hz
      exact h j hj (by omega)
    unfold Go.Proofs.Ytnomgnjfamideaa.isSch
    rw [this, Bool.and_true]
  · rw [isSch_long (by omega)]
    simp [hl]

end Go.Proofs.Ytnomgnjfamideaa
namespace Go.Proofs.Ytnomgnjfamideaa
open Go.RowKit Go.ChangeShapes Go.WideShapes
set_option linter.unusedVariables false

def bwv (p : Nat → Bool) : Array Value := ((List.range 14).map fun i => Value.bool (p i)).toArray
theorem bwv_size (p : Nat → Bool) : (bwv p).size = 14 := by simp [bwv]
theorem bwv_at (p : Nat → Bool) {i : Nat} (h : i < 14) : (bwv p)[i]? = some (.bool (p i)) := by simp [bwv, h]
theorem bwv_ext {p q : Nat → Bool} (h : ∀ i, i < 14 → p i = q i) : bwv p = bwv q := by
  unfold bwv
  congr 1
  exact List.map_congr_left fun i hi => by rw [h i (List.mem_range.1 hi)]
theorem bwv_set (p : Nat → Bool) {k : Nat} (b : Bool) (h : k < 14) : (bwv p).setIfInBounds k (.bool b) = bwv (fun i => if i = k then b else p i) := by
  apply Array.ext_getElem?
  intro i
  by_cases hi : i < 14
  · rw [bwv_at _ hi, Array.getElem?_setIfInBounds]
    by_cases e : k = i
    · subst e
      simp [bwv_size, h]
    · rw [if_neg e, bwv_at _ hi]
      simp [show ¬ i = k by omega]
  · rw [Array.getElem?_eq_none (by simp [bwv_size]; omega), Array.getElem?_eq_none (by rw [bwv_size]; omega)]
theorem bwv_one (p : Nat → Bool) : (bwv p).all (·.oneCell') = true := by
  rw [Array.all_eq_true_iff_forall_mem]
  intro x hx
  simp [bwv] at hx
  obtain ⟨i, _, rfl⟩ := hx
  rfl
theorem bwv_zero : bwv (fun _ => false) = #[.bool false, .bool false, .bool false, .bool false, .bool false, .bool false, .bool false, .bool false, .bool false, .bool false, .bool false, .bool false, .bool false, .bool false] := rfl
theorem below_setC {B g : Nat} {a w : World} (h : Below B a w) (hg : B ≤ g) (i : Nat) (u : Value) : Below B a (w.setCell ⟨g, i, none⟩ u) :=
  ⟨h.os, h.tape, h.output, by simpa [World.setCell] using h.size, fun j hj => (Below.heap_setCell w ⟨g, i, none⟩ u j (fun e => by have e' : j = g := e; omega)).trans (h.block j hj)⟩
theorem below_setRow {B g : Nat} {a w : World} (h : Below B a w) (hg : B ≤ g) (xs : Array Value) : Below B a (w.setRow g xs) :=
  ⟨h.os, h.tape, h.output, by simpa using h.size, fun j hj => (setRow_other w g j xs (by omega)).trans (h.block j hj)⟩
end Go.Proofs.Ytnomgnjfamideaa
namespace Go.Proofs.Ytnomgnjfamideaa
open Go.RowKit Go.ChangeShapes Go.WideShapes
set_option linter.unusedVariables false

/-- What trueAnswers fills, place by place. -/
def tbit (qs : List Int) (k : Nat) (i : Nat) : Bool := inQ (qs.getD i 0) k
theorem twN_bit (qs : List Int) (k i : Nat) : (twN qs k).testBit i = (decide (i < qs.length) && tbit qs k i) := by
  unfold twN tbit
  rw [ofB_bit]
theorem getD0 {zs : List Int} {k : Nat} (h : k < zs.length) : zs.getD k 0 = zs[k] := by simp [List.getD, h]

theorem or_zero (v : Nat) (h : v < 16384) : bits .or .i64 (v : Int) 0 = (v : Int) := or_nil (by omega)
end Go.Proofs.Ytnomgnjfamideaa
namespace Go.Proofs.Ytnomgnjfamideaa
open Go.RowKit Go.ChangeShapes Go.WideShapes
set_option linter.unusedVariables false

/-- A row of n words. -/
def wrow (f : Nat → Nat) (n : Nat) : Array Value := ((List.range (n * 14)).map fun j => Value.bool ((f (j / 14)).testBit (j % 14))).toArray
theorem wrow_size (f : Nat → Nat) (n : Nat) : (wrow f n).size = n * 14 := by simp [wrow]
theorem wrow_get (f : Nat → Nat) {n j : Nat} (h : j < n * 14) : (wrow f n)[j]? = some (.bool ((f (j / 14)).testBit (j % 14))) := by simp [wrow, h]
theorem wrow_at (f : Nat → Nat) {n k i : Nat} (hk : k < n) (hi : i < 14) : (wrow f n)[k * 14 + i]? = some (.bool ((f k).testBit i)) := by
  rw [wrow_get f (by omega), show (k * 14 + i) / 14 = k by omega, show (k * 14 + i) % 14 = i by omega]
theorem wrow_ext {f g : Nat → Nat} {n : Nat} (h : ∀ k, k < n → f k = g k) : wrow f n = wrow g n := by
  unfold wrow
  congr 1
  exact List.map_congr_left fun j hj => by rw [h (j / 14) (by have := List.mem_range.1 hj; omega)]
theorem wrow_put (f : Nat → Nat) {n k : Nat} (v : Nat) (h : k < n) :
    ((wrow f n).toList.take (k * 14 + 0) ++ (bwv v.testBit).toList ++ (wrow f n).toList.drop (k * 14 + 0 + (bwv v.testBit).toList.length)).toArray = wrow (fun i => if i = k then v else f i) n := by
  have hs : (bwv v.testBit).toList.length = 14 := by simp [bwv_size]
  have hw : (wrow f n).toList.length = n * 14 := by simp [wrow_size]
  apply Array.ext_getElem?
  intro j
  rw [List.getElem?_toArray]
  by_cases h1 : j < k * 14
  · rw [List.append_assoc, List.getElem?_append_left (by simp [hw]; omega), List.getElem?_take_of_lt (by omega), Array.getElem?_toList, wrow_get f (by omega), wrow_get _ (by omega), if_neg (by omega)]
  · by_cases h2 : j < k * 14 + 14
    · rw [List.getElem?_append_left (by simp [hw, hs]; omega), List.getElem?_append_right (by simp [hw]; omega), Array.getElem?_toList, List.length_take, hw, show j - min (k * 14 + 0) (n * 14) = j - k * 14 by omega, bwv_at _ (by omega), wrow_get _ (by omega), if_pos (by omega), show j % 14 = j - k * 14 by omega]
    · rw [List.getElem?_append_right (by simp [hw, hs]; omega), List.getElem?_drop]
      rw [show (List.take (k * 14 + 0) (wrow f n).toList ++ (bwv v.testBit).toList).length = k * 14 + 14 by simp [hw, hs]; omega, hs, Array.getElem?_toList, show k * 14 + 0 + 14 + (j - (k * 14 + 14)) = j by omega]
      by_cases h3 : j < n * 14
      · rw [wrow_get f h3, wrow_get _ h3, if_neg (by omega)]
      · rw [Array.getElem?_eq_none (by rw [wrow_size]; omega), Array.getElem?_eq_none (by rw [wrow_size]; omega)]

theorem rep14 {m : Nat} (h : m < 14) : ([Value.bool false, .bool false, .bool false, .bool false, .bool false, .bool false, .bool false, .bool false, .bool false, .bool false, .bool false, .bool false, .bool false, .bool false] : List Value)[m]?.getD default = .bool false := by
  have e : ([Value.bool false, .bool false, .bool false, .bool false, .bool false, .bool false, .bool false, .bool false, .bool false, .bool false, .bool false, .bool false, .bool false, .bool false] : List Value) = List.replicate 14 (.bool false) := rfl
  rw [e, List.getElem?_replicate, if_pos h]
  rfl
end Go.Proofs.Ytnomgnjfamideaa
namespace Go.Proofs.Ytnomgnjfamideaa
open Go.RowKit Go.ChangeShapes Go.WideShapes
set_option linter.unusedVariables false

/-- A list and whether it is one, handed back in memory of the call's own. -/
def LAns (w : World) (l : List Int) (b : Bool) (e : Ending) (w' : World) : Prop :=
  ∃ B c', e = .returned (.tuple #[.slice B l.length c', .bool b]) ∧ Res w' w.heap.size w'.heap.size B l ∧ Below w.heap.size w w'
theorem lans_row {w w' : World} {g c' p : Nat} {l : List Int} {e : Ending} (hl : l.length = p) (he : e = .returned (.tuple #[.slice (some ⟨g, 0, none⟩) p c', .bool true])) (hg : w.heap.size ≤ g) (hr : w'.heap[g]? = some (.cells (l.map (Value.int .i64)).toArray 3 (0, 0))) (hb : Below w.heap.size w w') : LAns w l true e w' :=
  ⟨_, c', by rw [he, hl], ⟨.inr ⟨g, _, rfl, hg, row_ltI hr, hr, by simp, fun j x hx => by simp [hx]⟩, Nat.le_refl _⟩, hb⟩
theorem lans_own {w w' : World} {v : Value} {zs : List Int} {b : Bool} {e : Ending} (he : e = .returned (.tuple #[v, .bool b])) (ho : w'.ownsRow w.heap.size 3 1 v zs.length (zs.map (Value.int .i64))) (hb : Below w.heap.size w w') : LAns w zs b e w' := own_ans0 he ho hb
theorem lans_nil {w w1 : World} (hb : Below w.heap.size w w1) : LAns w [] false (.returned (.tuple #[.slice (some ⟨w1.heap.size, 0, none⟩) 0 0, .bool false])) (w1.alloc (.cells #[] 3)) :=
  ⟨_, 0, rfl, empty_res w1 w.heap.size hb.size, hb.alloc hb.size _⟩
/-- The true words as integers. -/
def twI (qs : List Int) (n : Nat) : List Int := (twL qs n).map Int.ofNat
theorem twI_len (qs : List Int) (n : Nat) : (twI qs n).length = n := by simp [twI, twL_len]
theorem twI_at {qs : List Int} {n k : Nat} (h : k < (twI qs n).length) : (twI qs n)[k] = (twN qs k : Int) := by simp [twI, twL]
end Go.Proofs.Ytnomgnjfamideaa
namespace Go.Proofs.Ytnomgnjfamideaa
open Go.RowKit Go.ChangeShapes Go.WideShapes
set_option linter.unusedVariables false

/-- Whether number k is in question j. -/
def sbit (us : List Int) (j k : Nat) : Bool := inQ (us.getD k 0) j
/-- Questions of which so many numbers have been told. -/
def grow5 (us : List Int) (m : Nat) (c : Nat → Nat) : List Int := (List.range m).map fun j => (ofB (sbit us j) (c j) : Int)
def schL (us : List Int) (m : Nat) : List Int := grow5 us m fun _ => us.length
theorem grow5_len (us : List Int) (m : Nat) (c : Nat → Nat) : (grow5 us m c).length = m := by simp [grow5]
theorem grow5_ext {us : List Int} {m : Nat} {c d : Nat → Nat} (h : ∀ j, j < m → c j = d j) : grow5 us m c = grow5 us m d := by
  unfold grow5
  exact List.map_congr_left fun j hj => by rw [h j (List.mem_range.1 hj)]
theorem grow5_at {us : List Int} {m j : Nat} {c : Nat → Nat} (h : j < m) : (grow5 us m c)[j]? = some (ofB (sbit us j) (c j) : Int) := by simp [grow5, h]
theorem grow5_set {us : List Int} {m j k : Nat} {c : Nat → Nat} (h : j < m) : (grow5 us m c).set j (ofB (sbit us j) k : Int) = grow5 us m (fun x => if x = j then k else c x) := by
  apply List.ext_getElem?
  intro i
  rw [List.getElem?_set]
  by_cases e : j = i
  · subst e
    rw [if_pos rfl, if_pos (by rw [grow5_len]; exact h), grow5_at h, if_pos rfl]
  · rw [if_neg e]
    by_cases hi : i < m
    · rw [grow5_at hi, grow5_at hi, if_neg (fun x => e x.symm)]
    · rw [List.getElem?_eq_none (by rw [grow5_len]; omega), List.getElem?_eq_none (by rw [grow5_len]; omega)]
theorem grow5_no {us : List Int} {m j k : Nat} {c : Nat → Nat} (hb : sbit us j k = false) (hc : c j = k) : grow5 us m c = grow5 us m (fun x => if x = j then k + 1 else c x) := by
  unfold grow5
  refine List.map_congr_left fun x hx => ?_
  show (ofB (sbit us x) (c x) : Int) = (ofB (sbit us x) (if x = j then k + 1 else c x) : Int)
  by_cases e : x = j
  · subst e; rw [if_pos rfl, ofB_no hb, hc]
  · rw [if_neg e]
theorem grow5_zero (us : List Int) (m : Nat) : List.replicate m (Value.int .i64 0) = (grow5 us m fun _ => 0).map (Value.int .i64) := by
  apply List.ext_getElem?
  intro i
  by_cases hi : i < m
  · rw [List.getElem?_map, grow5_at hi, List.getElem?_replicate, if_pos hi]; rfl
  · rw [List.getElem?_eq_none (by simp; omega), List.getElem?_eq_none (by simp [grow5_len]; omega)]
/-- Questions that lie in a block. -/
structure Qrow (w : World) (b : Nat) (l : List Int) : Prop where
  row : w.heap[b]? = some (.cells (l.map (Value.int .i64)).toArray 3 (0, 0))
theorem Qrow.lt {w : World} {b : Nat} {l : List Int} (h : Qrow w b l) : b < w.heap.size := row_ltI h.row
theorem Qrow.step {w w' : World} {b : Nat} {l : List Int} (h : Qrow w b l) (hb : Below w.heap.size w w') : Qrow w' b l := ⟨(hb.block b h.lt).trans h.row⟩
theorem Qrow.cell {w : World} {b j : Nat} {l : List Int} {x : Int} (h : Qrow w b l) (hx : l[j]? = some x) : w.cell? ⟨b, j, none⟩ = some (.int .i64 x) := by rw [row_cellI h.row]; simp [hx]
theorem Qrow.free {w : World} {b : Nat} {l : List Int} (h : Qrow w b l) (i : Nat) : w.frozen? ⟨b, i, none⟩ = false := row_freeI h.row i
theorem Qrow.set {w : World} {b j : Nat} {l : List Int} (h : Qrow w b l) (x : Int) : Qrow (w.setCell ⟨b, j, none⟩ (.int .i64 x)) b (l.set j x) := ⟨by
  have := row_setI h.row j (.int .i64 x)
  rw [this]
  simp⟩
theorem Qrow.far {w : World} {b g : Nat} {l : List Int} (h : Qrow w b l) (hne : b ≠ g) (i : Nat) (u : Value) : Qrow (w.setCell ⟨g, i, none⟩ u) b l := ⟨(Below.heap_setCell w ⟨g, i, none⟩ u b hne).trans h.row⟩
theorem Qrow.drew {w : World} {b : Nat} {l : List Int} (h : Qrow w b l) : Qrow w.drew b l := ⟨h.row⟩
theorem below_drew1 {B : Nat} {a w : World} (h : Below B a w) : Below B a w.drew := ⟨h.os, h.tape, h.output, h.size, h.block⟩
theorem Qrow.new (w : World) (l : List Int) : Qrow (w.alloc (.cells (l.map (Value.int .i64)).toArray 3)) w.heap.size l := ⟨alloc_row _ _ _⟩
theorem lans_qrow {w w' : World} {g c' p : Nat} {l : List Int} {e : Ending} (hl : l.length = p) (he : e = .returned (.tuple #[.slice (some ⟨g, 0, none⟩) p c', .bool true])) (hg : w.heap.size ≤ g) (hr : Qrow w' g l) (hb : Below w.heap.size w w') : LAns w l true e w' := lans_row hl he hg hr.row hb

end Go.Proofs.Ytnomgnjfamideaa
namespace Go.Proofs.Ytnomgnjfamideaa
open Go.RowKit Go.ChangeShapes Go.WideShapes
set_option linter.unusedVariables false

/-- A row of T places of which n are x. -/
def rowRp (x : Int) (T n : Nat) : List Int := List.replicate n x ++ List.replicate (T - n) 0
theorem rowRp_len {x : Int} {T n : Nat} (h : n ≤ T) : (rowRp x T n).length = T := by simp [rowRp]; omega
theorem rowRp_zero (x : Int) (T : Nat) : List.replicate T (Value.int .i64 0) = (rowRp x T 0).map (Value.int .i64) := by simp [rowRp]
theorem rowRp_full (x : Int) (T : Nat) : rowRp x T T = List.replicate T x := by simp [rowRp]
theorem rowRp_at {x : Int} {T n j : Nat} (h : j < n) : (rowRp x T n)[j]? = some x := by
  rw [rowRp, List.getElem?_append_left (by simpa using h), List.getElem?_replicate, if_pos h]
theorem splice_rp {x : Int} {T n m : Nat} (h : n + m ≤ T) : splice ((rowRp x T n).map (Value.int .i64)) n ((List.replicate m x).map (Value.int .i64)) = (rowRp x T (n + m)).map (Value.int .i64) := by
  unfold splice rowRp
  rw [List.map_append, List.map_append, List.take_append_of_le_length (by simp), List.take_of_length_le (by simp), List.drop_append]
  simp only [List.map_replicate, List.length_replicate, List.drop_replicate]
  rw [show n - (n + m) = 0 by omega, show T - n - (n + m - n) = T - (n + m) by omega]
  simp [← List.replicate_append_replicate]
set_option maxRecDepth 100000 in
set_option maxHeartbeats 2000000 in
theorem repeat_any (b : Nat) (x : Int) (T : Nat) (w : World) (hx : w.cell? ⟨b, 0, none⟩ = some (.int .i64 x)) (hT : 1 ≤ T ∧ T ≤ 14) :
    Calls Try.prog 82 #[.slice (some ⟨b, 0, none⟩) 1 1, .int .i64 (T : Int)] w fun e w' => e = .returned (.slice (some ⟨w.heap.size, 0, none⟩) T T) ∧ Qrow w' w.heap.size (List.replicate T x) ∧ Below w.heap.size w w' := by
  have hmk := makeInts T (by omega)
  rw [rowRp_zero x T] at hmk
  have HM := Lib.hid (fun W => Try.bits_Mul 1 T (by omega) (by omega) W)
  rw [show 1 * T / 18446744073709551616 = 0 by omega, show 1 * T % 18446744073709551616 = T by omega] at HM
  have HR0 := Lib.hid (Qrow.new w (rowRp x T 0))
  have HB0 := Lib.hid ((Below.refl w.heap.size w).alloc (Nat.le_refl _) (.cells ((rowRp x T 0).map (Value.int .i64)).toArray 3))
  have hblt : b < w.heap.size := World.block_lt_of_cell? w _ hx
  have HX := Lib.hid ((World.cell?_of_block (a := ⟨b, 0, none⟩) (HB0.out.block b hblt)).trans hx)
  have HN := Lib.hid (Ints.add (w := w.alloc (.cells ((rowRp x T 0).map (Value.int .i64)).toArray 3)) (b := b) (o := 0) (zs := [x]) (fun j y hy => by
    cases j with
    | zero => simp at hy; subst hy; exact HX.out
    | succ j => simp at hy))
  have HO1 := Lib.hid (ones [x])
  have HL0 := Lib.hid (show 0 + ([x].map (Value.int .i64)).length ≤ ((rowRp x T 0).map (Value.int .i64)).length by rw [List.length_map, List.length_map, rowRp_len (by omega)]; simp; omega)
  have HSP := Lib.hid (splice_rp (x := x) (T := T) (n := 0) (m := 1) (by omega))
  have HMin : Hid (([x].map (Value.int .i64)).length = Nat.min 1 T) := Lib.hid (by show 1 = min 1 T; omega)
  clear hx
  go_enter Try.func82, Try.ntmps82
  go_wp2_with fail
  refine (HM.out w).mono ?_
  rintro e w1 ⟨rfl, rfl⟩
  go_wp2_with (with_reducible refine wpList_copy_splice (o := ⟨some 33, _, _, _, _, _⟩) rfl (.tmp 31) (.tmp 32) 33 33 rfl 3 Try.underlying33 sz1 (some ⟨w1.heap.size, 0, none⟩) (some ⟨b, 0, none⟩) T T 1 1 rfl rfl w1.heap.size 0 ((rowRp x T 0).map (Value.int .i64)) 3 HR0.out.row ([x].map (Value.int .i64)) HMin.out (fun _ => ⟨rfl, _, rfl, HN.out⟩) HL0.out HO1.out w1.heap.size w1 HB0.out (Nat.le_refl _) ?_; intro w2 HG2 hB2; have HB2 := Lib.hid hB2; clear hB2)
  have HR2 : Hid (Qrow w2 w1.heap.size (rowRp x T 1)) := Lib.hid ⟨by
    have h1 := HG2.out
    have h2 := HSP.out
    rw [show (List.replicate 1 x).map (Value.int .i64) = [x].map (Value.int .i64) from rfl] at h2
    rwa [h2] at h1⟩
  clear HG2 HR0 HB0 HX HN HO1 HL0 HSP HMin hmk HM
  go_loopw [8] (fun i wr => ∃ (n : Nat), 1 ≤ n ∧ n ≤ T ∧ i = .int .i64 n ∧ Hid (Qrow wr w1.heap.size (rowRp x T n)) ∧ Hid (Below w1.heap.size w1 wr)) (fun i _ => T - (intOf i).toNat)
  case atStart => exact ⟨1, Nat.le_refl _, hT.1, rfl, HR2, HB2⟩
  case round =>
    clear HR2 HB2
    obtain ⟨n, hn1, hn, rfl, HR, HB⟩ := hrel
    rename World => wr
    by_cases hlt : n < T
    · obtain ⟨m, hm⟩ : ∃ m, m = min n (T - n) := ⟨_, rfl⟩
      have hm1 : 1 ≤ m ∧ n + m ≤ T := by omega
      have HLc : Hid (((List.replicate m x).map (Value.int .i64)).length = m) := Lib.hid (by simp)
      have HMi : Hid (((List.replicate m x).map (Value.int .i64)).length = Nat.min n (T - n)) := Lib.hid (by rw [HLc.out]; exact hm)
      have HSr := Lib.hid (Ints.add (w := wr.drew) (b := w1.heap.size) (o := 0) (zs := List.replicate m x) (fun j y hy => by
        rw [List.getElem?_replicate] at hy
        split at hy
        · injection hy with hy
          subst hy
          rw [Nat.zero_add]
          exact HR.out.drew.cell (rowRp_at (by omega))
        · cases hy))
      have HO1 := Lib.hid (ones (List.replicate m x))
      have HFit : Hid (n + ((List.replicate m x).map (Value.int .i64)).length ≤ ((rowRp x T n).map (Value.int .i64)).length) := Lib.hid (by rw [HLc.out, List.length_map, rowRp_len hn]; exact hm1.2)
      have HSP := Lib.hid (splice_rp (x := x) (T := T) (n := n) (m := m) hm1.2)
      have HRd := Lib.hid HR.out.drew
      have HBd := Lib.hid (below_drew1 HB.out)
      have hsz := HB.out.size
      generalize (List.replicate m x).map (Value.int .i64) = cs at HLc HMi HSr HO1 HFit HSP
      have HN2 := Lib.hid (show (n : Int) + (cs.length : Int) = ((n + m : Nat) : Int) by rw [HLc.out]; push_cast; rfl)
      have hw : IntKind.i64.wrap ((n : Int) + (cs.length : Int)) = (n : Int) + (cs.length : Int) := IntWalk.i64_in _ (by rw [HLc.out]; omega)
      have hI : (n : Int) ≤ (T : Int) := by omega
      have hc1 : n ≤ T := hn
      have hc2 : ¬ T ≤ n := by omega
      have hc3 : ¬ T = n := by omega
      have hc4 : T - n ≠ 0 := by omega
      clear hm HR HB
      go_wp2_with fail
      go_region_law (refine step_copy_splice rfl (.tmp 41) (.tmp 44) 33 33 rfl 3 Try.underlying33 sz1 (some ⟨w1.heap.size, n, none⟩) (some ⟨w1.heap.size, 0, none⟩) (T - n) (T - n) n T (by simp [Act.eval, Act.put]) (by simp [Act.eval, Act.put]) w1.heap.size n ((rowRp x T n).map (Value.int .i64)) 3 HRd.out.row cs HMi.out (fun _ => ⟨rfl, _, rfl, HSr.out⟩) HFit.out HO1.out w1.heap.size w1 HBd.out (Nat.le_refl _) ?_; intro w3 HG3 hB3; have HB3 := Lib.hid hB3; clear hB3)
      all_goals
        have HR3 : Hid (Qrow w3 w1.heap.size (rowRp x T (n + m))) := Lib.hid ⟨by
          have h1 := HG3.out
          rwa [HSP.out] at h1⟩
        clear HG3 HSP HRd HBd HSr HO1 HFit HMi
        go_simp
        go_wp2
        go_roundw
        case rel => exact ⟨n + m, by omega, hm1.2, by rw [← HN2.out], HR3, HB3⟩
        case measure =>
          have := HLc.out
          simp [intOf]; omega
    · obtain rfl : n = T := by omega
      have HR2 := Lib.hid HR.out
      rw [rowRp_full] at HR2
      go_wp2
      go_ret
      exact ⟨rfl, HR2.out, HB.out⟩
end Go.Proofs.Ytnomgnjfamideaa
