/- What the calls of the law FnBestQuestions answer. -/
import Derived.Test.YthpnkeecpaflfaaCnt4
import Derived.Test.YthpnkeecpaflfaaStates
import Derived.Test.YthpnkeecpaflfaaAskP
import Derived.Test.YthpnkeecpaflfaaSplB
import Derived.Test.YthpnkeecpaflfaaOpenN
import Derived.Test.YthpnkeecpaflfaaBestQ
import Derived.Test.YthpnkeecpaflfaaMostN
import Derived.Laws.BitsAllLaws
namespace Go.Proofs.Ythpnkeecpaflfaa
open Go.RowKit Go.ChangeShapes Go.WideShapes
set_option linter.unusedVariables false
end Go.Proofs.Ythpnkeecpaflfaa
namespace Go.Proofs.Ythpnkeecpaflfaa
open Go.RowKit Go.ChangeShapes Go.WideShapes
set_option linter.unusedVariables false

set_option maxHeartbeats 1000000 in
theorem rInts_same (A A' : Option Addr) (c c' lo hi lo' hi' : Nat) (zs : List Int) (w : World) (hS : Ins w lo hi A zs) (hS' : Ins w lo' hi' A' zs) (hn : zs.length ≤ 1048576) :
    Calls Try.prog 17 #[.slice A zs.length c, .slice A' zs.length c'] w fun e w' => e = .returned (.bool true) ∧ Below w.heap.size w w' := by
  have HS := Lib.hid hS.ints
  have HS' := Lib.hid hS'.ints
  clear hS hS'
  go_enter Try.func17, Try.ntmps17
  go_wp2
  go_loopw [5] (fun i wr => ∃ k q : Nat, k ≤ zs.length ∧ i = .int .i64 k ∧ wr = w.drewN q) (fun i _ => zs.length - (intOf i).toNat)
  case atStart => exact ⟨0, 0, Nat.zero_le _, rfl, rfl⟩
  case round =>
    obtain ⟨k, q, hk, rfl, rfl⟩ := hrel
    by_cases hlt : k < zs.length
    · obtain ⟨b, o, rfl, _, _, hc⟩ := HS.out.at_ hlt
      obtain ⟨b', o', rfl, _, _, hc'⟩ := HS'.out.at_ hlt
      have hz : (k : Int) < (zs.length : Int) := by omega
      generalize zs[k] = x at hc hc'
      go_wp2
      go_quiet (fail)
      go_wp2
      go_roundw
      case rel => exact ⟨k + 1, _, by omega, by go_num, rfl⟩
      case measure => simp [intOf]; omega
    · go_wp2
      go_ret
      exact ⟨rfl, below_drewN (Below.refl _ _) _⟩
theorem rBig_any (A : Option Addr) (n c : Nat) (w : World) (hn : n ≤ maxLen) :
    Calls Try.prog 4 #[.slice A n c] w fun e w' => e = .returned (.bool (decide (65536 < n))) ∧ w' = w := by
  unfold maxLen at hn
  by_cases h : 65536 < n
  · rw [decide_eq_true h]
    go_enter Try.func4, Try.ntmps4
    go_wp2
    go_ret
    exact ⟨by simp; omega, rfl⟩
  · rw [decide_eq_false h]
    go_enter Try.func4, Try.ntmps4
    go_wp2
    go_ret
    exact ⟨by simp; omega, rfl⟩
end Go.Proofs.Ythpnkeecpaflfaa
namespace Go.Proofs.Ythpnkeecpaflfaa
open Go.RowKit Go.ChangeShapes Go.WideShapes
set_option linter.unusedVariables false

/-- A call over one list, over two. -/
def Call1 (f : FuncId) (zs : List Int) (Q : World → Ending → World → Prop) : Prop := ∀ (W : World) (A : Option Addr) (c lo hi : Nat), Ins W lo hi A zs → Calls Try.prog f #[.slice A zs.length c] W (Q W)
def Call2 (f : FuncId) (zs ss : List Int) (Q : World → Ending → World → Prop) : Prop := ∀ (W : World) (A : Option Addr) (c lo hi : Nat) (A2 : Option Addr) (c2 lo2 hi2 : Nat), Ins W lo hi A zs → Ins W lo2 hi2 A2 ss → Calls Try.prog f #[.slice A zs.length c, .slice A2 ss.length c2] W (Q W)
def IB (x : Int) (b : Bool) (W : World) (e : Ending) (w' : World) : Prop := e = .returned (.tuple #[.int .i64 x, .bool b]) ∧ Below W.heap.size W w'
def BB (b : Bool) (W : World) (e : Ending) (w' : World) : Prop := e = .returned (.bool b) ∧ Below W.heap.size W w'
theorem one_rows {zs ss : List Int} (h : (cOK zs && fitL ss zs) = true) : ∃ (p : Nat) (r s : Row), zs = lstR p r ∧ ss = lstR p s ∧ Wide p r ∧ Wide p s ∧ rsum r ≤ 8 ∧ Fits s r ∧ zs.length = p := by
  rw [Bool.and_eq_true] at h
  obtain ⟨r, hr, hw, h8⟩ := cOK_row h.1
  have h2 := h.2
  rw [hr] at h2
  obtain ⟨s, hs, hw2, hf⟩ := fit_row hw h2
  exact ⟨zs.length, r, s, hr, hs, hw, hw2, h8, hf, rfl⟩
theorem len6 {l : List Int} (h : l.length ≤ 8) : l.length ≤ 1048576 := by omega
end Go.Proofs.Ythpnkeecpaflfaa
namespace Go.Proofs.Ythpnkeecpaflfaa
open Go.RowKit Go.ChangeShapes Go.WideShapes
set_option linter.unusedVariables false

theorem bits_1 (x : Int) : bits .and .i64 x 1 = 0 ∨ bits .and .i64 x 1 = 1 := by
  have hx : (BitVec.ofInt 64 x &&& BitVec.ofInt 64 1).toNat ≤ 1 := by
    rw [BitVec.toNat_and]
    exact Nat.le_trans Nat.and_le_right (by decide)
  have : bits .and .i64 x 1 = IntKind.i64.wrap ((BitVec.ofInt 64 x &&& BitVec.ofInt 64 1).toNat : Int) := rfl
  rw [this]
  rcases Nat.le_one_iff_eq_zero_or_eq_one.1 hx with h | h <;> rw [h]
  · exact .inl (by decide +kernel)
  · exact .inr (by decide +kernel)
theorem bit_yes {q : Int} {i : Nat} (h : inQ q i = true) : bits .and .i64 (q / 2 ^ i) 1 = 1 := by
  rcases bits_1 (q / 2 ^ i) with h0 | h0
  · unfold inQ at h; rw [h0] at h; cases h
  · exact h0
theorem bit_no {q : Int} {i : Nat} (h : inQ q i = false) : bits .and .i64 (q / 2 ^ i) 1 = 0 := by
  rcases bits_1 (q / 2 ^ i) with h0 | h0
  · exact h0
  · unfold inQ at h; rw [h0] at h; cases h
/-- How many of the first k numbers of l are in a question. -/
def inTo (q : Int) (l : List Int) : Nat → Nat
  | 0 => 0
  | k + 1 => inTo q l k + (if inQ q (l.getD k 0).toNat then 1 else 0)
theorem inTo_le (q : Int) (l : List Int) : ∀ k, inTo q l k ≤ k
  | 0 => Nat.le_refl _
  | k + 1 => by have := inTo_le q l k; rw [inTo]; split <;> omega
def vain (q : Int) (l : List Int) : Bool := decide (inTo q l l.length = 0 ∨ inTo q l l.length = l.length)
theorem opens_lt {zs : List Int} {x : Int} (h : x ∈ opens zs) : 0 ≤ x ∧ x < (zs.length : Int) := filt_mem h

end Go.Proofs.Ythpnkeecpaflfaa
namespace Go.Proofs.Ythpnkeecpaflfaa
open Go.RowKit Go.ChangeShapes Go.WideShapes
set_option linter.unusedVariables false

/-- How many of the first places hold. -/
def cntB (p : Nat → Bool) : Nat → Nat
  | 0 => 0
  | n + 1 => cntB p n + (if p n then 1 else 0)
theorem cntB_le (p : Nat → Bool) : ∀ n, cntB p n ≤ n
  | 0 => Nat.le_refl _
  | n + 1 => by have := cntB_le p n; rw [cntB]; split <;> omega
theorem cntB_ext {p q : Nat → Bool} : ∀ n, (∀ i, i < n → p i = q i) → cntB p n = cntB q n
  | 0, _ => rfl
  | n + 1, h => by rw [cntB, cntB, cntB_ext n (fun i hi => h i (by omega)), h n (by omega)]
theorem cntB_mono (p : Nat → Bool) {n : Nat} : ∀ {m}, n ≤ m → cntB p n ≤ cntB p m
  | 0, h => by obtain rfl : n = 0 := by omega
               exact Nat.le_refl _
  | m + 1, h => by
    by_cases e : n = m + 1
    · subst e; exact Nat.le_refl _
    · have := cntB_mono p (n := n) (m := m) (by omega)
      rw [cntB]; omega
theorem cntB_stop {p : Nat → Bool} {n : Nat} : ∀ {m}, n ≤ m → (∀ i, n ≤ i → p i = false) → cntB p m = cntB p n
  | 0, h, _ => by obtain rfl : n = 0 := by omega
                  rfl
  | m + 1, h, h0 => by
    by_cases e : n = m + 1
    · subst e; rfl
    · rw [cntB, h0 m (by omega), cntB_stop (n := n) (m := m) (by omega) h0]; simp
theorem cntB_zero {p : Nat → Bool} : ∀ {n}, cntB p n = 0 → ∀ i, i < n → p i = false
  | 0, _, i, hi => absurd hi (by omega)
  | n + 1, h, i, hi => by
    rw [cntB] at h
    by_cases e : i = n
    · subst e
      cases hp : p i with
      | false => rfl
      | true => rw [hp] at h; simp at h
    · exact cntB_zero (n := n) (by omega) i (by omega)
theorem cntB_none {p : Nat → Bool} : ∀ n, (∀ i, i < n → p i = false) → cntB p n = 0
  | 0, _ => rfl
  | n + 1, h => by rw [cntB, cntB_none n (fun i hi => h i (by omega)), h n (by omega)]; rfl
/-- The number that has these bits. -/
def ofB (p : Nat → Bool) : Nat → Nat
  | 0 => 0
  | n + 1 => ofB p n + (if p n then 2 ^ n else 0)
theorem ofB_lt (p : Nat → Bool) : ∀ n, ofB p n < 2 ^ n
  | 0 => by simp [ofB]
  | n + 1 => by
    have := ofB_lt p n
    rw [ofB, Nat.pow_succ]
    split <;> omega
theorem ofB_bit (p : Nat → Bool) : ∀ n i, (ofB p n).testBit i = (decide (i < n) && p i)
  | 0, i => by simp [ofB]
  | n + 1, i => by
    have hl := ofB_lt p n
    have ih := ofB_bit p n i
    rw [ofB]
    by_cases e : i = n
    · subst e
      cases hp : p i with
      | false => simp only [Bool.false_eq_true, if_false, Nat.add_zero]; rw [ih]; simp
      | true =>
        simp only [if_true]
        rw [Nat.add_comm, Nat.testBit_two_pow_add_eq, ih]
        simp
    · by_cases hlt : i < n
      · have h1 : (ofB p n + if p n = true then 2 ^ n else 0).testBit i = (ofB p n).testBit i := by
          split
          · rw [Nat.add_comm, Nat.testBit_two_pow_add_gt hlt]
          · rw [Nat.add_zero]
        rw [h1, ih]
        simp [hlt, show i < n + 1 by omega]
      · have h2 : ofB p n + (if p n = true then 2 ^ n else 0) < 2 ^ (n + 1) := by rw [Nat.pow_succ]; split <;> omega
        rw [Nat.testBit_lt_two_pow (Nat.lt_of_lt_of_le h2 (Nat.pow_le_pow_right (by omega) (by omega)))]
        simp [show ¬ i < n + 1 by omega]
theorem ofB_ext {p q : Nat → Bool} : ∀ n, (∀ i, i < n → p i = q i) → ofB p n = ofB q n
  | 0, _ => rfl
  | n + 1, h => by rw [ofB, ofB, ofB_ext n (fun i hi => h i (by omega)), h n (by omega)]
theorem ofB_self {v n : Nat} (h : v < 2 ^ n) : ofB v.testBit n = v := by
  apply Nat.eq_of_testBit_eq
  intro i
  rw [ofB_bit]
  by_cases hi : i < n
  · simp [hi]
  · rw [Nat.testBit_lt_two_pow (Nat.lt_of_lt_of_le h (Nat.pow_le_pow_right (by omega) (by omega)))]; simp
theorem ofB_yes {p : Nat → Bool} {n : Nat} (h : p n = true) : ofB p (n + 1) = ofB p n + 2 ^ n := by rw [ofB, if_pos h]
theorem ofB_no {p : Nat → Bool} {n : Nat} (h : p n = false) : ofB p (n + 1) = ofB p n := by rw [ofB, h]; simp
theorem ofB_stop {p : Nat → Bool} {n : Nat} : ∀ {m}, n ≤ m → (∀ i, n ≤ i → p i = false) → ofB p m = ofB p n
  | 0, h, _ => by obtain rfl : n = 0 := by omega
                  rfl
  | m + 1, h, h0 => by
    by_cases e : n = m + 1
    · subst e; rfl
    · rw [ofB_no (h0 m (by omega)), ofB_stop (n := n) (m := m) (by omega) h0]

theorem i64_or (a b : Nat) (ha : a < 9223372036854775808) (hb : b < 9223372036854775808) : bits .or .i64 (a : Int) (b : Int) = ((a ||| b : Nat) : Int) := by
  have hx : a ||| b < 2 ^ 63 := Nat.or_lt_two_pow (by omega) (by omega)
  show IntKind.i64.wrap ((BitVec.ofInt 64 (a : Int) ||| BitVec.ofInt 64 (b : Int)).toNat : Int) = _
  have e1 : (BitVec.ofInt 64 (a : Int)).toNat = a := by rw [BitVec.toNat_ofInt]; omega
  have e2 : (BitVec.ofInt 64 (b : Int)).toNat = b := by rw [BitVec.toNat_ofInt]; omega
  rw [BitVec.toNat_or, e1, e2, IntKind.wrap_i64]
  omega
theorem i64_xor (a b : Nat) (ha : a < 9223372036854775808) (hb : b < 9223372036854775808) : bits .xor .i64 (a : Int) (b : Int) = ((a ^^^ b : Nat) : Int) := by
  have hx : a ^^^ b < 2 ^ 63 := Nat.xor_lt_two_pow (by omega) (by omega)
  show IntKind.i64.wrap ((BitVec.ofInt 64 (a : Int) ^^^ BitVec.ofInt 64 (b : Int)).toNat : Int) = _
  have e1 : (BitVec.ofInt 64 (a : Int)).toNat = a := by rw [BitVec.toNat_ofInt]; omega
  have e2 : (BitVec.ofInt 64 (b : Int)).toNat = b := by rw [BitVec.toNat_ofInt]; omega
  rw [BitVec.toNat_xor, e1, e2, IntKind.wrap_i64]
  omega
theorem i64_and1 (a : Nat) (ha : a < 9223372036854775808) : bits .and .i64 (a : Int) 1 = ((a % 2 : Nat) : Int) := by
  show IntKind.i64.wrap ((BitVec.ofInt 64 (a : Int) &&& BitVec.ofInt 64 1).toNat : Int) = _
  have e1 : (BitVec.ofInt 64 (a : Int)).toNat = a := by rw [BitVec.toNat_ofInt]; omega
  have e2 : (BitVec.ofInt 64 (1 : Int)).toNat = 1 := by decide
  rw [BitVec.toNat_and, e1, e2, IntKind.wrap_i64, nat_mask1]
  omega
theorem or_pow {v n : Nat} (h : v < 2 ^ n) (hn : n ≤ 20) : bits .or .i64 (v : Int) (2 ^ n) = ((v + 2 ^ n : Nat) : Int) := by
  have hp : 2 ^ n ≤ 1048576 := by
    have : ∀ n, n ≤ 20 → 2 ^ n ≤ 1048576 := by decide
    exact this n hn
  have e : (2 : Int) ^ n = ((2 ^ n : Nat) : Int) := by norm_cast
  have hj := Nat.two_pow_add_eq_or_of_lt h 1
  rw [e, i64_or _ _ (by omega) (by omega), Nat.or_comm]
  rw [Nat.mul_one] at hj
  rw [← hj, Nat.add_comm]
theorem or_nil {v : Nat} (h : v < 9223372036854775808) : bits .or .i64 (v : Int) 0 = (v : Int) := by
  have := i64_or v 0 h (by omega)
  simpa using this
theorem inQ_nat {v i : Nat} (h : v < 9223372036854775808) : inQ (v : Int) i = v.testBit i := by
  unfold inQ
  rw [show (v : Int) / 2 ^ i = ((v / 2 ^ i : Nat) : Int) by norm_cast]
  have hd := Nat.div_le_self v (2 ^ i)
  rw [i64_and1 _ (by omega), Nat.testBit_eq_decide_div_mod_eq]
  have h2 := Nat.mod_two_eq_zero_or_one (v / 2 ^ i)
  rcases h2 with h2 | h2 <;> rw [h2] <;> rfl

/-- How many bits of two words are different. -/
def apartN (a b : Nat) : Nat := cntB (fun i => a.testBit i != b.testBit i) 14
theorem apartN_le (a b : Nat) : apartN a b ≤ 14 := cntB_le _ _
theorem apartN_comm (a b : Nat) : apartN a b = apartN b a := cntB_ext _ fun i _ => by cases a.testBit i <;> cases b.testBit i <;> rfl
theorem apartN_self (a : Nat) : apartN a a = 0 := cntB_none _ fun i _ => by simp
theorem apartN_eq {a b : Nat} (ha : a < 2 ^ 14) (hb : b < 2 ^ 14) (h : apartN a b = 0) : a = b := by
  apply Nat.eq_of_testBit_eq
  intro i
  by_cases hi : i < 14
  · have := cntB_zero h i hi
    simpa using this
  · have e1 : a.testBit i = false := Nat.testBit_lt_two_pow (Nat.lt_of_lt_of_le ha (Nat.pow_le_pow_right (by omega) (by omega)))
    have e2 : b.testBit i = false := Nat.testBit_lt_two_pow (Nat.lt_of_lt_of_le hb (Nat.pow_le_pow_right (by omega) (by omega)))
    rw [e1, e2]
theorem apartN_xor (a b : Nat) : apartN a b = cntB (a ^^^ b).testBit 14 := cntB_ext _ fun i _ => by rw [Nat.testBit_xor]
theorem cnt_step (X j : Nat) : cntB X.testBit (j + 1) = cntB X.testBit j + X / 2 ^ j % 2 := by
  rw [cntB, Nat.testBit_eq_decide_div_mod_eq]
  have h2 := Nat.mod_two_eq_zero_or_one (X / 2 ^ j)
  rcases h2 with h2 | h2 <;> rw [h2] <;> simp
theorem cnt_end {X j : Nat} (h : X / 2 ^ j = 0) (hj : j ≤ 14) : cntB X.testBit 14 = cntB X.testBit j := by
  refine cntB_stop hj fun i hi => ?_
  have hp : 0 < 2 ^ j := Nat.pow_pos (by omega)
  have hx : X < 2 ^ j := by
    rcases Nat.lt_or_ge X (2 ^ j) with h1 | h1
    · exact h1
    · have := Nat.div_pos h1 hp; omega
  exact Nat.testBit_lt_two_pow (Nat.lt_of_lt_of_le hx (Nat.pow_le_pow_right (by omega) hi))
theorem div_step (X j : Nat) : X / 2 ^ j / 2 = X / 2 ^ (j + 1) := by rw [Nat.div_div_eq_div_mul, Nat.pow_succ]

/-- The true word of a number. -/
def twN (qs : List Int) (k : Nat) : Nat := ofB (fun i => inQ (qs.getD i 0) k) qs.length
theorem twN_lt (qs : List Int) (k : Nat) : twN qs k < 2 ^ qs.length := ofB_lt _ _
theorem pow_mono14 {n : Nat} (h : n ≤ 14) : 2 ^ n ≤ 2 ^ 14 := Nat.pow_le_pow_right (by omega) h
theorem twN_14 {qs : List Int} (h : qs.length ≤ 14) (k : Nat) : twN qs k < 2 ^ 14 := Nat.lt_of_lt_of_le (twN_lt qs k) (pow_mono14 h)
/-- The true words of the numbers below n. -/
def twL (qs : List Int) (n : Nat) : List Nat := (List.range n).map (twN qs)
theorem twL_len (qs : List Int) (n : Nat) : (twL qs n).length = n := by simp [twL]
theorem twL_at {qs : List Int} {n k : Nat} (h : k < n) : (twL qs n).getD k 0 = twN qs k := by simp [twL, List.getD, h]
theorem twL_succ (qs : List Int) (n : Nat) : twL qs (n + 1) = twL qs n ++ [twN qs n] := by simp [twL, List.range_succ]
/-- Which lists are schemes. -/
def isSch (n : Int) (qs : List Int) : Bool := inB n 1 12 && decide (qs.length ≤ 14) && qs.all fun q => qOK n q
theorem isSch_iff {n : Int} {qs : List Int} : isSch n qs = true ↔ (1 ≤ n ∧ n ≤ 12) ∧ qs.length ≤ 14 ∧ ∀ q ∈ qs, qOK n q = true := by
  simp [isSch, inB, and_assoc]

/-- The gap of words: the least that two are apart. -/
def gIn (ws : List Nat) (k : Nat) : Nat → Nat → Nat
  | 0, g => g
  | j + 1, g => min (gIn ws k j g) (apartN (ws.getD k 0) (ws.getD j 0))
def gTo (ws : List Nat) : Nat → Nat
  | 0 => 14
  | k + 1 => gIn ws k k (gTo ws k)
theorem gIn_le (ws : List Nat) (k : Nat) : ∀ (j g : Nat), gIn ws k j g ≤ g
  | 0, g => Nat.le_refl _
  | j + 1, g => by have := gIn_le ws k j g; rw [gIn]; omega
theorem gIn_at {ws : List Nat} {k i : Nat} : ∀ {j g : Nat}, i < j → gIn ws k j g ≤ apartN (ws.getD k 0) (ws.getD i 0)
  | 0, _, h => absurd h (by omega)
  | j + 1, g, h => by
    rw [gIn]
    by_cases e : i = j
    · subst e; omega
    · have := gIn_at (ws := ws) (k := k) (i := i) (j := j) (g := g) (by omega); omega
theorem gTo_le (ws : List Nat) : ∀ k, gTo ws k ≤ 14
  | 0 => Nat.le_refl _
  | k + 1 => Nat.le_trans (gIn_le ws k k _) (gTo_le ws k)
theorem gTo_mono (ws : List Nat) {k : Nat} : ∀ {m}, k ≤ m → gTo ws m ≤ gTo ws k
  | 0, h => by obtain rfl : k = 0 := by omega
               exact Nat.le_refl _
  | m + 1, h => by
    by_cases e : k = m + 1
    · subst e; exact Nat.le_refl _
    · exact Nat.le_trans (gIn_le ws m m _) (gTo_mono ws (k := k) (m := m) (by omega))
theorem gTo_at {ws : List Nat} {m k i : Nat} (h1 : k < m) (h2 : i < k) : gTo ws m ≤ apartN (ws.getD k 0) (ws.getD i 0) :=
  Nat.le_trans (gTo_mono ws (k := k + 1) h1) (gIn_at h2)
theorem gIn_le14 (ws : List Nat) (k j : Nat) : gIn ws k j (gTo ws k) ≤ 14 := Nat.le_trans (gIn_le _ _ _ _) (gTo_le _ _)
def gapN (ws : List Nat) : Nat := if ws.length ≤ 1 then 0 else gTo ws ws.length
theorem gapN_le (ws : List Nat) : gapN ws ≤ 14 := by unfold gapN; split; exact Nat.zero_le _; exact gTo_le _ _
theorem gapN_zero {ws : List Nat} {k i : Nat} (h1 : k < ws.length) (h2 : i < k) (h : ws.getD k 0 = ws.getD i 0) : gapN ws = 0 := by
  have := gTo_at (ws := ws) h1 h2
  rw [h, apartN_self] at this
  unfold gapN
  rw [if_neg (by omega)]
  omega
end Go.Proofs.Ythpnkeecpaflfaa
namespace Go.Proofs.Ythpnkeecpaflfaa
open Go.RowKit Go.ChangeShapes Go.WideShapes
set_option linter.unusedVariables false

theorem fit_at : ∀ {l m : List Int}, fitL l m = true → l.length = m.length ∧ ∀ i, 0 ≤ l.getD i 0 ∧ l.getD i 0 ≤ m.getD i 0
  | [], [], _ => ⟨rfl, fun i => by simp⟩
  | [], _ :: _, h => by simp [fitL] at h
  | _ :: _, [], h => by simp [fitL] at h
  | s :: l, c :: m, h => by
    simp only [fitL, Bool.and_eq_true, decide_eq_true_eq] at h
    obtain ⟨h1, h2⟩ := fit_at (l := l) (m := m) h.2
    refine ⟨by simp [h1], fun i => ?_⟩
    cases i with
    | zero => simp; omega
    | succ i => simpa using h2 i
/-- Whether number k is taken into the best question. -/
def bqP (zs s0 : List Int) (k : Nat) : Bool := decide (0 ≤ zs.getD k (-1) ∧ 0 < (bqTo zs s0 k).1.getD (zs.getD k (-1)).toNat 0)
theorem bq_yes {zs s0 : List Int} {k : Nat} (h : bqP zs s0 k = true) : bqTo zs s0 (k + 1) = ((bqTo zs s0 k).1.set (zs.getD k (-1)).toNat ((bqTo zs s0 k).1.getD (zs.getD k (-1)).toNat 0 - 1), bits .or .i64 (bqTo zs s0 k).2 (2 ^ k)) := by
  rw [bqTo, if_pos (of_decide_eq_true h)]
theorem bq_no {zs s0 : List Int} {k : Nat} (h : bqP zs s0 k = false) : bqTo zs s0 (k + 1) = bqTo zs s0 k := by
  rw [bqTo, if_neg (of_decide_eq_false h)]
theorem bq_of (zs s0 : List Int) : ∀ k, k ≤ 20 → (bqTo zs s0 k).2 = (ofB (bqP zs s0) k : Int)
  | 0, _ => rfl
  | k + 1, h => by
    have ih := bq_of zs s0 k (by omega)
    cases hp : bqP zs s0 k with
    | true => rw [bq_yes hp, ofB_yes hp, ih]; exact or_pow (ofB_lt _ _) (by omega)
    | false => rw [bq_no hp, ofB_no hp, ih]
theorem getD_set_eq {l : List Int} {i : Nat} {x : Int} (h : i < l.length) : (l.set i x).getD i 0 = x := by simp [List.getD, h]
theorem getD_set_ne {l : List Int} {i j : Nat} {x : Int} (h : i ≠ j) : (l.set i x).getD j 0 = l.getD j 0 := by simp [List.getD, List.getElem?_set_ne h]
theorem getD_pos {l : List Int} {i : Nat} (h : 0 < l.getD i 0) : i < l.length := by
  rcases Nat.lt_or_ge i l.length with h1 | h1
  · exact h1
  · simp [List.getD, List.getElem?_eq_none h1] at h
theorem sel_inQ (zs s0 : List Int) {K : Nat} (hK : K ≤ 12) {j : Nat} (hj : j < K) : inQ (bqTo zs s0 K).2 j = bqP zs s0 j := by
  rw [bq_of zs s0 K (by omega), inQ_nat (Nat.lt_trans (ofB_lt _ _) (Nat.lt_of_le_of_lt (Nat.pow_le_pow_right (n := 2) (by omega) hK) (by decide))), ofB_bit]
  simp [hj]
theorem sel_sum (zs s0 : List Int) {K : Nat} (hK : K ≤ 12) : ∀ k, k ≤ K → ∀ i, (selTo zs (bqTo zs s0 K).2 s0.length k).getD i 0 + (bqTo zs s0 k).1.getD i 0 = s0.getD i 0
  | 0, _, i => by
    have : (selTo zs (bqTo zs s0 K).2 s0.length 0).getD i 0 = 0 := by
      simp only [selTo, List.getD, List.getElem?_replicate]
      split <;> rfl
    rw [this]; simp [bqTo]
  | k + 1, h, i => by
    have ih := sel_sum zs s0 hK k (by omega)
    rw [selTo, selStep, sel_inQ zs s0 hK (by omega)]
    cases hp : bqP zs s0 k with
    | false => rw [bq_no hp, if_neg (by simp)]; exact ih i
    | true =>
      obtain ⟨h1, h2⟩ := of_decide_eq_true hp
      have hl := getD_pos h2
      have hl2 : (zs.getD k (-1)).toNat < (selTo zs (bqTo zs s0 K).2 s0.length k).length := by rw [selTo_len]; rw [bq_len] at hl; exact hl
      rw [bq_yes hp, if_pos rfl, cntStep, if_pos h1]
      by_cases e : (zs.getD k (-1)).toNat = i
      · rw [e] at hl hl2 ⊢
        rw [getD_set_eq hl2, getD_set_eq hl]
        have := ih i
        omega
      · rw [getD_set_ne e, getD_set_ne e]
        exact ih i
theorem sel_left (zs s0 : List Int) (h0 : ∀ x ∈ s0, 0 ≤ x ∧ x ≤ 8) : ∀ k, ∀ i, (bqTo zs s0 k).1.getD i 0 + (cntTo zs s0.length k).getD i 0 ≤ s0.getD i 0 ∨ (bqTo zs s0 k).1.getD i 0 = 0
  | 0, i => by
    have : (cntTo zs s0.length 0).getD i 0 = 0 := by
      simp only [cntTo, List.getD, List.getElem?_replicate]
      split <;> rfl
    left; rw [this]; simp [bqTo]
  | k + 1, i => by
    have ih := sel_left zs s0 h0 k
    have hbd := getD_bd (bq_bd zs h0 k) (by omega)
    rw [cntTo, cntStep]
    by_cases hz : 0 ≤ zs.getD k (-1)
    · rw [if_pos hz]
      by_cases hin : (zs.getD k (-1)).toNat < s0.length
      · have hl2 : (zs.getD k (-1)).toNat < (cntTo zs s0.length k).length := by rw [cntTo_len]; exact hin
        cases hp : bqP zs s0 k with
        | true =>
          obtain ⟨h1, h2⟩ := of_decide_eq_true hp
          have hl := getD_pos h2
          rw [bq_yes hp]
          by_cases e : (zs.getD k (-1)).toNat = i
          · rw [e] at hl hl2 h2 ⊢
            rw [getD_set_eq hl2, getD_set_eq hl]
            have := ih i
            omega
          · rw [getD_set_ne e, getD_set_ne e]
            exact ih i
        | false =>
          have hn := of_decide_eq_false hp
          rw [bq_no hp]
          by_cases e : (zs.getD k (-1)).toNat = i
          · right
            have := hbd i
            rw [e] at hn
            omega
          · rw [getD_set_ne e]
            exact ih i
      · have hp : bqP zs s0 k = false := decide_eq_false fun h => by
          have := getD_pos h.2
          rw [bq_len] at this
          exact hin this
        rw [bq_no hp, List.set_eq_of_length_le (by rw [cntTo_len]; omega)]
        exact ih i
    · rw [if_neg hz]
      have hp : bqP zs s0 k = false := decide_eq_false fun h => hz h.1
      rw [bq_no hp]
      exact ih i
theorem sel_best {zs s0 : List Int} {n : Nat} (hK : zs.length ≤ 12) (h0 : ∀ x ∈ s0, 0 ≤ x ∧ x ≤ 8) (hn : s0.length = n) (hf : fitL s0 (cntTo zs n zs.length) = true) : selTo zs (bqTo zs s0 zs.length).2 n zs.length = s0 := by
  subst hn
  obtain ⟨_, hfit⟩ := fit_at hf
  apply List.ext_getElem?
  intro i
  have h1 := sel_sum zs s0 hK zs.length (Nat.le_refl _) i
  have h2 := sel_left zs s0 h0 zs.length i
  have h3 := hfit i
  have hbd := getD_bd (bq_bd zs h0 zs.length) (by omega) i
  have hl := selTo_len zs (bqTo zs s0 zs.length).2 s0.length zs.length
  by_cases hi : i < s0.length
  · have e1 : (selTo zs (bqTo zs s0 zs.length).2 s0.length zs.length).getD i 0 = s0.getD i 0 := by omega
    have e2 : (selTo zs (bqTo zs s0 zs.length).2 s0.length zs.length)[i]? = some ((selTo zs (bqTo zs s0 zs.length).2 s0.length zs.length).getD i 0) := by simp [List.getD, show i < (selTo zs (bqTo zs s0 zs.length).2 s0.length zs.length).length by omega]
    have e3 : s0[i]? = some (s0.getD i 0) := by simp [List.getD, hi]
    rw [e2, e3, e1]
  · rw [List.getElem?_eq_none (by omega), List.getElem?_eq_none (by omega)]
theorem bq_qOK {zs s0 : List Int} (h : 1 ≤ zs.length ∧ zs.length ≤ 12) : qOK zs.length (bqTo zs s0 zs.length).2 = true := by
  rw [bq_of zs s0 zs.length (by omega), qOK_iff, Int.toNat_natCast]
  have := ofB_lt (bqP zs s0) zs.length
  have e : (2 : Int) ^ zs.length = ((2 ^ zs.length : Nat) : Int) := by norm_cast
  rw [e]
  omega
/-- The first best split is one, and has the need. -/
theorem best_sn {zs : List Int} (h : asksL zs = true) : snOK zs (lstR zs.length (planR (rowL zs)).first) = true ∧ valR (rowL zs) (rowL (lstR zs.length (planR (rowL zs)).first)) = needR (rowL zs) ∧ fitL (lstR zs.length (planR (rowL zs)).first) zs = true ∧ (∀ x ∈ lstR zs.length (planR (rowL zs)).first, 0 ≤ x ∧ x ≤ 8) ∧ (lstR zs.length (planR (rowL zs)).first).length = zs.length ∧ cOK zs = true := by
  obtain ⟨r, hr, hw, h8, h1, hp⟩ := asks_row h
  have hc : cOK zs = true := by rw [hr]; exact row_cOK hw h8
  rw [rowL_eq hr hw]
  have hfit := plan_fits h8
  have hw2 := fits_wide hw hfit
  have hlen := lstR_len hw2
  have hrl := rowL_lst hw2
  obtain ⟨hb1, _⟩ := best_first h8 h1
  have hval : valR r (planR r).first = needR r := by
    have hm : (planR r).first ∈ bestR r := List.mem_of_getElem? hb1
    unfold bestR at hm
    rw [List.mem_filter] at hm
    simpa using hm.2
  have hback : backR r (planR r).first = false := by
    cases hb : backR r (planR r).first with
    | false => rfl
    | true => have := back_val h8 hfit hb; omega
  have hft : fitL (lstR zs.length (planR r).first) zs = true := by
    have := row_fit hw hw2 hfit
    rwa [← hr] at this
  refine ⟨?_, by rw [hrl, hval], hft, lst_bd8 (fits_sum hfit h8), hlen, hc⟩
  unfold snOK
  rw [hc, rowL_eq hr hw, hrl, hback, hft]
  simp
  omega
end Go.Proofs.Ythpnkeecpaflfaa
namespace Go.Proofs.Ythpnkeecpaflfaa
open Go.RowKit Go.ChangeShapes Go.WideShapes
set_option linter.unusedVariables false

def CallS (f : FuncId) (zs : List Int) (m : Int) (Q : World → Ending → World → Prop) : Prop := ∀ (W : World) (A : Option Addr) (c lo hi : Nat), Ins W lo hi A zs → Calls Try.prog f #[.agg #[.slice A zs.length c, .int .i64 m]] W (Q W)
def CallSQ (f : FuncId) (zs : List Int) (m q : Int) (Q : World → Ending → World → Prop) : Prop := ∀ (W : World) (A : Option Addr) (c lo hi : Nat), Ins W lo hi A zs → Calls Try.prog f #[.agg #[.slice A zs.length c, .int .i64 m], .int .i64 q] W (Q W)
def tabL (a : Nat) : List Int := if a = 0 then [0, 1, 2, 2, 3, 3, 3, 3] else if a = 1 then [0, 3, 5, 5, 6, 6, 6, 6] else [0, 5, 8, 8, 9, 9, 9, 9]
theorem tab_is {a : Nat} (h : a ≤ 2) : ndU a 8 = tabL a := by
  have : ∀ a : Fin 3, ndU a 8 = tabL a := by decide +kernel
  exact this ⟨a, by omega⟩
theorem tab_at {a j : Nat} (h : a ≤ 2) (hj : j < 8) : (tabL a).getD j 0 = nd a j := by
  rw [← tab_is h]
  simp [ndU, List.getD, hj]
theorem mb_find {a : Nat} {x : Int} : ∀ d k, k + d = 7 → nd a k ≤ x → ∃ j, j ≤ 7 ∧ nd a j ≤ x ∧ (j = 7 ∨ ¬ nd a (j + 1) ≤ x)
  | 0, k, h, hx => ⟨k, by omega, hx, .inl (by omega)⟩
  | d + 1, k, h, hx => by
    by_cases h1 : nd a (k + 1) ≤ x
    · exact mb_find d (k + 1) (by omega) h1
    · exact ⟨k, by omega, hx, .inr h1⟩
theorem countsOf_row {zs : List Int} {M : Nat} (hst : isSt zs (M : Int) = true) : CallS 18 zs (M : Int) (fun W => RowAns W (cntTo zs (M + 1) zs.length) true) := by
  intro W A c lo hi hS
  refine (countsOf_impl A c lo hi zs M W hS hst).mono ?_
  rintro e w' ⟨g, rfl, hg, hr, hb⟩
  exact ⟨some ⟨g, 0, none⟩, M + 1, by rw [cntTo_len], row_res4 hg hr, hb⟩
theorem needOf_row {zs : List Int} (h : cOK zs = true) (hl : zs.length ≤ 1048576) : Call1 19 zs (IB ((needR (rowL zs) : Nat) : Int) true) := by
  intro W A c lo hi hS
  have := needOf_impl A c lo hi zs W hS hl
  rw [h, if_pos rfl] at this
  exact this
structure BF1 (zs : List Int) (m best : Int) (ok : Bool) : Prop where
  i : CallS 6 zs m (IB best ok)
  s : CallS 7 zs m (IB best ok)
  k : ok = true → ∃ (cs : List Int) (ow : Int), CallS 18 zs m (fun W => RowAns W cs true) ∧ Call1 19 cs (IB ow true) ∧ CallSQ 9 zs m best (IB ow true)
structure BF2 (zs : List Int) (m q need : Int) (one : Bool) : Prop where
  i : CallSQ 9 zs m q (IB need one)
  s : CallSQ 10 zs m q (IB need one)
  k : one = true → ∃ (cs : List Int) (ow : Int), CallS 18 zs m (fun W => RowAns W cs true) ∧ Call1 19 cs (IB ow true) ∧ ow ≤ need
structure BF3 (x y numbers : Int) (two : Bool) : Prop where
  i : ∀ W, Calls Try.prog 12 #[.int .i64 x, .int .i64 y] W (IB numbers two W)
  s : ∀ W, Calls Try.prog 13 #[.int .i64 x, .int .i64 y] W (IB numbers two W)
  k : two = true → ∃ a j : Nat, a ≤ 2 ∧ y = (a : Int) ∧ j ≤ 7 ∧ numbers = (j : Int) + 1 ∧ (tabL a).getD j 0 ≤ x ∧ (j = 7 ∨ x < (tabL a).getD (j + 1) 0)
structure BF4 (l : Int) (table : List Int) (three : Bool) : Prop where
  i : ∀ W, Calls Try.prog 15 #[.int .i64 l] W (RowAns W table three)
  s : ∀ W, Calls Try.prog 16 #[.int .i64 l] W (RowAns W table three)
  len : table.length ≤ 1048576
  k : three = true → ∃ a : Nat, a ≤ 2 ∧ l = (a : Int) ∧ table = tabL a
theorem bf1 (zs : List Int) (m : Int) (h : zs.length ≤ 1048576) : ∃ best ok, BF1 zs m best ok := by
  obtain ⟨r0, r1, hk, hi, hs⟩ := bestQuestion_both2 zs m h
  refine ⟨r0, r1, ⟨fun W A c lo hi' hS => hi W A c lo hi' hS, fun W A c lo hi' hS => hs W A c lo hi' hS, fun hok => ?_⟩⟩
  obtain ⟨M, rfl, hst, hrg, rfl⟩ := hk hok
  have hl := isSt_len hst
  have hcl := cntTo_len zs (M + 1) zs.length
  have ha := asks_in hst hrg
  obtain ⟨h1, h2, h3, h4, h5, h6⟩ := best_sn ha
  rw [hcl] at h1 h2 h3 h4 h5
  refine ⟨cntTo zs (M + 1) zs.length, _, countsOf_row hst, needOf_row h6 (by rw [hcl]; omega), fun W A c lo hi' hS => ?_⟩
  have hq := bq_qOK (zs := zs) (s0 := lstR (M + 1) (planR (rowL (cntTo zs (M + 1) zs.length))).first) (by omega)
  have := questionNeed_impl A c lo hi' zs M _ W hS hst hq
  rw [sel_best (by omega) h4 h5 h3, h1, if_pos rfl, h2] at this
  exact this
theorem bf2 (zs : List Int) (m q : Int) (h : zs.length ≤ 1048576) : ∃ need one, BF2 zs m q need one := by
  obtain ⟨r0, r1, hk, hi, hs⟩ := questionNeed_both2 zs m h q
  refine ⟨r0, r1, ⟨fun W A c lo hi' hS => hi W A c lo hi' hS, fun W A c lo hi' hS => hs W A c lo hi' hS, fun hok => ?_⟩⟩
  obtain ⟨M, rfl, hst, hq, hsn, rfl⟩ := hk hok
  have hl := isSt_len hst
  have hcl := cntTo_len zs (M + 1) zs.length
  have hsn2 := hsn
  unfold snOK at hsn2
  simp only [Bool.and_eq_true] at hsn2
  obtain ⟨p, r, s, hzs, hss, hw, hw2, h8, hf, hp⟩ := one_rows (zs := cntTo zs (M + 1) zs.length) (ss := selTo zs q (M + 1) zs.length) (by rw [Bool.and_eq_true]; exact hsn2.1.1)
  refine ⟨cntTo zs (M + 1) zs.length, _, countsOf_row hst, needOf_row hsn2.1.1.1 (by rw [hcl]; omega), ?_⟩
  rw [rowL_eq hzs hw, rowL_eq hss hw2]
  have := need_split h8 hf
  omega
theorem bf3 (x y : Int) : ∃ numbers two, BF3 x y numbers two := by
  obtain ⟨r0, r1, hk, hi, hs⟩ := mostByNeed_both2 x y
  refine ⟨r0, r1, ⟨hi, hs, fun hok => ?_⟩⟩
  obtain ⟨a, rfl, ha, hx, rfl⟩ := hk hok
  have h0 := nd_zero ⟨a, by omega⟩
  obtain ⟨j, hj, h1, h2⟩ := mb_find (a := a) (x := x) 7 0 rfl (by have e : nd a 0 = 0 := h0; omega)
  refine ⟨a, j, ha, rfl, hj, mb_eq ha hj h1 h2, by rw [tab_at ha (by omega)]; exact h1, ?_⟩
  rcases h2 with h2 | h2
  · exact .inl h2
  · by_cases e : j = 7
    · exact .inl e
    · right
      rw [tab_at ha (by omega)]
      omega
theorem bf4 (l : Int) : ∃ table three, BF4 l table three := by
  obtain ⟨r0, r1, h0, hk, hi, hs⟩ := needTable_both2 l
  refine ⟨r0, r1, ⟨hi, hs, h0, fun hok => ?_⟩⟩
  obtain ⟨a, rfl, ha, rfl⟩ := hk hok
  exact ⟨a, ha, rfl, tab_is ha⟩
end Go.Proofs.Ythpnkeecpaflfaa
