/- The nearest words, and the numbers within: ranges over the map. -/
import Derived.Test.YthjkmfjhcohhbaaHold
import Derived.Test.YthjkmfjhcohhbaaShelf
import Derived.Sort.OwnSortedInts
namespace Go.Proofs.Ythjkmfjhcohhbaa
open Go.RowKit Go.ChangeShapes Go.WideShapes Go.Maps Go.MapKept Go.ChangeMaps
set_option linter.unusedVariables false

theorem Hold.map {w : World} {M base : Nat} {qs : List Int} {n : Nat} {D : DataW Value} (h : Hold w M base qs n D) : w.ownsMap Try.prog 48 (rowElem w base 3 .i64) M n D := by
  obtain ⟨es, clock, hb, F, hs, hD, _⟩ := h.owns
  exact ⟨es, clock, hb, F, hs, hD⟩
/-- Which numbers have come. -/
def came (qs : List Int) (left : Lit → Bool) (j : Nat) : Bool := !left (klW (twN qs j).testBit)
theorem came_start {w : World} {M base : Nat} {qs : List Int} {n : Nat} {D : DataW Value} (h : Hold w M base qs n D) {j : Nat} (hj : j < n) : came qs (has D) j = false := by simp [came, h.mem j hj]
theorem came_end {qs : List Int} {left : Lit → Bool} (hl : ∀ kl, left kl = false) (j : Nat) : came qs left j = true := by simp [came, hl]
theorem came_step {qs : List Int} {left : Lit → Bool} (hl : qs.length ≤ 14) (v j : Nat) (hv : v < 2 ^ 14) : came qs (fun z => left z && !z.sameKey (klW v.testBit)) j = (came qs left j || twN qs j == v) := by
  show (!(left (klW (twN qs j).testBit) && !(klW (twN qs j).testBit).sameKey (klW v.testBit))) = (!left (klW (twN qs j).testBit) || twN qs j == v)
  by_cases e : twN qs j = v
  · subst e
    rw [WideAt.sameKey_self (klW_key _)]
    simp
  · rw [sameKey_ne (fun h => e (klW_inj (twN_14 hl j) hv h))]
    simp [e]
/-- The least of those that have come. -/
structure Least (qs : List Int) (n x : Nat) (left : Lit → Bool) (l : Nat) : Prop where
  le : l ≤ 14
  all : ∀ j, j < n → came qs left j = true → l ≤ apartN (twN qs j) x
  got : l = 14 ∨ ∃ j, j < n ∧ l = apartN (twN qs j) x
theorem leastTo_mem {ws : List Nat} {x : Nat} : ∀ {k}, 0 < k → ∃ j, j < k ∧ leastTo ws x k = apartN (ws.getD j 0) x
  | 0, h => absurd h (by omega)
  | k + 1, _ => by
    by_cases hk : k = 0
    · subst hk
      refine ⟨0, by omega, ?_⟩
      have := apartN_le (ws.getD 0 0) x
      simp only [leastTo]
      omega
    · obtain ⟨j, hj, e⟩ := leastTo_mem (ws := ws) (x := x) (k := k) (by omega)
      by_cases h : leastTo ws x k ≤ apartN (ws.getD k 0) x
      · exact ⟨j, by omega, by rw [leastTo, ← e]; omega⟩
      · exact ⟨k, by omega, by rw [leastTo]; omega⟩
theorem Least.done {qs : List Int} {n x l : Nat} {left : Lit → Bool} (h : Least qs n x left l) (hn : 1 ≤ n) (hl : ∀ kl, left kl = false) : l = leastTo (twL qs n) x n := by
  obtain ⟨j, hj, e⟩ := leastTo_mem (ws := twL qs n) (x := x) (k := n) (by omega)
  rw [twL_at hj] at e
  have h1 := h.all j hj (came_end hl j)
  rcases h.got with h2 | ⟨i, hi, h2⟩
  · have := apartN_le (twN qs j) x
    omega
  · have := leastTo_at (ws := twL qs n) (x := x) hi
    rw [twL_at hi] at this
    omega
theorem Least.step {qs : List Int} {n x l j : Nat} {left : Lit → Bool} (h : Least qs n x left l) (hl : qs.length ≤ 14) (hj : j < n) : Least qs n x (fun z => left z && !z.sameKey (klW (twN qs j).testBit)) (min l (apartN (twN qs j) x)) := by
  have hap := apartN_le (twN qs j) x
  refine ⟨by have := h.le; omega, fun i hi hc => ?_, ?_⟩
  · rw [came_step hl _ _ (twN_14 hl j)] at hc
    rw [Bool.or_eq_true, beq_iff_eq] at hc
    rcases hc with hc | hc
    · have := h.all i hi hc; omega
    · rw [hc]; omega
  · by_cases hm : l ≤ apartN (twN qs j) x
    · rw [show min l (apartN (twN qs j) x) = l by omega]
      exact h.got
    · exact .inr ⟨j, hj, by omega⟩

set_option maxRecDepth 100000 in
set_option maxHeartbeats 4000000 in
theorem nearest_any (M base : Nat) (qs : List Int) (n x : Nat) (D : DataW Value) (w : World) (hH : Hold w M base qs n D) (hl : qs.length ≤ 14) (hn : 1 ≤ n ∧ n ≤ 12) :
    Calls Try.prog 66 #[.map (some M), .agg (bwv x.testBit)] w fun e w' => e = .returned (.int .i64 (leastTo (twL qs n) x n : Int)) ∧ Below w.heap.size w w' := by
  have HT0 := Lib.hid (W14.new w x.testBit w.heap.size rfl)
  have B0 := (Below.refl w.heap.size w).alloc (Nat.le_refl _) (.cells (bwv x.testBit) 48)
  have HH := Lib.hid (hH.step B0)
  have HB0 := Lib.hid B0
  have hMlt := hH.lt
  have hKeys := Lib.hid hH.keys
  have HA := Lib.hid (fun p q W => apart_any p q W)
  have HS0 : Hid (Least qs n x (has D) 14) := Lib.hid ⟨Nat.le_refl _, fun j hj hc => (by rw [came_start hH hj] at hc; cases hc), .inl rfl⟩
  clear B0 hH
  go_enter Try.func66, Try.ntmps66
  obtain ⟨R, hown⟩ : ∃ R, (w.alloc (.cells (bwv x.testBit) 48)).ownsMap Try.prog 48 R M n D := ⟨_, HH.out.map⟩
  have hr0 : (w.alloc (.cells (bwv x.testBit) 48)).heap.size = w.heap.size + 1 := by simp
  go_wp2_with (first
    | (at_range; refine wpList_range_own _ rfl _ 61 rfl 48 22 keyedWord under_holders R M n D rfl hown ?_; intro w0 hrg0 hg0 hs0))
  go_frame
  rw [hr0] at hrg0 ⊢
  have HR0 := Lib.hid hrg0
  have HT1 := Lib.hid (HT0.out.grown hg0 (by simp))
  have HB1 := Lib.hid (HB0.out.grown hg0 HB0.out.size (fun j hj => by cases hj))
  clear hrg0 hg0 hs0 hown HT0 HB0 HH hr0
  go_loopw [5] (fun v wr => ∃ (l : Nat) (left : Lit → Bool) (cnt : Nat), v = .int .i64 (l : Int) ∧ Hid (wr.ranges Try.prog 48 R M (w.heap.size + 1) n D left cnt) ∧ Hid (Least qs n x left l) ∧ Hid (W14 wr w.heap.size x.testBit) ∧ Hid (Below w.heap.size w wr)) (fun _ wr => wr.rangeLeft M (w.heap.size + 1))
  case atStart => exact ⟨14, _, _, rfl, HR0, HS0, HT1, HB1⟩
  case round =>
    clear HR0 HS0 HT1 HB1
    obtain ⟨l, left, cnt, rfl, HR, HS, HT, HB⟩ := hrel
    rename World => wr
    have hl14 := HS.out.le
    go_wp2_with (at_next; refine wpList_next_ranges _ rfl (.tmp 8) rfl 48 keyedWord R (fun xs : Array Value => Value.agg xs) (fun v : Value => v) (fun key kl h => keyed_agg h) (fun v y h => ⟨v, rfl⟩) M (w.heap.size + 1) n D left cnt rfl HR.out ?_ ?_)
    · intro _ hl0
      have HD := Lib.hid (HS.out.done hn.1 hl0)
      go_wp2
      go_ret
      rw [HD.out]
      exact ⟨rfl, HB.out⟩
    · intro xs v kl yd yp w1 cnt1 hkey hlk hv hat hrg1 hlt hg1 hs1 hen
      obtain ⟨j, hj, rfl⟩ := hKeys.out kl (has_true_of_atKey hat)
      obtain rfl := klW_agg hkey
      have HT1 := Lib.hid (HT.out.grown hg1 (by intro e; injection e; omega))
      have HB1 := Lib.hid (HB.out.grown hg1 HB.out.size (fun i hi => by injection hi; omega))
      have HZ := Lib.hid (W14.new0 w1)
      have HP := Lib.hid (HZ.out.put (twN qs j).testBit)
      have HBn := Lib.hid (below_new14 w1 (twN qs j).testBit)
      have HT2 := Lib.hid (HT1.out.step HBn.out)
      have HB2 := Lib.hid (below_trans HB1.out HBn.out)
      have HR2 := Lib.hid (hrg1.kept (grown_none HBn.out) (by simp) (by simp))
      have hlc : wr.rangeLeft M (w.heap.size + 1) = cnt := HR.out.left_eq
      have HLC := Lib.hid hlc
      have HS2 := Lib.hid (HS.out.step hl hj)
      have HAk := Lib.hid (fun W => HA.out (twN qs j).testBit x.testBit W)
      rw [show cntB (fun i => (twN qs j).testBit i != x.testBit i) 14 = apartN (twN qs j) x from rfl] at HAk
      have hap := apartN_le (twN qs j) x
      clear hkey hlk hv hat hrg1 hg1 hs1 HT HB HT1 HB1 HBn HR HS hlc
      generalize apartN (twN qs j) x = a at HAk HS2 hap
      go_wp2_with (first
        | (with_reducible refine wpList_store14 rfl (.tmp 6) (.tmp 12) rfl w1.heap.size (fun _ => false) (twN qs j).testBit rfl rfl HZ.out ?_)
        | (with_reducible refine wpList_load14 rfl (.tmp 6) rfl w1.heap.size (twN qs j).testBit rfl HP.out ?_)
        | (with_reducible refine wpList_load14 rfl (.tmp 3) rfl w.heap.size x.testBit rfl HT2.out ?_))
      refine (HAk.out _).mono ?_
      rintro e w7 ⟨rfl, hb⟩
      have HT3 := Lib.hid (HT2.out.step hb)
      have HB3 := Lib.hid (below_trans HB2.out hb)
      have HR3 := Lib.hid (HR2.out.kept (grown_none hb) (by simp) (by simp))
      clear hb HT2 HB2 HR2 HP HZ hen
      go_wp2
      go_roundw
      case rel => exact ⟨min l a, _, cnt1, by congr 1; omega, HR3, HS2, HT3, HB3⟩
      case measure => rw [HR3.out.left_eq, HLC.out]; exact hlt
end Go.Proofs.Ythjkmfjhcohhbaa
