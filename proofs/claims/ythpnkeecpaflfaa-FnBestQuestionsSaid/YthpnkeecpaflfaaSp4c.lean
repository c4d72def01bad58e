/- The specification's counts: told, key, the counts of a key, same. -/
import Derived.Test.YthpnkeecpaflfaaSp4b
namespace Go.Proofs.Ythpnkeecpaflfaa
open Go.RowKit Go.ChangeShapes Go.WideShapes
set_option linter.unusedVariables false

theorem sumI_lst {p : Nat} {r : Row} (hw : Wide p r) : sumI (lstR p r) = ((rsum r : Nat) : Int) := by
  obtain ⟨a, b, c⟩ := r
  rcases hw with ⟨h1, h2, h3⟩ | ⟨h1, h2⟩ | h1 <;> subst h1 <;> simp_all [lstR, sumI, rsum] <;> omega
/-- What is told of the first k. -/
def keyTo (p : Nat) (r : Row) : Nat → Nat
  | 0 => 0
  | k + 1 => keyTo p r k * 9 + compR r (3 - p + k)
theorem keyTo_bd {p : Nat} {r : Row} (h8 : rsum r ≤ 8) : ∀ k, keyTo p r k + 1 ≤ 9 ^ k
  | 0 => Nat.le_refl _
  | k + 1 => by
    have h1 := keyTo_bd (p := p) h8 k
    have h2 := comp_le h8 (3 - p + k)
    rw [Nat.pow_succ]
    unfold keyTo
    omega
theorem keyTo_le {p k : Nat} {r : Row} (h8 : rsum r ≤ 8) (hk : k ≤ 3) : keyTo p r k ≤ 728 := by
  have h1 := keyTo_bd (p := p) h8 k
  have : 9 ^ k ≤ 9 ^ 3 := Nat.pow_le_pow_right (by omega) hk
  omega
theorem keyTo_full {p : Nat} {r : Row} (hw : Wide p r) : keyTo p r p = keyR r := by
  obtain ⟨a, b, c⟩ := r
  rcases hw with ⟨h1, h2, h3⟩ | ⟨h1, h2⟩ | h1 <;> subst h1 <;> simp_all [keyTo, keyR, compR] <;> omega
set_option maxHeartbeats 2000000 in
theorem l4Told_any (A : Option Addr) (c lo hi p : Nat) (r : Row) (w : World) (hS : Ins w lo hi A (lstR p r)) (hw : Wide p r) (hb9 : ∀ i, compR r i ≤ 8) :
    Calls Try.prog 63 #[.slice A p c] w fun e w' => e = .returned (.bool (decide (rsum r ≤ 1))) ∧ w' = w := by
  have hp := hw.le
  have HS := Lib.hid hS
  have HL := Lib.hid (lst_len hp r)
  have HA := Lib.hid (fun k (h : k < p) => lst_at hp r h (by rw [lst_len hp]; exact h))
  have HT := Lib.hid (fun k (h : k < p) => sumI_take (zs := lstR p r) (k := k) (by rw [lst_len hp]; exact h))
  have HE := Lib.hid (sumI_lst hw)
  have HB := Lib.hid hb9
  clear hS hw hb9
  go_enter Try.func63, Try.ntmps63
  go_wp2_with fail
  go_loopw [3, 4] (fun s i wr => ∃ (k : Nat) (x : Int), k ≤ p ∧ i = .int .i64 k ∧ s = .int .i64 x ∧ Hid (x = sumI ((lstR p r).take k)) ∧ 0 ≤ x ∧ x ≤ 8 * (k : Int) ∧ wr = w) (fun _ i _ => p - (intOf i).toNat)
  case atStart => exact ⟨0, 0, Nat.zero_le _, rfl, rfl, rfl, by omega, by omega, by first | trivial | rfl⟩
  case round =>
    obtain ⟨k, x, hk, rfl, rfl, HX, hx0, hx8, rfl⟩ := hrel
    by_cases hlt : k < p
    · obtain ⟨b, o, rfl, _, hb, hc⟩ := HS.out.ints.at_ (k := k) (by rw [HL.out]; exact hlt)
      have HTk := Lib.hid (HT.out k hlt)
      rw [HA.out k hlt] at hc HTk
      have h1 := HB.out (3 - p + k)
      generalize compR r (3 - p + k) = z at hc HTk h1
      go_wp2
      go_roundw
      case rel => exact ⟨k + 1, x + z, by omega, by go_num, by go_num, Lib.hid (by rw [HTk.out, HX.out]), by omega, by omega, by first | trivial | rfl⟩
      case measure => simp [intOf]; omega
    · obtain rfl : k = p := by omega
      have E : Hid (decide (x ≤ 1) = decide (rsum r ≤ 1)) := Lib.hid (by
        have h := HX.out
        rw [List.take_of_length_le (by rw [HL.out]; exact Nat.le_refl _), HE.out] at h
        rw [h, Bool.eq_iff_iff, decide_eq_true_iff, decide_eq_true_iff]
        omega)
      go_wp2
      go_ret
      exact ⟨by rw [← E.out]; rfl, rfl⟩
set_option maxHeartbeats 2000000 in
theorem l4Key_any (A : Option Addr) (c lo hi p : Nat) (r : Row) (w : World) (hS : Ins w lo hi A (lstR p r)) (hw : Wide p r) (h8 : rsum r ≤ 8) :
    Calls Try.prog 40 #[.slice A p c] w fun e w' => e = .returned (.int .i64 ((keyR r : Nat) : Int)) ∧ w' = w := by
  have hp := hw.le
  have HS := Lib.hid hS
  have HL := Lib.hid (lst_len hp r)
  have HA := Lib.hid (fun k (h : k < p) => lst_at hp r h (by rw [lst_len hp]; exact h))
  have HE := Lib.hid (keyTo_full hw)
  have HB := Lib.hid (fun i => comp_le h8 i)
  have HK := Lib.hid (fun k (h : k ≤ 3) => keyTo_le (p := p) h8 h)
  clear hS hw h8
  go_enter Try.func40, Try.ntmps40
  go_wp2_with fail
  go_loopw [3, 4] (fun s i wr => ∃ (k : Nat), k ≤ p ∧ i = .int .i64 k ∧ s = .int .i64 ((keyTo p r k : Nat) : Int) ∧ wr = w) (fun _ i _ => p - (intOf i).toNat)
  case atStart => exact ⟨0, Nat.zero_le _, rfl, rfl, by first | trivial | rfl⟩
  case round =>
    obtain ⟨k, hk, rfl, rfl, rfl⟩ := hrel
    by_cases hlt : k < p
    · obtain ⟨b, o, rfl, _, hb, hc⟩ := HS.out.ints.at_ (k := k) (by rw [HL.out]; exact hlt)
      rw [HA.out k hlt] at hc
      have h1 := HB.out (3 - p + k)
      have h2 := HK.out k (by omega)
      have HSt : Hid (((keyTo p r k : Nat) : Int) * 9 + ((compR r (3 - p + k) : Nat) : Int) = ((keyTo p r (k + 1) : Nat) : Int)) := Lib.hid (by
        unfold keyTo
        cases k
        · simp [keyTo]
        · simp [keyTo])
      generalize compR r (3 - p + k) = z at hc h1 HSt
      generalize keyTo p r k = y at h2 HSt
      go_wp2
      go_roundw
      case rel => exact ⟨k + 1, by omega, by go_num, by rw [HSt.out], by first | trivial | rfl⟩
      case measure => simp [intOf]; omega
    · obtain rfl : k = p := by omega
      go_wp2
      go_ret
      exact ⟨by rw [← HE.out]; rfl, rfl⟩
theorem row_ne {p : Nat} {r s : Row} (hr : Wide p r) (hs : Wide p s) {k : Nat} (hne : compR r (3 - p + k) ≠ compR s (3 - p + k)) : r ≠ s := fun e => hne (by rw [e])
theorem row_all {p : Nat} {r s : Row} (hr : Wide p r) (hs : Wide p s) (h : ∀ k, k < p → compR r (3 - p + k) = compR s (3 - p + k)) : r = s := by
  rw [← lstR_inj hr hs, lst_comp hr.le, lst_comp hr.le]
  apply List.map_congr_left
  intro k hk
  rw [h k (List.mem_range.1 hk)]
set_option maxHeartbeats 2000000 in
theorem l1Same_any (A : Option Addr) (c lo hi : Nat) (A2 : Option Addr) (c2 lo2 hi2 : Nat) (p : Nat) (r s : Row) (w : World) (hS : Ins w lo hi A (lstR p r)) (hS2 : Ins w lo2 hi2 A2 (lstR p s)) (hw : Wide p r) (hw2 : Wide p s) :
    Calls Try.prog 61 #[.slice A p c, .slice A2 p c2] w fun e w' => e = .returned (.bool (decide (r = s))) ∧ Below w.heap.size w w' := by
  have hp := hw.le
  have HS := Lib.hid hS
  have HS2 := Lib.hid hS2
  have HL := Lib.hid (lst_len hp r)
  have HL2 := Lib.hid (lst_len hp s)
  have HA := Lib.hid (fun k (h : k < p) => lst_at hp r h (by rw [lst_len hp]; exact h))
  have HA2 := Lib.hid (fun k (h : k < p) => lst_at hp s h (by rw [lst_len hp]; exact h))
  have HN := Lib.hid (fun k h => @row_ne p r s hw hw2 k h)
  have HE := Lib.hid (fun h => @row_all p r s hw hw2 h)
  clear hS hS2 hw hw2
  go_enter Try.func61, Try.ntmps61
  go_wp2_with fail
  go_loopw [5] (fun i wr => ∃ (k q : Nat), k ≤ p ∧ i = .int .i64 k ∧ Hid (∀ j, j < k → compR r (3 - p + j) = compR s (3 - p + j)) ∧ wr = w.drewN q) (fun i _ => p - (intOf i).toNat)
  case atStart => exact ⟨0, 0, Nat.zero_le _, rfl, Lib.hid (fun j h => absurd h (by omega)), rfl⟩
  case round =>
    obtain ⟨k, q, hk, rfl, HF, rfl⟩ := hrel
    by_cases hlt : k < p
    · obtain ⟨b, o, rfl, _, hb, hc⟩ := HS.out.ints.at_ (k := k) (by rw [HL.out]; exact hlt)
      obtain ⟨b2, o2, rfl, _, hb2, hc2⟩ := HS2.out.ints.at_ (k := k) (by rw [HL2.out]; exact hlt)
      rw [HA.out k hlt] at hc
      rw [HA2.out k hlt] at hc2
      have HNk := Lib.hid (HN.out k)
      have HF2 : Hid (compR r (3 - p + k) = compR s (3 - p + k) → ∀ j, j < k + 1 → compR r (3 - p + j) = compR s (3 - p + j)) := Lib.hid (fun e j hj => by
        by_cases hjk : j = k
        · subst hjk; exact e
        · exact HF.out j (by omega))
      have hltI : (k : Int) < (p : Int) := by omega
      have hk0 : (0 : Int) ≤ (k : Int) := by omega
      generalize compR r (3 - p + k) = x at hc HNk HF2
      generalize compR s (3 - p + k) = y at hc2 HNk HF2
      by_cases hxy : x = y
      · subst hxy
        have HF3 := Lib.hid (HF2.out rfl)
        clear HNk HF2 HF
        go_wp2_with fail
        go_quiet (fail)
        go_wp2
        go_roundw
        case rel => exact ⟨k + 1, _, by omega, by go_num, HF3, rfl⟩
        case measure => simp [intOf]; omega
      · have E := Lib.hid (decide_eq_false (HNk.out hxy))
        have hne : ¬ ((x : Int) = (y : Int)) := by omega
        clear HNk HF2 HF
        go_wp2_with fail
        go_quiet (fail)
        go_wp2
        go_ret
        exact ⟨by rw [E.out]; rfl, by first | exact below_drewN (Below.refl _ _) _ | exact below_drewN (below_drewN (Below.refl _ _) _) _⟩
    · obtain rfl : k = p := by omega
      have E := Lib.hid (decide_eq_true (HE.out (fun j hj => HF.out j hj)))
      go_wp2
      go_ret
      exact ⟨by rw [E.out]; rfl, below_drewN (Below.refl _ _) _⟩

/-- The counts of a key while they are being told: the last m are. -/
def cTo (p key m : Nat) : List Int := (List.range p).map fun j => if p - m ≤ j then ((compR (rowK key) (3 - p + j) : Nat) : Int) else 0
theorem cTo_len (p key m : Nat) : (cTo p key m).length = p := by simp [cTo]
theorem cTo_zero (p key : Nat) : cTo p key 0 = List.replicate p 0 := by
  apply List.ext_getElem
  · simp [cTo]
  · intro j h1 h2
    have : j < p := by simpa [cTo] using h1
    simp [cTo]
    omega
theorem cTo_full {p : Nat} (hp : 1 ≤ p ∧ p ≤ 3) (key : Nat) : cTo p key p = lstR p (rowK key) := by
  rw [lst_comp hp]
  simp [cTo]
theorem cTo_set {p key m : Nat} (hm : m < p) : (cTo p key m).set (p - 1 - m) ((compR (rowK key) (3 - p + (p - 1 - m)) : Nat) : Int) = cTo p key (m + 1) := by
  apply List.ext_getElem
  · simp [cTo]
  · intro j h1 h2
    have hj : j < p := by simpa [cTo] using h2
    rw [List.getElem_set]
    by_cases h : p - 1 - m = j
    · subst h
      simp only [cTo, List.getElem_map, List.getElem_range, if_true]
      rw [if_pos (by omega)]
    · rw [if_neg h]
      simp only [cTo, List.getElem_map, List.getElem_range]
      by_cases h3 : p - m ≤ j
      · rw [if_pos h3, if_pos (by omega)]
      · rw [if_neg h3, if_neg (by omega)]
theorem dig_at {key m : Nat} (hk : key < 729) (hm : m ≤ 2) : compR (rowK key) (2 - m) = key / 9 ^ m % 9 := by
  obtain rfl | rfl | rfl : m = 0 ∨ m = 1 ∨ m = 2 := by omega
  · show key % 9 = _; simp
  · show key / 9 % 9 = _; simp
  · show key / 81 = key / 81 % 9; omega
set_option maxRecDepth 100000 in
set_option maxHeartbeats 4000000 in
theorem l4Counted_any (p key : Nat) (w : World) (hp : 1 ≤ p ∧ p ≤ 3) (hk : key < 729) :
    Calls Try.prog 62 #[.int .i64 (key : Int), .int .i64 (p : Int)] w fun e w' => ∃ g, e = .returned (.slice (some ⟨g, 0, none⟩) p p) ∧ w.heap.size ≤ g ∧ Own w' g (g + 1) (some ⟨g, 0, none⟩) (lstR p (rowK key)) ∧ Below w.heap.size w w' := by
  have hmk := fun W => makeInts p (by omega) W
  have HO0 : Hid (Own (w.alloc (.cells (List.replicate p (Value.int .i64 0)).toArray 3)) w.heap.size (w.heap.size + 1) (some ⟨w.heap.size, 0, none⟩) (cTo p key 0)) := Lib.hid (by
    rw [cTo_zero]
    have := Own.new w (List.replicate p 0) w.heap.size (w.heap.size + 1) (Nat.le_refl _) (Nat.lt_succ_self _)
    simpa using this)
  have HSt := Lib.hid (fun m (h : m < p) => @cTo_set p key m h)
  have HD := Lib.hid (fun m h => @dig_at key m hk h)
  have HF := Lib.hid (cTo_full hp key)
  go_enter Try.func62, Try.ntmps62
  go_wp2_with fail
  clear hmk
  simp only [List.toArray_replicate] at HO0
  have HB0 := Lib.hid (Within.of_below ((Below.refl w.heap.size w).alloc (Nat.le_refl _) (.cells (Array.replicate p (Value.int .i64 0)) 3)) : Within w.heap.size (w.heap.size + 1) w _)
  generalize w.alloc (.cells (Array.replicate p (Value.int .i64 0)) 3) = wa at HO0 HB0 ⊢
  have hkI : key < 729 := hk
  go_loopw [0, 6] (fun s i wr => ∃ (j y : Nat) (x : Int), j ≤ p ∧ i = .int .i64 x ∧ x = (j : Int) - 1 ∧ s = .int .i64 (y : Int) ∧ Hid (y = key / 9 ^ (p - j)) ∧ y < 729 ∧ Hid (Own wr w.heap.size (w.heap.size + 1) (some ⟨w.heap.size, 0, none⟩) (cTo p key (p - j))) ∧ Hid (Within w.heap.size (w.heap.size + 1) w wr)) (fun _ i _ => (intOf i + 1).toNat)
  case atStart => exact ⟨p, key, _, Nat.le_refl _, rfl, rfl, rfl, Lib.hid (by simp), hkI, by simpa using HO0, HB0⟩
  case round =>
    clear HO0 HB0
    obtain ⟨j, y, x, hj, rfl, hx, rfl, HY, hy, HO, HB⟩ := hrel
    by_cases h0 : 1 ≤ j
    · obtain ⟨i, rfl⟩ : ∃ i, j = i + 1 := ⟨j - 1, by omega⟩
      obtain rfl : x = (i : Int) := by omega
      have hm : p - (i + 1) < p := by omega
      have hpi : p - 1 - (p - (i + 1)) = i := by omega
      have hp2 : p - (i + 1) + 1 = p - i := by omega
      have e3 : 3 - p + i = 2 - (p - (i + 1)) := by omega
      have hst := HSt.out (p - (i + 1)) hm
      rw [hpi, hp2, e3, HD.out _ (by omega), ← HY.out] at hst
      have hfr := own_free HO.out i
      have HO2 := Lib.hid (own_set HO.out (k := i) (by rw [cTo_len]; omega) ((y % 9 : Nat) : Int))
      rw [hst] at HO2
      have HY2 : Hid (y / 9 = key / 9 ^ (p - i)) := Lib.hid (by rw [HY.out, Nat.div_div_eq_div_mul, ← Nat.pow_succ, ← hp2])
      have hcell := own_cell HO.out (k := i) (by rw [cTo_len]; omega)
      have hiI : (i : Int) < (p : Int) := by omega
      have hmod : Int.tmod (y : Int) 9 = ((y % 9 : Nat) : Int) := rfl
      have hdiv : Int.tdiv (y : Int) 9 = ((y / 9 : Nat) : Int) := rfl
      clear hst hx
      generalize (cTo p key (p - (i + 1))).getD i 0 = z at hcell
      go_wp2
      go_roundw
      case rel => exact ⟨i, y / 9, (i : Int) - 1, by omega, by first | rfl | go_num, rfl, by first | rfl | go_num, HY2, by omega, by first | exact HO2 | simpa using HO2, Lib.hid (HB.out.trans (within_set (Within.refl w.heap.size (w.heap.size + 1) wr) (Nat.le_refl _) (Nat.lt_succ_self _) i _))⟩
      case measure => simp [intOf]
    · obtain rfl : j = 0 := by omega
      have hx0 : x < 0 := by omega
      clear hx
      rw [Nat.sub_zero, HF.out] at HO
      go_wp2
      go_ret
      exact ⟨_, rfl, Nat.le_refl _, HO.out, HB.out.below (Nat.le_refl _) (Nat.le_refl _)⟩
end Go.Proofs.Ythpnkeecpaflfaa
