/- MostByNeed: both. -/
import Derived.Test.YtmieognengfiiaaNTab
namespace Go.Proofs.Ytmieognengfiiaa
open Go.RowKit Go.ChangeShapes Go.WideShapes
set_option linter.unusedVariables false

/-- The last place of the table that q questions reach, from 1; 0 where none. -/
def mbTo (m : Nat) (q : Int) : Nat → Int
  | 0 => 0
  | k + 1 => if nd m k ≤ q then (k : Int) + 1 else mbTo m q k
theorem mb_bd (m : Nat) (q : Int) : ∀ k, 0 ≤ mbTo m q k ∧ mbTo m q k ≤ k
  | 0 => by simp [mbTo]
  | k + 1 => by
    have := mb_bd m q k
    unfold mbTo
    split <;> omega
theorem nd_up : ∀ m : Fin 3, ∀ i : Fin 7, nd m i ≤ nd m (i + 1 : Nat) := by decide +kernel
theorem nd_zero : ∀ m : Fin 3, nd m 0 = 0 := by decide +kernel
theorem nd_mono {m i : Nat} (hm : m ≤ 2) : ∀ d, i + d ≤ 7 → nd m i ≤ nd m (i + d)
  | 0, _ => Int.le_refl _
  | d + 1, h => Int.le_trans (nd_mono hm d (by omega)) (nd_up ⟨m, by omega⟩ ⟨i + d, by omega⟩)
theorem mb_above {m j : Nat} {q : Int} (h : ∀ i, j ≤ i → i < 8 → ¬ nd m i ≤ q) : ∀ d, j + d ≤ 8 → mbTo m q (j + d) = mbTo m q j
  | 0, _ => rfl
  | d + 1, hd => by
    show (if nd m (j + d) ≤ q then _ else _) = _
    rw [if_neg (h (j + d) (by omega) (by omega))]
    exact mb_above h d (by omega)
theorem mb_eq {m j : Nat} {q : Int} (hm : m ≤ 2) (hj : j ≤ 7) (h1 : nd m j ≤ q) (h2 : j = 7 ∨ ¬ nd m (j + 1) ≤ q) : mbTo m q 8 = (j : Int) + 1 := by
  have ha : mbTo m q (j + 1) = (j : Int) + 1 := if_pos h1
  rw [← ha]
  obtain ⟨d, hd⟩ : ∃ d, 8 = (j + 1) + d := ⟨7 - j, by omega⟩
  have := mb_above (m := m) (q := q) (j := j + 1) (fun i hi h8 hn => by
    rcases h2 with h2 | h2
    · omega
    · obtain ⟨e, rfl⟩ : ∃ e, i = (j + 1) + e := ⟨i - (j + 1), by omega⟩
      exact h2 (Int.le_trans (nd_mono hm e (by omega)) hn)) d (by omega)
  rw [hd]
  exact this
theorem needTable_no (m : Int) (w : World) (h : inB m 0 2 = false) :
    Calls Try.prog 42 #[.int .i64 m] w fun e w' => ∃ B c', e = .returned (.tuple #[.slice B 0 c', .bool false]) ∧ Below w.heap.size w w' := by
  have HC := Lib.hid (fun W => isMost_any m W)
  rw [h] at HC
  go_enter Try.func42, Try.ntmps42
  go_wp2_with (first | (go_at_call 75; refine (HC.out _).mono ?_; rintro e w1 ⟨rfl, rfl⟩))
  go_ret2
  exact ⟨_, 0, rfl, (Below.refl _ _).alloc (Nat.le_refl _) _⟩
set_option maxRecDepth 100000 in
set_option maxHeartbeats 2000000 in
theorem mostN_impl (m : Nat) (q : Int) (w : World) (hm : m ≤ 2) (hq0 : 0 ≤ q) (hq1 : q ≤ 20) :
    Calls Try.prog 40 #[.int .i64 q, .int .i64 (m : Int)] w fun e w' => e = .returned (.tuple #[.int .i64 (mbTo m q 8), .bool true]) ∧ Below w.heap.size w w' := by
  have HT := Lib.hid (fun W => needTable_impl m W hm)
  have HL := Lib.hid (ndU_len m 8)
  have HAt := Lib.hid (fun k (h : k < (ndU m 8).length) => show (ndU m 8)[k] = nd m k by simp [ndU])
  have HBd := Lib.hid (mb_bd m q)
  go_enter Try.func40, Try.ntmps40
  go_wp2_with fail
  refine (HT.out w).mono ?_
  rintro e w1 ⟨B, c1, rfl, hr, hb⟩
  have HR := Lib.hid hr.ins
  have HB := Lib.hid hb
  clear hr hb HT
  have hul : (ndU m 8).length ≤ 1000 := by rw [HL.out]; omega
  go_wp2_with fail
  go_loopw [8, 28] (fun r i wr => ∃ (k : Nat), k ≤ (ndU m 8).length ∧ i = .int .i64 (k : Int) ∧ r = .int .i64 (mbTo m q k) ∧ wr = w1) (fun _ i _ => (ndU m 8).length - (intOf i).toNat)
  case atStart => exact ⟨0, by omega, rfl, rfl, rfl⟩
  case round =>
    obtain ⟨k, hk, rfl, rfl, rfl⟩ := hrel
    by_cases hlt : k < (ndU m 8).length
    · obtain ⟨b, o, rfl, _, hb, hc⟩ := HR.out.ints.at_ hlt
      rw [HAt.out k hlt] at hc
      have hbk := HBd.out k
      have hF : mbTo m q (k + 1) = if nd m k ≤ q then (k : Int) + 1 else mbTo m q k := rfl
      have HF := Lib.hid hF
      clear hF
      generalize nd m k = x at hc HF
      generalize mbTo m q k = y at hbk HF ⊢
      by_cases hx : x ≤ q
      · rw [if_pos hx] at HF
        go_wp2
        go_roundw
        case rel => exact ⟨k + 1, by omega, by go_num, by rw [HF.out], trivial⟩
        case measure => simp [intOf]; omega
      · rw [if_neg hx] at HF
        go_wp2
        go_roundw
        case rel => exact ⟨k + 1, by omega, by go_num, by rw [HF.out], trivial⟩
        case measure => simp [intOf]; omega
    · have hk8 : k = 8 := by have := HL.out; omega
      subst hk8
      go_wp2
      go_ret2
      exact ⟨rfl, HB.out⟩
set_option maxRecDepth 100000 in
set_option maxHeartbeats 2000000 in
theorem mostN_spec (m : Nat) (q : Int) (w : World) (hm : m ≤ 2) (hq0 : 0 ≤ q) (hq1 : q ≤ 20) :
    Calls Try.prog 39 #[.int .i64 q, .int .i64 (m : Int)] w fun e w' => e = .returned (.tuple #[.int .i64 (mbTo m q 8), .bool true]) ∧ Below w.heap.size w w' := by
  have HC := Lib.hid (fun W => l1In_any (m : Int) 0 2 W)
  rw [inB_t (by omega) (by omega)] at HC
  have HD := Lib.hid (fun W => l1In_any q 0 20 W)
  rw [inB_t (by omega) (by omega)] at HD
  have HNs := Lib.hid (fun W => l4Needs_any (m + 1) W (by omega))
  have hp9 := pow9 (p := m + 1) (by omega)
  have HFr := Lib.hid (fun n W => l4Fresh_any m n W hm)
  have HK := Lib.hid (fun n (h : n ≤ 8) B cB lo hi W h2 => l4Key_any B cB lo hi (m + 1) (freshR m n) W h2 (fresh_wide hm) (by rw [fresh_sum]; exact h))
  have HKL := Lib.hid (fun n (h : n ≤ 8) => key_lt (fresh_wide (n := n) hm) (by rw [fresh_sum]; exact h))
  have HFA := Lib.hid (fun n (h : n ≤ 8) => found_all (r := freshR m n) (by rw [fresh_sum]; exact h))
  have HFL := Lib.hid (foundL_len (m + 1) 10)
  have HZ : Hid (nd m 0 ≤ q) := Lib.hid (by have := nd_zero ⟨m, by omega⟩; simp only at this; omega)
  have HEq := Lib.hid (fun j hj h1 h2 => mb_eq (m := m) (j := j) (q := q) hm hj h1 h2)
  go_enter Try.func39, Try.ntmps39
  go_wp2_with fail
  refine (HD.out w).mono ?_
  rintro e w1 ⟨rfl, rfl⟩
  go_wp2_with fail
  refine (HC.out w1).mono ?_
  rintro e w2 ⟨rfl, rfl⟩
  clear HC HD
  go_wp2_with fail
  refine (HNs.out w2).mono ?_
  rintro e w3 ⟨g, cg, rfl, hg, ho, hb⟩
  have HO := Lib.hid ho
  have HB := Lib.hid hb
  clear ho hb HNs
  go_wp2_with fail
  go_loopw [7] (fun i wr => ∃ (j : Nat), j ≤ 7 ∧ i = .int .i64 ((j : Int) + 1) ∧ Hid (nd m j ≤ q) ∧ Hid (Own wr g (g + 1) (some ⟨g, 0, none⟩) (foundL (m + 1) 10)) ∧ Hid (Below w2.heap.size w2 wr)) (fun i _ => 9 - (intOf i).toNat)
  case atStart => exact ⟨0, by omega, by go_num, HZ, HO, HB⟩
  case round =>
    clear HO HB HZ
    obtain ⟨j, hj, rfl, HJ, HO, HB⟩ := hrel
    rename World => w4
    by_cases hlt : j < 7
    · have HFk := HFr.out (j + 2)
      rw [show ((j + 2 : Nat) : Int) = (j : Int) + 1 + 1 from by omega] at HFk
      have HFk := Lib.hid HFk
      have HKk := Lib.hid (HK.out (j + 2) (by omega))
      have hkl := HKL.out (j + 2) (by omega)
      have hkc := own_cell HO.out (k := keyR (freshR m (j + 2))) (by rw [HFL.out]; exact hkl)
      rw [show (foundL (m + 1) 10).getD (keyR (freshR m (j + 2))) 0 = nd m (j + 1) from by rw [nd, ← HFA.out (j + 2) (by omega)]; simp [foundL, List.getD, hkl]] at hkc
      have hg3 := own_lt HO.out
      have HE := Lib.hid (HEq.out j (by omega) HJ.out)
      generalize keyR (freshR m (j + 2)) = ky at hkc hkl HKk
      have hkyI : (ky : Int) < ((9 ^ (m + 1) : Nat) : Int) := by omega
      have HX : Hid (∃ x, x = nd m (j + 1)) := Lib.hid ⟨_, rfl⟩
      obtain ⟨x, hx⟩ := HX.out
      rw [← hx] at hkc
      have HXe := Lib.hid hx
      clear HK HKL HFA HFr HX hx HEq
      go_wp2_with fail
      refine (HFk.out w4).mono ?_
      rintro e w5 ⟨gF, rfl, hgF, hoF, hb4⟩
      have HO5 := Lib.hid (own_same HO.out (hb4.block g hg3))
      have HB5 := Lib.hid (below_trans HB.out hb4)
      have hkc4 := (hb4.cell (p := ⟨g, ky, none⟩) hg3).trans hkc
      have HIn := Lib.hid (Ins.mk hoF.ints (own_lt hoF))
      clear hb4 hkc HFk HO HB hoF
      go_wp2_with fail
      refine (HKk.out (some ⟨gF, 0, none⟩) (m + 1) gF (gF + 1) w5 HIn.out).mono ?_
      rintro e w6 ⟨rfl, rfl⟩
      by_cases hq : x ≤ q
      · have HJ2 : Hid (nd m (j + 1) ≤ q) := Lib.hid (by rw [← HXe.out]; exact hq)
        go_wp2
        go_roundw
        case rel => exact ⟨j + 1, by omega, by go_num, HJ2, HO5, HB5⟩
        case measure => simp [intOf]; omega
      · have HR := Lib.hid (HE.out (.inr (by rw [← HXe.out]; omega)))
        go_wp2
        go_ret2
        rw [HR.out]
        exact ⟨rfl, HB5.out⟩
    · have HR := Lib.hid (HEq.out j (by omega) HJ.out (.inl (by omega)))
      go_wp2
      go_ret2
      rw [HR.out]
      exact ⟨rfl, HB.out⟩
set_option maxHeartbeats 2000000 in
/-- What MostByNeed answers. -/
theorem mostByNeed_both (q m : Int) : ∃ (r0 : Int) (r1 : Bool),
    (∀ (w : World), Calls Try.prog 40 #[.int .i64 q, .int .i64 m] w fun e w' => e = .returned (.tuple #[.int .i64 r0, .bool r1]) ∧ Below w.heap.size w w') ∧
    (∀ (w : World), Calls Try.prog 39 #[.int .i64 q, .int .i64 m] w fun e w' => e = .returned (.tuple #[.int .i64 r0, .bool r1]) ∧ Below w.heap.size w w') := by
  have HC := Lib.hid (fun W => l1In_any q 0 20 W)
  have HF := Lib.hid (fun W => l1In_any m 0 2 W)
  by_cases h : inB m 0 2 = true
  · have b1 := inB_iff.1 h
    obtain ⟨a, rfl⟩ : ∃ a : Nat, m = (a : Int) := ⟨m.toNat, by omega⟩
    by_cases h2 : inB q 0 20 = true
    · have b2 := inB_iff.1 h2
      exact ⟨mbTo a q 8, true, fun w => mostN_impl a q w (by omega) b2.1 b2.2, fun w => mostN_spec a q w (by omega) b2.1 b2.2⟩
    · have h3 : inB q 0 20 = false := by simpa using h2
      rw [h3] at HC
      rw [h] at HF
      have h4 : q < 0 ∨ 20 < q := by
        rw [inB_iff] at h2
        omega
      clear h h2 h3
      refine ⟨0, false, fun w => ?_, fun w => ?_⟩
      · have HT := Lib.hid (fun W => needTable_impl a W (by omega))
        have hul := ndU_len a 8
        rcases h4 with h4 | h4
        all_goals
          go_enter Try.func40, Try.ntmps40
          go_wp2_with fail
          refine (HT.out w).mono ?_
          rintro e w1 ⟨B, c1, rfl, hr, hb⟩
          have HB := Lib.hid hb
          clear hr hb
          go_wp2
          go_ret2
          exact ⟨rfl, HB.out⟩
      · go_enter Try.func39, Try.ntmps39
        go_wp2_with fail
        refine (HC.out w).mono ?_
        rintro e w1 ⟨rfl, rfl⟩
        go_wp2
        go_ret2
        exact ⟨rfl, Below.refl _ _⟩
  · have h : inB m 0 2 = false := by simpa using h
    rw [h] at HF
    refine ⟨0, false, fun w => ?_, fun w => ?_⟩
    · have HT := Lib.hid (fun W => needTable_no m W h)
      clear h
      go_enter Try.func40, Try.ntmps40
      go_wp2_with fail
      refine (HT.out w).mono ?_
      rintro e w1 ⟨B, c1, rfl, hb⟩
      have HB := Lib.hid hb
      clear hb
      go_wp2
      go_ret2
      exact ⟨rfl, HB.out⟩
    · generalize inB q 0 20 = y at HC
      clear h
      cases y
      all_goals
        go_enter Try.func39, Try.ntmps39
        go_wp2_with fail
        refine (HC.out w).mono ?_
        rintro e w1 ⟨rfl, rfl⟩
        go_wp2_with (first | (go_at_call 66; refine (HF.out _).mono ?_; rintro e w2 ⟨rfl, rfl⟩))
        go_ret2
        exact ⟨rfl, Below.refl _ _⟩
end Go.Proofs.Ytmieognengfiiaa
