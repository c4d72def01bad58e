/- MostByNeed: both. -/
import Derived.Test.YthpnkeecpaflfaaNTab
namespace Go.Proofs.Ythpnkeecpaflfaa
open Go.RowKit Go.ChangeShapes Go.WideShapes
set_option linter.unusedVariables false

/-- The last place of the table that q questions reach, from 1; 0 where none. -/
abbrev mbTo (m : Nat) (q : Int) : Nat → Int := mbG (nd m) q
theorem nd_up : ∀ m : Fin 3, ∀ i : Fin 7, nd m i ≤ nd m (i + 1 : Nat) := by decide +kernel
theorem nd_zero : ∀ m : Fin 3, nd m 0 = 0 := by decide +kernel
theorem nd_mono {m i : Nat} (hm : m ≤ 2) : ∀ d, i + d ≤ 7 → nd m i ≤ nd m (i + d)
  | 0, _ => Int.le_refl _
  | d + 1, h => Int.le_trans (nd_mono hm d (by omega)) (nd_up ⟨m, by omega⟩ ⟨i + d, by omega⟩)
theorem mb_eq {m j : Nat} {q : Int} (hm : m ≤ 2) (hj : j ≤ 7) (h1 : nd m j ≤ q) (h2 : j = 7 ∨ ¬ nd m (j + 1) ≤ q) : mbTo m q 8 = (j : Int) + 1 :=
  mbG_eq (fun i d h => nd_mono hm d h) hj h1 h2
set_option maxRecDepth 100000 in
set_option maxHeartbeats 2000000 in
theorem mostN_impl (m : Nat) (q : Int) (w : World) (hm : m ≤ 2) (hq0 : 0 ≤ q) (hq1 : q ≤ 20) :
    Calls Try.prog 12 #[.int .i64 q, .int .i64 (m : Int)] w fun e w' => e = .returned (.tuple #[.int .i64 (mbTo m q 8), .bool true]) ∧ Below w.heap.size w w' := by
  have HT := Lib.hid (fun W => needTable_impl m W hm)
  have HMW := Lib.hid (fun A c lo hi W h => mostWithin_any (nd m) q A c lo hi W h hq0 hq1)
  have HU : Hid (ndG (nd m) 8 = ndU m 8) := Lib.hid rfl
  rw [HU.out] at HMW
  generalize ndU m 8 = L at HT HMW
  clear HU
  go_enter Try.func12, Try.ntmps12
  go_wp2_with fail
  refine (HT.out w).mono ?_
  rintro e w1 ⟨B, c1, rfl, hr, hb⟩
  have HR := Lib.hid hr.ins
  have HB := Lib.hid hb
  clear hr hb HT
  go_wp2_with fail
  refine (HMW.out B c1 _ _ w1 HR.out).mono ?_
  rintro e w2 ⟨rfl, hw2⟩
  subst hw2
  go_wp2
  go_ret2
  exact ⟨rfl, HB.out⟩
set_option maxRecDepth 100000 in
set_option maxHeartbeats 2000000 in
theorem mostN_no (q m : Int) (w : World) (h : inB m 0 2 = false ∨ inB q 0 20 = false) :
    Calls Try.prog 12 #[.int .i64 q, .int .i64 m] w fun e w' => e = .returned (.tuple #[.int .i64 0, .bool false]) ∧ Below w.heap.size w w' := by
  have HT : Hid (∀ W : World, Calls Try.prog 15 #[.int .i64 m] W fun e w' => ∃ B n c' b, e = .returned (.tuple #[.slice B n c', .bool b]) ∧ n ≤ 1048576 ∧ (n = 0 ∨ q < 0 ∨ 20 < q) ∧ Below W.heap.size W w') := Lib.hid (by
    intro W
    cases hm : inB m 0 2 with
    | false =>
      refine (needTable_no2 m W hm).mono ?_
      rintro e w' ⟨B, c', rfl, _, hb⟩
      exact ⟨B, 0, c', false, rfl, by omega, .inl rfl, hb⟩
    | true =>
      have b1 := inB_iff.1 hm
      obtain ⟨a, rfl⟩ : ∃ a : Nat, m = (a : Int) := ⟨m.toNat, by omega⟩
      refine (needTable_impl a W (by omega)).mono ?_
      rintro e w' ⟨B, c', rfl, _, hb⟩
      have hq : ¬ (0 ≤ q ∧ q ≤ 20) := by
        rcases h with h | h
        · rw [h] at hm; cases hm
        · rw [← inB_iff, h]; simp
      exact ⟨B, _, c', true, rfl, by rw [ndU_len]; omega, .inr (by omega), hb⟩)
  have HMW := Lib.hid (fun A n c W h1 h2 => mostWithin_no A n c q W h1 h2)
  clear h
  go_enter Try.func12, Try.ntmps12
  go_wp2_with fail
  refine (HT.out w).mono ?_
  rintro e w1 ⟨B, n, c1, b, rfl, hn, hq, hb⟩
  have HB := Lib.hid hb
  have HQ := Lib.hid hq
  clear hq hb HT
  go_wp2_with fail
  refine (HMW.out B n c1 w1 hn HQ.out).mono ?_
  rintro e w2 ⟨rfl, hw2⟩
  subst hw2
  go_wp2
  go_ret2
  exact ⟨rfl, HB.out⟩
set_option maxRecDepth 100000 in
set_option maxHeartbeats 2000000 in
theorem mostN_spec (m : Nat) (q : Int) (w : World) (hm : m ≤ 2) (hq0 : 0 ≤ q) (hq1 : q ≤ 20) :
    Calls Try.prog 13 #[.int .i64 q, .int .i64 (m : Int)] w fun e w' => e = .returned (.tuple #[.int .i64 (mbTo m q 8), .bool true]) ∧ Below w.heap.size w w' := by
  have HC := Lib.hid (fun W => l1In_any (m : Int) 0 2 W)
  rw [inB_t (by omega) (by omega)] at HC
  have HD := Lib.hid (fun W => l1In_any q 0 20 W)
  rw [inB_t (by omega) (by omega)] at HD
  have HNs := Lib.hid (fun W => l4Needs_any (m + 1) W (by omega))
  have hp9 := pow9 (p := m + 1) (by omega)
  have HFr := Lib.hid (fun n W => l4Fresh_any m n W hm)
  have HK := Lib.hid (fun n (h : n ≤ 8) B cB lo hi W h2 => l4Key_any B cB lo hi (m + 1) (freshR m n) W h2 (fresh_wide hm) (by rw [fresh_sum]; exact h))
  have HKL := Lib.hid (fun n (h : n ≤ 8) => key_lt (fresh_wide (n := n) hm) (by rw [fresh_sum]; exact h))
  have HFA := Lib.hid (fun n (h : n ≤ 8) => found_all (r := freshR m n) (by rw [fresh_sum]; exact h))
  have HFL := Lib.hid (foundL_len (m + 1) 10)
  have HZ : Hid (nd m 0 ≤ q) := Lib.hid (by have := nd_zero ⟨m, by omega⟩; simp only at this; omega)
  have HEq := Lib.hid (fun j hj h1 h2 => mb_eq (m := m) (j := j) (q := q) hm hj h1 h2)
  go_enter Try.func13, Try.ntmps13
  go_wp2_with fail
  refine (HD.out w).mono ?_
  rintro e w1 ⟨rfl, rfl⟩
  go_wp2_with fail
  refine (HC.out w1).mono ?_
  rintro e w2 ⟨rfl, rfl⟩
  clear HC HD
  go_wp2_with fail
  refine (HNs.out w2).mono ?_
  rintro e w3 ⟨g, cg, rfl, hg, ho, hb⟩
  have HO := Lib.hid ho
  have HB := Lib.hid hb
  clear ho hb HNs
  go_wp2_with fail
  go_loopw [7] (fun i wr => ∃ (j : Nat), j ≤ 7 ∧ i = .int .i64 ((j : Int) + 1) ∧ Hid (nd m j ≤ q) ∧ Hid (Own wr g (g + 1) (some ⟨g, 0, none⟩) (foundL (m + 1) 10)) ∧ Hid (Below w2.heap.size w2 wr)) (fun i _ => 9 - (intOf i).toNat)
  case atStart => exact ⟨0, by omega, by go_num, HZ, HO, HB⟩
  case round =>
    clear HO HB HZ
    obtain ⟨j, hj, rfl, HJ, HO, HB⟩ := hrel
    rename World => w4
    by_cases hlt : j < 7
    · have HFk := HFr.out (j + 2)
      rw [show ((j + 2 : Nat) : Int) = (j : Int) + 1 + 1 from by omega] at HFk
      have HFk := Lib.hid HFk
      have HKk := Lib.hid (HK.out (j + 2) (by omega))
      have hkl := HKL.out (j + 2) (by omega)
      have hkc := own_cell HO.out (k := keyR (freshR m (j + 2))) (by rw [HFL.out]; exact hkl)
      rw [show (foundL (m + 1) 10).getD (keyR (freshR m (j + 2))) 0 = nd m (j + 1) from by rw [nd, ← HFA.out (j + 2) (by omega)]; simp [foundL, List.getD, hkl]] at hkc
      have hg3 := own_lt HO.out
      have HE := Lib.hid (HEq.out j (by omega) HJ.out)
      generalize keyR (freshR m (j + 2)) = ky at hkc hkl HKk
      have hkyI : (ky : Int) < ((9 ^ (m + 1) : Nat) : Int) := by omega
      have HX : Hid (∃ x, x = nd m (j + 1)) := Lib.hid ⟨_, rfl⟩
      obtain ⟨x, hx⟩ := HX.out
      rw [← hx] at hkc
      have HXe := Lib.hid hx
      clear HK HKL HFA HFr HX hx HEq
      go_wp2_with fail
      refine (HFk.out w4).mono ?_
      rintro e w5 ⟨gF, rfl, hgF, hoF, hb4⟩
      have HO5 := Lib.hid (own_same HO.out (hb4.block g hg3))
      have HB5 := Lib.hid (below_trans HB.out hb4)
      have hkc4 := (hb4.cell (p := ⟨g, ky, none⟩) hg3).trans hkc
      have HIn := Lib.hid (Ins.mk hoF.ints (own_lt hoF))
      clear hb4 hkc HFk HO HB hoF
      go_wp2_with fail
      refine (HKk.out (some ⟨gF, 0, none⟩) (m + 1) gF (gF + 1) w5 HIn.out).mono ?_
      rintro e w6 ⟨rfl, rfl⟩
      by_cases hq : x ≤ q
      · have HJ2 : Hid (nd m (j + 1) ≤ q) := Lib.hid (by rw [← HXe.out]; exact hq)
        go_wp2
        go_roundw
        case rel => exact ⟨j + 1, by omega, by go_num, HJ2, HO5, HB5⟩
        case measure => simp [intOf]; omega
      · have HR := Lib.hid (HE.out (.inr (by rw [← HXe.out]; omega)))
        go_wp2
        go_ret2
        rw [HR.out]
        exact ⟨rfl, HB5.out⟩
    · have HR := Lib.hid (HEq.out j (by omega) HJ.out (.inl (by omega)))
      go_wp2
      go_ret2
      rw [HR.out]
      exact ⟨rfl, HB.out⟩
set_option maxHeartbeats 2000000 in
/-- What MostByNeed answers. -/
theorem mostByNeed_both2 (q m : Int) : ∃ (r0 : Int) (r1 : Bool), (r1 = true → ∃ a : Nat, m = (a : Int) ∧ a ≤ 2 ∧ (0 ≤ q ∧ q ≤ 20) ∧ r0 = mbTo a q 8) ∧
    (∀ (w : World), Calls Try.prog 12 #[.int .i64 q, .int .i64 m] w fun e w' => e = .returned (.tuple #[.int .i64 r0, .bool r1]) ∧ Below w.heap.size w w') ∧
    (∀ (w : World), Calls Try.prog 13 #[.int .i64 q, .int .i64 m] w fun e w' => e = .returned (.tuple #[.int .i64 r0, .bool r1]) ∧ Below w.heap.size w w') := by
  have HC := Lib.hid (fun W => l1In_any q 0 20 W)
  have HF := Lib.hid (fun W => l1In_any m 0 2 W)
  by_cases h : inB m 0 2 = true
  · have b1 := inB_iff.1 h
    obtain ⟨a, rfl⟩ : ∃ a : Nat, m = (a : Int) := ⟨m.toNat, by omega⟩
    by_cases h2 : inB q 0 20 = true
    · have b2 := inB_iff.1 h2
      exact ⟨mbTo a q 8, true, (fun _ => ⟨a, rfl, by omega, b2, rfl⟩), fun w => mostN_impl a q w (by omega) b2.1 b2.2, fun w => mostN_spec a q w (by omega) b2.1 b2.2⟩
    · have h3 : inB q 0 20 = false := by simpa using h2
      rw [h3] at HC
      rw [h] at HF
      have h4 : q < 0 ∨ 20 < q := by
        rw [inB_iff] at h2
        omega
      clear h h2
      refine ⟨0, false, (fun h => by cases h), fun w => ?_, fun w => ?_⟩
      · exact mostN_no q a w (.inr h3)
      · go_enter Try.func13, Try.ntmps13
        go_wp2_with fail
        refine (HC.out w).mono ?_
        rintro e w1 ⟨rfl, rfl⟩
        go_wp2
        go_ret2
        exact ⟨rfl, Below.refl _ _⟩
  · have h : inB m 0 2 = false := by simpa using h
    rw [h] at HF
    refine ⟨0, false, (fun h => by cases h), fun w => ?_, fun w => ?_⟩
    · exact mostN_no q m w (.inl h)
    · generalize inB q 0 20 = y at HC
      clear h
      cases y
      all_goals
        go_enter Try.func13, Try.ntmps13
        go_wp2_with fail
        refine (HC.out w).mono ?_
        rintro e w1 ⟨rfl, rfl⟩
        go_wp2_with (first | (go_at_call 23; refine (HF.out _).mono ?_; rintro e w2 ⟨rfl, rfl⟩))
        go_ret2
        exact ⟨rfl, Below.refl _ _⟩
theorem mostByNeed_both (q m : Int) : ∃ (r0 : Int) (r1 : Bool),
    (∀ (w : World), Calls Try.prog 12 #[.int .i64 q, .int .i64 m] w fun e w' => e = .returned (.tuple #[.int .i64 r0, .bool r1]) ∧ Below w.heap.size w w') ∧
    (∀ (w : World), Calls Try.prog 13 #[.int .i64 q, .int .i64 m] w fun e w' => e = .returned (.tuple #[.int .i64 r0, .bool r1]) ∧ Below w.heap.size w w') := by
  obtain ⟨r0, r1, _, h1, h2⟩ := mostByNeed_both2 q m
  exact ⟨r0, r1, h1, h2⟩
end Go.Proofs.Ythpnkeecpaflfaa
