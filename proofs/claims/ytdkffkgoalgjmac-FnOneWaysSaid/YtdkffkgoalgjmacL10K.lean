/- SameOneWay: both. -/
import Derived.Test.YtdkffkgoalgjmacL10D
namespace Go.Proofs.Ytdkffkgoalgjmac
open Go.RowKit Go.ChangeShapes Go.WideShapes
set_option linter.unusedVariables false

set_option maxRecDepth 100000 in
set_option maxHeartbeats 2000000 in
theorem equalInts_any (A : Option Addr) (c lo hi : Nat) (A2 : Option Addr) (c2 lo2 hi2 : Nat) (n : Nat) (zs ys : List Int) (w : World) (hS : Ins w lo hi A zs) (hS2 : Ins w lo2 hi2 A2 ys) (h1 : zs.length = n) (h2 : ys.length = n) (hn : n ≤ 12) :
    Calls Try.prog 88 #[.slice A n c, .slice A2 n c2] w fun e w' => e = .returned (.bool (decide (zs = ys))) ∧ Below w.heap.size w w' := by
  have HS := Lib.hid hS
  have HS2 := Lib.hid hS2
  have HL := Lib.hid h1
  have HL2 := Lib.hid h2
  clear hS hS2 h1 h2
  go_enter Try.func88, Try.ntmps88
  go_wp2_with fail
  go_loopw [13] (fun i wr => ∃ (k q : Nat), k ≤ n ∧ i = .int .i64 k ∧ Hid (∀ j, j < k → zs[j]? = ys[j]?) ∧ wr = w.drewN q) (fun i _ => n - (intOf i).toNat)
  case atStart => exact ⟨0, 0, Nat.zero_le _, rfl, Lib.hid (fun j h => absurd h (by omega)), rfl⟩
  case round =>
    obtain ⟨k, q, hk, rfl, HF, hwr⟩ := hrel
    first | subst hwr | (have hwr2 := hwr.symm; subst hwr2)
    by_cases hlt : k < n
    · have hz : k < zs.length := by rw [HL.out]; exact hlt
      have hy : k < ys.length := by rw [HL2.out]; exact hlt
      obtain ⟨b, o, rfl, _, hb, hc⟩ := HS.out.ints.at_ hz
      obtain ⟨b2, o2, rfl, _, hb2, hc2⟩ := HS2.out.ints.at_ hy
      have HZ := Lib.hid (List.getElem?_eq_getElem hz)
      have HY := Lib.hid (List.getElem?_eq_getElem hy)
      have hltI : (k : Int) < (n : Int) := by omega
      have hk0 : (0 : Int) ≤ (k : Int) := by omega
      generalize zs[k] = x at hc HZ
      generalize ys[k] = y at hc2 HY
      clear hz hy
      by_cases hxy : x = y
      · subst hxy
        have HF3 : Hid (∀ j, j < k + 1 → zs[j]? = ys[j]?) := Lib.hid (fun j hj => by
          by_cases hjk : j = k
          · subst hjk; rw [HZ.out, HY.out]
          · exact HF.out j (by omega))
        clear HF
        go_wp2_with fail
        go_quiet (fail)
        go_wp2
        go_roundw
        case rel => exact ⟨k + 1, _, by omega, by go_num, HF3, by first | rfl | trivial⟩
        case measure => simp [intOf]; omega
      · have E : Hid (decide (zs = ys) = false) := Lib.hid (decide_eq_false (fun e => hxy (by
          have h := HZ.out
          rw [e, HY.out] at h
          injection h with h
          exact h.symm)))
        clear HF
        go_wp2_with fail
        go_quiet (fail)
        go_wp2
        go_ret
        exact ⟨by rw [E.out]; rfl, by first | exact below_drewN (Below.refl _ _) _ | exact below_drewN (below_drewN (Below.refl _ _) _) _⟩
    · obtain rfl : k = n := by omega
      have E : Hid (decide (zs = ys) = true) := Lib.hid (decide_eq_true (List.ext_getElem? (fun j => by
        by_cases hj : j < k
        · exact HF.out j hj
        · rw [List.getElem?_eq_none (by rw [HL.out]; omega), List.getElem?_eq_none (by rw [HL2.out]; omega)])))
      go_wp2
      go_ret
      exact ⟨by rw [E.out]; rfl, below_drewN (Below.refl _ _) _⟩
set_option maxRecDepth 100000 in
set_option maxHeartbeats 2000000 in
theorem l1SameO_any (A : Option Addr) (c lo hi : Nat) (A2 : Option Addr) (c2 lo2 hi2 : Nat) (n : Nat) (zs ys : List Int) (w : World) (hS : Ins w lo hi A zs) (hS2 : Ins w lo2 hi2 A2 ys) (h1 : zs.length = n) (h2 : ys.length = n) (hn : n ≤ 12) :
    Calls Try.prog 89 #[.slice A n c, .slice A2 n c2] w fun e w' => e = .returned (.bool (decide (zs = ys))) ∧ Below w.heap.size w w' := by
  have HS := Lib.hid hS
  have HS2 := Lib.hid hS2
  have HL := Lib.hid h1
  have HL2 := Lib.hid h2
  clear hS hS2 h1 h2
  go_enter Try.func89, Try.ntmps89
  go_wp2_with fail
  go_loopw [5] (fun i wr => ∃ (k q : Nat), k ≤ n ∧ i = .int .i64 k ∧ Hid (∀ j, j < k → zs[j]? = ys[j]?) ∧ wr = w.drewN q) (fun i _ => n - (intOf i).toNat)
  case atStart => exact ⟨0, 0, Nat.zero_le _, rfl, Lib.hid (fun j h => absurd h (by omega)), rfl⟩
  case round =>
    obtain ⟨k, q, hk, rfl, HF, hwr⟩ := hrel
    first | subst hwr | (have hwr2 := hwr.symm; subst hwr2)
    by_cases hlt : k < n
    · have hz : k < zs.length := by rw [HL.out]; exact hlt
      have hy : k < ys.length := by rw [HL2.out]; exact hlt
      obtain ⟨b, o, rfl, _, hb, hc⟩ := HS.out.ints.at_ hz
      obtain ⟨b2, o2, rfl, _, hb2, hc2⟩ := HS2.out.ints.at_ hy
      have HZ := Lib.hid (List.getElem?_eq_getElem hz)
      have HY := Lib.hid (List.getElem?_eq_getElem hy)
      have hltI : (k : Int) < (n : Int) := by omega
      have hk0 : (0 : Int) ≤ (k : Int) := by omega
      generalize zs[k] = x at hc HZ
      generalize ys[k] = y at hc2 HY
      clear hz hy
      by_cases hxy : x = y
      · subst hxy
        have HF3 : Hid (∀ j, j < k + 1 → zs[j]? = ys[j]?) := Lib.hid (fun j hj => by
          by_cases hjk : j = k
          · subst hjk; rw [HZ.out, HY.out]
          · exact HF.out j (by omega))
        clear HF
        go_wp2_with fail
        go_quiet (fail)
        go_wp2
        go_roundw
        case rel => exact ⟨k + 1, _, by omega, by go_num, HF3, by first | rfl | trivial⟩
        case measure => simp [intOf]; omega
      · have E : Hid (decide (zs = ys) = false) := Lib.hid (decide_eq_false (fun e => hxy (by
          have h := HZ.out
          rw [e, HY.out] at h
          injection h with h
          exact h.symm)))
        clear HF
        go_wp2_with fail
        go_quiet (fail)
        go_wp2
        go_ret
        exact ⟨by rw [E.out]; rfl, by first | exact below_drewN (Below.refl _ _) _ | exact below_drewN (below_drewN (Below.refl _ _) _) _⟩
    · obtain rfl : k = n := by omega
      have E : Hid (decide (zs = ys) = true) := Lib.hid (decide_eq_true (List.ext_getElem? (fun j => by
        by_cases hj : j < k
        · exact HF.out j hj
        · rw [List.getElem?_eq_none (by rw [HL.out]; omega), List.getElem?_eq_none (by rw [HL2.out]; omega)])))
      go_wp2
      go_ret
      exact ⟨by rw [E.out]; rfl, below_drewN (Below.refl _ _) _⟩
theorem field_lies (v : Value) (m : Int) (w : World) (A : Option Addr) (n c : Nat) (hv : v = .slice A n c) : (Instr.field 28 (.agg #[v, .int .i64 m]) 0).run Try.prog w = .ok v w := by subst hv; kernel_rfl
set_option maxRecDepth 100000 in
set_option maxHeartbeats 4000000 in
theorem sameOneWay_impl_no (n m : Int) (A : Option Addr) (c lo hi : Nat) (l : List (Int × Bool)) (w : World) (hS : AIns w lo hi A l) (hl : l.length ≤ 1048576) (hno : (inB n 1 12 = false ∨ inB m 0 2 = false) ∨ ((1 ≤ n ∧ n ≤ 12) ∧ inB m 0 2 = true ∧ okA n l = false)) :
    Calls Try.prog 30 #[.int .i64 n, .int .i64 m, .slice A l.length c] w fun e w' => e = .returned (.tuple #[.bool false, .bool false]) ∧ Below w.heap.size w w' := by
  have HO := Lib.hid (fun W h => oneWayAll_impl_no n m A c lo hi l W h hl hno)
  have HS := Lib.hid hS
  clear hS hno
  go_enter Try.func30, Try.ntmps30
  go_wp2_with fail
  refine (HO.out w HS.out).mono ?_
  rintro e w1 ⟨rfl, hb⟩
  have HB := Lib.hid (hb.alloc hb.size (.cells #[.slice none 0 0, .int .i64 0] 28))
  clear hb
  go_wp2
  go_ret2
  exact ⟨rfl, HB.out⟩
set_option maxRecDepth 100000 in
set_option maxHeartbeats 4000000 in
theorem sameOneWay_impl (n : Nat) (m : Int) (A : Option Addr) (c lo hi : Nat) (l : List (Int × Bool)) (w : World) (hS : AIns w lo hi A l) (hok : okA n l = true) (h1n : 1 ≤ n) (hn : n ≤ 12) (hm : inB m 0 2 = true) (h20 : l.length ≤ 20) :
    Calls Try.prog 30 #[.int .i64 (n : Int), .int .i64 m, .slice A l.length c] w fun e w' => e = .returned (.tuple #[.bool (decide (owSt n m l l.length = stTo n m l l.length)), .bool true]) ∧ Below w.heap.size w w' := by
  have HO := Lib.hid (fun W h => oneWayAll_impl n m A c lo hi l W h hok h1n hn hm h20)
  have HA := Lib.hid (fun W h => answerAll_impl n m A c lo hi l W h hok h1n hn hm h20)
  have HE := Lib.hid (fun A1 c1 lo1 hi1 A2 c2 lo2 hi2 W h h2 => equalInts_any A1 c1 lo1 hi1 A2 c2 lo2 hi2 n (owSt n m l l.length) (stTo n m l l.length) W h h2 (owSt_len n m l _) (stTo_len n m l _) hn)
  have HS := Lib.hid hS
  clear hS hok hm
  generalize decide (owSt n m l l.length = stTo n m l l.length) = b at HE ⊢
  generalize owSt n m l l.length = xs at HO HE
  generalize stTo n m l l.length = ys at HA HE
  go_enter Try.func30, Try.ntmps30
  go_wp2_with fail
  refine (HO.out w HS.out).mono ?_
  rintro e w1 ⟨g, c1, rfl, hg, ho, hb⟩
  have hA := (Below.refl w1.heap.size w1).alloc (Nat.le_refl _) (.cells #[.slice (some ⟨g, 0, none⟩) n c1, .int .i64 m] 28)
  have HT := Lib.hid (Two.new w1 (.slice (some ⟨g, 0, none⟩) n c1) (.int .i64 m) 28 w1.heap.size rfl)
  have HB := Lib.hid (below_trans hb hA)
  have HOx := Lib.hid (own_same ho (hA.block g (own_lt ho)))
  have HS1 := Lib.hid ((HS.out.step hb).step hA)
  clear ho hb hA HO
  go_upto_region 2 with fail
  generalize w1.alloc (.cells #[.slice (some ⟨g, 0, none⟩) n c1, .int .i64 m] 28) = w2 at HT HB HOx HS1 ⊢
  go_wp2_with fail
  refine (HA.out w2 HS1.out).mono ?_
  rintro e w3 ⟨g2, c2, rfl, hg2, ho2, hb⟩
  have hA := (Below.refl w3.heap.size w3).alloc (Nat.le_refl _) (.cells #[.slice (some ⟨g2, 0, none⟩) n c2, .int .i64 m] 28)
  have HT2 := Lib.hid (Two.new w3 (.slice (some ⟨g2, 0, none⟩) n c2) (.int .i64 m) 28 w3.heap.size rfl)
  have HTb := Lib.hid ((HT.out.step hb).step hA)
  have HBb := Lib.hid (below_trans (below_trans HB.out hb) hA)
  have HOy := Lib.hid (own_same ho2 (hA.block g2 (own_lt ho2)))
  have HOxb := Lib.hid (own_same HOx.out ((below_trans hb (by first | exact hA | exact hA)).block g (own_lt HOx.out)))
  clear ho2 hb hA HA HT HB HOx
  go_upto_region 5 with fail
  generalize w3.alloc (.cells #[.slice (some ⟨g2, 0, none⟩) n c2, .int .i64 m] 28) = w4 at HT2 HTb HBb HOy HOxb ⊢
  have a0 := HTb.out.c0
  have b0 := HT2.out.c0
  go_wp2_with fail
  refine (HE.out (some ⟨g, 0, none⟩) c1 g (g + 1) (some ⟨g2, 0, none⟩) c2 g2 (g2 + 1) w4 ⟨HOxb.out.ints, own_lt HOxb.out⟩ ⟨HOy.out.ints, own_lt HOy.out⟩).mono ?_
  rintro e w5 ⟨rfl, hb⟩
  have HB5 := Lib.hid (below_trans HBb.out hb)
  clear hb
  go_wp2
  go_ret2
  exact ⟨rfl, HB5.out⟩
set_option maxRecDepth 100000 in
set_option maxHeartbeats 4000000 in
theorem sameOneWay_spec_no (n m : Int) (A : Option Addr) (c lo hi : Nat) (l : List (Int × Bool)) (w : World) (hS : AIns w lo hi A l) (hl : l.length ≤ 1048576) (hno : okA n l = false ∨ inB m 0 2 = false) :
    Calls Try.prog 31 #[.int .i64 n, .int .i64 m, .slice A l.length c] w fun e w' => e = .returned (.tuple #[.bool false, .bool false]) ∧ Below w.heap.size w w' := by
  have HA := Lib.hid (fun W h => l2Answers_any n A c lo hi l W h hl)
  have HM := Lib.hid (fun W => l1In_any m 0 2 W)
  have HS := Lib.hid hS
  clear hS
  cases hq : okA n l with
  | false =>
    rw [hq] at HA
    clear hno hq
    go_enter Try.func31, Try.ntmps31
    go_wp2_with fail
    refine (HA.out w HS.out).mono ?_
    rintro e w1 ⟨rfl, hb⟩
    have HB := Lib.hid hb
    clear hb
    go_wp2
    go_ret2
    exact ⟨rfl, HB.out⟩
  | true =>
    rw [hq] at HA hno
    have hm : inB m 0 2 = false := by simpa using hno
    rw [hm] at HM
    clear hno hq hm
    go_enter Try.func31, Try.ntmps31
    go_wp2_with fail
    refine (HA.out w HS.out).mono ?_
    rintro e w1 ⟨rfl, hb⟩
    have HB := Lib.hid hb
    clear hb
    go_wp2_with fail
    refine (HM.out w1).mono ?_
    rintro e w2 ⟨rfl, hw0⟩
    subst hw0
    go_wp2
    go_ret2
    exact ⟨rfl, HB.out⟩
set_option maxRecDepth 100000 in
set_option maxHeartbeats 4000000 in
theorem sameOneWay_spec (n : Nat) (m : Int) (A : Option Addr) (c lo hi : Nat) (l : List (Int × Bool)) (w : World) (hS : AIns w lo hi A l) (hok : okA n l = true) (h1n : 1 ≤ n) (hn : n ≤ 12) (hm : inB m 0 2 = true) :
    Calls Try.prog 31 #[.int .i64 (n : Int), .int .i64 m, .slice A l.length c] w fun e w' => e = .returned (.tuple #[.bool (decide (owSt n m l l.length = stTo n m l l.length)), .bool true]) ∧ Below w.heap.size w w' := by
  have h20 := (okA_iff hok).2
  have HA := Lib.hid (fun W h => l2Answers_any (n : Int) A c lo hi l W h (by omega))
  rw [hok] at HA
  have HM := Lib.hid (fun W => l1In_any m 0 2 W)
  rw [hm] at HM
  have HL := Lib.hid (fun W h => l10All_any n m A c lo hi l W h hok h1n hn hm)
  have HL2 := Lib.hid (fun W h => l2All_any n m A c lo hi l W h hok h1n hn hm)
  have HE := Lib.hid (fun A1 c1 lo1 hi1 A2 c2 lo2 hi2 W h h2 => l1SameO_any A1 c1 lo1 hi1 A2 c2 lo2 hi2 n (owSt n m l l.length) (stTo n m l l.length) W h h2 (owSt_len n m l _) (stTo_len n m l _) hn)
  have HS := Lib.hid hS
  have hf1 := fun (A : Option Addr) (k c : Nat) W => field_lies (.slice A k c) m W A k c rfl
  clear hS hok hm
  generalize decide (owSt n m l l.length = stTo n m l l.length) = b at HE ⊢
  generalize owSt n m l l.length = xs at HL HE
  generalize stTo n m l l.length = ys at HL2 HE
  go_enter Try.func31, Try.ntmps31
  go_wp2_with fail
  refine (HA.out w HS.out).mono ?_
  rintro e w1 ⟨rfl, hb⟩
  have HB := Lib.hid hb
  have HS1 := Lib.hid (HS.out.step hb)
  clear hb HA
  go_wp2_with fail
  refine (HM.out w1).mono ?_
  rintro e w2 ⟨rfl, hw0⟩
  subst hw0
  clear HM
  go_wp2_with fail
  refine (HL.out _ HS1.out).mono ?_
  rintro e w3 ⟨g, c1, rfl, hg, ho, hb⟩
  have HB3 := Lib.hid (below_trans HB.out hb)
  have HO := Lib.hid ho
  have HS3 := Lib.hid (HS1.out.step hb)
  clear hb ho HL
  go_wp2_with fail
  refine (HL2.out w3 HS3.out).mono ?_
  rintro e w4 ⟨g2, c2, rfl, hg2, ho2, hb⟩
  have HB4 := Lib.hid (below_trans HB3.out hb)
  have HO4 := Lib.hid (own_same HO.out (hb.block g (own_lt HO.out)))
  have HO2 := Lib.hid ho2
  clear hb ho2 HL2
  go_wp2_with fail
  refine (HE.out (some ⟨g, 0, none⟩) c1 g (g + 1) (some ⟨g2, 0, none⟩) c2 g2 (g2 + 1) w4 ⟨HO4.out.ints, own_lt HO4.out⟩ ⟨HO2.out.ints, own_lt HO2.out⟩).mono ?_
  rintro e w5 ⟨rfl, hb⟩
  have HB5 := Lib.hid (below_trans HB4.out hb)
  clear hb
  go_wp2
  go_ret2
  exact ⟨rfl, HB5.out⟩
theorem sameOneWay_both (n m : Int) (l : List (Int × Bool)) (h : l.length ≤ 1048576) : ∃ (r0 r1 : Bool),
    (∀ (w : World) (B : Option Addr) (c lo hi : Nat), AIns w lo hi B l → Calls Try.prog 30 #[.int .i64 n, .int .i64 m, .slice B l.length c] w fun e w' => e = .returned (.tuple #[.bool r0, .bool r1]) ∧ Below w.heap.size w w') ∧
    (∀ (w : World) (B : Option Addr) (c lo hi : Nat), AIns w lo hi B l → Calls Try.prog 31 #[.int .i64 n, .int .i64 m, .slice B l.length c] w fun e w' => e = .returned (.tuple #[.bool r0, .bool r1]) ∧ Below w.heap.size w w') := by
  by_cases hg : okA n l = true ∧ inB m 0 2 = true
  · have hok2 := okA_iff hg.1
    have hb := inB_iff.1 hok2.1
    obtain ⟨k, rfl⟩ : ∃ k : Nat, n = (k : Int) := ⟨n.toNat, by omega⟩
    exact ⟨_, true, fun w B c lo hi hS => sameOneWay_impl k m B c lo hi l w hS hg.1 (by omega) (by omega) hg.2 hok2.2, fun w B c lo hi hS => sameOneWay_spec k m B c lo hi l w hS hg.1 (by omega) (by omega) hg.2⟩
  · have hno : okA n l = false ∨ inB m 0 2 = false := by
      cases h1 : okA n l <;> cases h2 : inB m 0 2 <;> simp_all
    have hno2 : (inB n 1 12 = false ∨ inB m 0 2 = false) ∨ ((1 ≤ n ∧ n ≤ 12) ∧ inB m 0 2 = true ∧ okA n l = false) := by
      cases h2 : inB m 0 2 with
      | false => exact .inl (.inr rfl)
      | true =>
        rw [h2] at hno
        cases h1 : inB n 1 12 with
        | false => exact .inl (.inl rfl)
        | true => exact .inr ⟨inB_iff.1 h1, rfl, by simpa using hno⟩
    exact ⟨false, false, fun w B c lo hi hS => sameOneWay_impl_no n m B c lo hi l w hS h hno2, fun w B c lo hi hS => sameOneWay_spec_no n m B c lo hi l w hS h hno⟩
end Go.Proofs.Ytdkffkgoalgjmac
