/- CountBalanced: both sides. -/
import Derived.Test.YtdolonmjhlhkeabIsBal
namespace Go.Proofs.Ytdolonmjhlhkeab
open Go.RowKit Go.ChangeShapes Go.WideShapes
set_option linter.unusedVariables false

/-- How many of the first j questions are balanced. -/
def cntB (q M : Nat) (zs : List Int) : Nat → Nat
  | 0 => 0
  | j + 1 => cntB q M zs j + (if isBal q M zs (j : Int) then 1 else 0)
theorem cntB_yes {q M : Nat} {zs : List Int} {j : Nat} (h : isBal q M zs (j : Int) = true) : cntB q M zs (j + 1) = cntB q M zs j + 1 := by simp [cntB, h]
theorem cntB_no {q M : Nat} {zs : List Int} {j : Nat} (h : isBal q M zs (j : Int) = false) : cntB q M zs (j + 1) = cntB q M zs j := by simp [cntB, h]
theorem cntB_bd (q M : Nat) (zs : List Int) : ∀ j, cntB q M zs j ≤ j
  | 0 => Nat.le_refl _
  | j + 1 => by
    have := cntB_bd q M zs j
    rw [cntB]
    split <;> omega
theorem pow_nat (n : Nat) (h : n ≤ 12) : 2 ^ n ≤ 4096 ∧ 1 ≤ 2 ^ n := by
  have : ∀ n, n ≤ 12 → 2 ^ n ≤ 4096 ∧ 1 ≤ 2 ^ n := by decide
  exact this n h

set_option maxRecDepth 100000 in
set_option maxHeartbeats 4000000 in
theorem countBalanced_impl (A : Option Addr) (c lo hi : Nat) (zs : List Int) (M q : Nat) (w : World) (hS : Ins w lo hi A zs) (hst : isSt zs (M : Int) = true) (hq : q ≤ 29) :
    Calls Try.prog 38 #[.agg #[.slice A zs.length c, .int .i64 (M : Int)], .int .i64 ((q : Int) + 1)] w fun e w' => e = .returned (.tuple #[.int .i64 (cntB q M zs (2 ^ zs.length) : Int), .bool true]) ∧ Below w.heap.size w w' := by
  have hl := isSt_len hst
  have HT := Lib.hid (Two.new w (.slice A zs.length c) (.int .i64 (M : Int)) 26 w.heap.size rfl)
  have HB := Lib.hid ((Below.refl w.heap.size w).alloc (Nat.le_refl _) (.cells #[.slice A zs.length c, .int .i64 (M : Int)] 26))
  have HI := Lib.hid (hS.step HB.out)
  have HC := Lib.hid (fun W h => canAskNow_any A c lo hi zs (M : Int) ((q : Int) + 1) W h (by omega))
  rw [asks_iff.2 ⟨hst, by omega, by omega⟩] at HC
  have HM := Lib.hid (fun W h => weigherOf_any A c lo hi zs M q ((q : Int) + 1) W h (by omega) hq rfl)
  have HQ := Lib.hid (fun (j : Nat) (hj : j < 2 ^ zs.length) => (qOK_iff (n := (zs.length : Int)) (q := (j : Int))).2 ⟨⟨by omega, by omega⟩, by omega, by rw [Int.toNat_natCast]; have := pow_cast zs.length; omega⟩)
  have HV := Lib.hid (fun bb W k h hk => weigh_any A c lo hi zs M q k bb W h hst (by omega) hk)
  have HA := Lib.hid (fun (k : Int) W => by
    have b1 := behW_bd (M := M) k true (show q ≤ 30 by omega) hl.2.1
    have b2 := behW_bd (M := M) k false (show q ≤ 30 by omega) hl.2.1
    have := areBalanced_any (behW q M zs k true : Int) (behW q M zs k false : Int) q W hq (by omega) (by omega)
    rw [← isBal_both] at this
    exact this : ∀ (k : Int) (W : World), Calls Try.prog 94 #[.agg #[.int .i64 (behW q M zs k true : Int), .int .i64 (behW q M zs k false : Int)], .int .i64 ((q : Int) + 1)] W fun e w' => e = .returned (.bool (isBal q M zs k)) ∧ Below W.heap.size W w')
  have hp := pow_le zs.length hl.2.1
  have HPC := Lib.hid (pow_cast zs.length)
  have HPN := Lib.hid (pow_nat zs.length hl.2.1)
  have hn12 := hl.2.1
  clear hS hst hl
  go_enter Try.func38, Try.ntmps38
  go_wp2_with fail
  generalize w.alloc (.cells #[.slice A zs.length c, .int .i64 (M : Int)] 26) = wa at HT HI HB ⊢
  refine (HC.out wa HI.out).mono ?_
  rintro e wb ⟨rfl, hb⟩
  replace HT := Lib.hid (HT.out.step hb)
  replace HI := Lib.hid (HI.out.step hb)
  replace HB := Lib.hid (below_trans HB.out hb)
  clear hb HC
  have h0 := HT.out.c0
  have h1 := HT.out.c1
  go_wp2_with fail
  refine (HM.out _ HI.out).mono ?_
  rintro e wc ⟨bb, rfl, hwg, hb⟩
  replace HT := Lib.hid (HT.out.step hb)
  replace HB := Lib.hid (below_trans HB.out hb)
  have HWG := Lib.hid hwg
  clear hb hwg HI h0 h1
  have h0 := HT.out.c0
  have h1 := HT.out.c1
  go_wp2_with fail
  go_loopw [7, 20] (fun many i wr => ∃ (j : Nat), j ≤ 2 ^ zs.length ∧ i = .int .i64 j ∧ many = .int .i64 (cntB q M zs j : Int) ∧ Hid (Weigher wr bb A c lo hi zs M q) ∧ Hid (Below w.heap.size w wr)) (fun _ i _ => 2 ^ zs.length - (intOf i).toNat)
  case atStart => exact ⟨0, Nat.zero_le _, rfl, rfl, HWG, HB⟩
  case round =>
    clear HWG HB
    obtain ⟨j, hj, rfl, rfl, HWG, HB⟩ := hrel
    have hcb := cntB_bd q M zs j
    have hpc := HPC.out
    have hpn := HPN.out
    by_cases hlt : j < 2 ^ zs.length
    · have hltI : (j : Int) < 2 ^ zs.length := by omega
      have HV1 := Lib.hid (HV.out bb wr (j : Int) HWG.out (HQ.out j hlt))
      have HA1 := Lib.hid (fun W => HA.out (j : Int) W)
      generalize ((behW q M zs (j : Int) true : Nat) : Int) = x1 at HA1 HV1
      generalize ((behW q M zs (j : Int) false : Nat) : Int) = x2 at HA1 HV1
      cases hbl : isBal q M zs (j : Int) with
      | true =>
        have HF := Lib.hid (cntB_yes hbl)
        rw [hbl] at HA1
        clear hbl
        generalize cntB q M zs j = y at HF hcb
        go_wp2_with fail
        refine (HV1.out).mono ?_
        rintro e w2 ⟨rfl, hb⟩
        have HWG2 := Lib.hid (HWG.out.step hb)
        have HB2 := Lib.hid (below_trans HB.out hb)
        clear hb HWG HB
        go_wp2_with fail
        refine (HA1.out _).mono ?_
        rintro e w3 ⟨rfl, hb⟩
        have HWG3 := Lib.hid (HWG2.out.step hb)
        have HB3 := Lib.hid (below_trans HB2.out hb)
        clear hb HWG2 HB2
        go_wp2
        go_roundw
        case rel => exact ⟨j + 1, by omega, by go_num, by rw [HF.out]; go_num, HWG3, HB3⟩
        case measure => simp [intOf]; omega
      | false =>
        have HF := Lib.hid (cntB_no hbl)
        rw [hbl] at HA1
        clear hbl
        generalize cntB q M zs j = y at HF hcb
        go_wp2_with fail
        refine (HV1.out).mono ?_
        rintro e w2 ⟨rfl, hb⟩
        have HWG2 := Lib.hid (HWG.out.step hb)
        have HB2 := Lib.hid (below_trans HB.out hb)
        clear hb HWG HB
        go_wp2_with fail
        refine (HA1.out _).mono ?_
        rintro e w3 ⟨rfl, hb⟩
        have HWG3 := Lib.hid (HWG2.out.step hb)
        have HB3 := Lib.hid (below_trans HB2.out hb)
        clear hb HWG2 HB2
        go_wp2
        go_roundw
        case rel => exact ⟨j + 1, by omega, by go_num, by rw [HF.out], HWG3, HB3⟩
        case measure => simp [intOf]; omega
    · obtain rfl : j = 2 ^ zs.length := by omega
      have hltI : ¬ (((2 ^ zs.length : Nat)) : Int) < 2 ^ zs.length := by omega
      go_wp2
      go_ret2
      exact ⟨rfl, HB.out⟩

set_option maxRecDepth 100000 in
set_option maxHeartbeats 4000000 in
theorem countBalanced_spec (A : Option Addr) (c lo hi : Nat) (zs : List Int) (M q : Nat) (w : World) (hS : Ins w lo hi A zs) (hst : isSt zs (M : Int) = true) (hq : q ≤ 29) :
    Calls Try.prog 39 #[.agg #[.slice A zs.length c, .int .i64 (M : Int)], .int .i64 ((q : Int) + 1)] w fun e w' => e = .returned (.tuple #[.int .i64 (cntB q M zs (2 ^ zs.length) : Int), .bool true]) ∧ Below w.heap.size w w' := by
  have hl := isSt_len hst
  have HT := Lib.hid (Two.new w (.slice A zs.length c) (.int .i64 (M : Int)) 26 w.heap.size rfl)
  have HB := Lib.hid ((Below.refl w.heap.size w).alloc (Nat.le_refl _) (.cells #[.slice A zs.length c, .int .i64 (M : Int)] 26))
  have HI := Lib.hid (hS.step HB.out)
  have HC := Lib.hid (fun W h => l3Asks_any A c lo hi zs (M : Int) ((q : Int) + 1) W h (by omega))
  rw [asks_iff.2 ⟨hst, by omega, by omega⟩] at HC
  have HM := Lib.hid (fun (k : Int) W h => l3Most_any A c lo hi zs M q k ((q : Int) + 1) W h hst hq rfl)
  have hp := pow_le zs.length hl.2.1
  have HPC := Lib.hid (pow_cast zs.length)
  have HPN := Lib.hid (pow_nat zs.length hl.2.1)
  have hn12 := hl.2.1
  have hq1 := IntWalk.i64_in (q : Int) (by omega)
  have hq2 := IntWalk.i64_in ((2 : Int) ^ q) (by have := pow_le30 q (by omega); omega)
  clear hS hst hl
  go_enter Try.func39, Try.ntmps39
  go_wp2_with fail
  generalize w.alloc (.cells #[.slice A zs.length c, .int .i64 (M : Int)] 26) = wa at HT HI HB ⊢
  refine (HC.out wa HI.out).mono ?_
  rintro e wb ⟨rfl, hb⟩
  replace HT := Lib.hid (HT.out.step hb)
  replace HI := Lib.hid (HI.out.step hb)
  replace HB := Lib.hid (below_trans HB.out hb)
  clear hb HC
  go_wp2_with fail
  go_loopw [6, 7] (fun many i wr => ∃ (j : Nat), j ≤ 2 ^ zs.length ∧ i = .int .i64 j ∧ many = .int .i64 (cntB q M zs j : Int) ∧ Hid (Two wr w.heap.size (.slice A zs.length c) (.int .i64 (M : Int)) 26) ∧ Hid (Ins wr lo hi A zs) ∧ Hid (Below w.heap.size w wr)) (fun _ i _ => 2 ^ zs.length - (intOf i).toNat)
  case atStart => exact ⟨0, Nat.zero_le _, rfl, rfl, HT, HI, HB⟩
  case round =>
    clear HT HI HB
    obtain ⟨j, hj, rfl, rfl, HT, HI, HB⟩ := hrel
    have h0 := HT.out.c0
    have h1 := HT.out.c1
    have hcb := cntB_bd q M zs j
    have hpc := HPC.out
    have hpn := HPN.out
    by_cases hlt : j < 2 ^ zs.length
    · have hltI : (j : Int) < 2 ^ zs.length := by omega
      have HM1 := Lib.hid (fun W h => HM.out (j : Int) W h)
      cases hbl : isBal q M zs (j : Int) with
      | true =>
        have HF := Lib.hid (cntB_yes hbl)
        have hle : ((wst q M zs (j : Int) : Nat) : Int) ≤ 2 ^ q := by rw [isBal_int] at hbl; exact of_decide_eq_true hbl
        clear hbl
        generalize cntB q M zs j = y at HF hcb
        generalize ((wst q M zs (j : Int) : Nat) : Int) = x at HM1 hle
        go_wp2_with fail
        go_region_with (go_at_call 95; refine (HM1.out wr.drew (HI.out.step (Below.refl _ wr).drew)).mono ?_; rintro e w2 ⟨rfl, hb0⟩; have hb := below_trans (Below.refl _ wr).drew hb0; have HT2 := Lib.hid (HT.out.step hb); have HI2 := Lib.hid (HI.out.step hb); have HB2 := Lib.hid (below_trans HB.out hb); clear hb hb0)
        all_goals
          go_wp2
          go_roundw
          case rel => exact ⟨j + 1, by omega, by go_num, by rw [HF.out]; go_num, HT2, HI2, HB2⟩
          case measure => simp [intOf]; omega
      | false =>
        have HF := Lib.hid (cntB_no hbl)
        have hle : ¬ ((wst q M zs (j : Int) : Nat) : Int) ≤ 2 ^ q := by rw [isBal_int] at hbl; exact of_decide_eq_false hbl
        clear hbl
        generalize cntB q M zs j = y at HF hcb
        generalize ((wst q M zs (j : Int) : Nat) : Int) = x at HM1 hle
        go_wp2_with fail
        go_region_with (go_at_call 95; refine (HM1.out wr.drew (HI.out.step (Below.refl _ wr).drew)).mono ?_; rintro e w2 ⟨rfl, hb0⟩; have hb := below_trans (Below.refl _ wr).drew hb0; have HT2 := Lib.hid (HT.out.step hb); have HI2 := Lib.hid (HI.out.step hb); have HB2 := Lib.hid (below_trans HB.out hb); clear hb hb0)
        all_goals
          go_wp2
          go_roundw
          case rel => exact ⟨j + 1, by omega, by go_num, by rw [HF.out], HT2, HI2, HB2⟩
          case measure => simp [intOf]; omega
    · obtain rfl : j = 2 ^ zs.length := by omega
      have hltI : ¬ (((2 ^ zs.length : Nat)) : Int) < 2 ^ zs.length := by omega
      go_wp2
      go_ret2
      exact ⟨rfl, HB.out⟩
set_option maxHeartbeats 4000000 in
theorem countBalanced_no (A : Option Addr) (c lo hi : Nat) (zs : List Int) (m q : Int) (w : World) (hS : Ins w lo hi A zs) (hn : zs.length ≤ 1048576) (h : asks zs m q = false) :
    Calls Try.prog 38 #[.agg #[.slice A zs.length c, .int .i64 m], .int .i64 q] w fun e w' => e = .returned (.tuple #[.int .i64 0, .bool false]) ∧ Below w.heap.size w w' := by
  have HB := Lib.hid ((Below.refl w.heap.size w).alloc (Nat.le_refl _) (.cells #[.slice A zs.length c, .int .i64 m] 26))
  have HI := Lib.hid (hS.step HB.out)
  have HC := Lib.hid (fun W hW => canAskNow_any A c lo hi zs m q W hW hn)
  rw [h] at HC
  clear hS h
  go_enter Try.func38, Try.ntmps38
  go_wp2_with fail
  generalize w.alloc (.cells #[.slice A zs.length c, .int .i64 m] 26) = wa at HI HB ⊢
  refine (HC.out wa HI.out).mono ?_
  rintro e wb ⟨rfl, hb⟩
  replace HB := Lib.hid (below_trans HB.out hb)
  clear hb HC HI
  go_wp2
  go_ret2
  exact ⟨rfl, HB.out⟩
set_option maxHeartbeats 4000000 in
theorem countBalanced_spec_no (A : Option Addr) (c lo hi : Nat) (zs : List Int) (m q : Int) (w : World) (hS : Ins w lo hi A zs) (hn : zs.length ≤ 1048576) (h : asks zs m q = false) :
    Calls Try.prog 39 #[.agg #[.slice A zs.length c, .int .i64 m], .int .i64 q] w fun e w' => e = .returned (.tuple #[.int .i64 0, .bool false]) ∧ Below w.heap.size w w' := by
  have HB := Lib.hid ((Below.refl w.heap.size w).alloc (Nat.le_refl _) (.cells #[.slice A zs.length c, .int .i64 m] 26))
  have HI := Lib.hid (hS.step HB.out)
  have HC := Lib.hid (fun W hW => l3Asks_any A c lo hi zs m q W hW hn)
  rw [h] at HC
  clear hS h
  go_enter Try.func39, Try.ntmps39
  go_wp2_with fail
  generalize w.alloc (.cells #[.slice A zs.length c, .int .i64 m] 26) = wa at HI HB ⊢
  refine (HC.out wa HI.out).mono ?_
  rintro e wb ⟨rfl, hb⟩
  replace HB := Lib.hid (below_trans HB.out hb)
  clear hb HC HI
  go_wp2
  go_ret2
  exact ⟨rfl, HB.out⟩
/-- What CountBalanced answers. -/
theorem countBalanced_both (zs : List Int) (m : Int) (h : zs.length ≤ 1048576) (q : Int) : ∃ (r0 : Int) (r1 : Bool),
    (∀ (w : World) (B : Option Addr) (c lo hi : Nat), Ins w lo hi B zs → Calls Try.prog 38 #[.agg #[.slice B zs.length c, .int .i64 m], .int .i64 q] w fun e w' => e = .returned (.tuple #[.int .i64 r0, .bool r1]) ∧ Below w.heap.size w w') ∧
    (∀ (w : World) (B : Option Addr) (c lo hi : Nat), Ins w lo hi B zs → Calls Try.prog 39 #[.agg #[.slice B zs.length c, .int .i64 m], .int .i64 q] w fun e w' => e = .returned (.tuple #[.int .i64 r0, .bool r1]) ∧ Below w.heap.size w w') := by
  cases hw : asks zs m q with
  | true =>
    obtain ⟨M, a, rfl, rfl, ha, hst⟩ := asks_nats hw
    exact ⟨cntB a M zs (2 ^ zs.length), true, fun w B c lo hi hI => countBalanced_impl B c lo hi zs M a w hI hst ha, fun w B c lo hi hI => countBalanced_spec B c lo hi zs M a w hI hst ha⟩
  | false => exact ⟨0, false, fun w B c lo hi hI => countBalanced_no B c lo hi zs m q w hI h hw, fun w B c lo hi hI => countBalanced_spec_no B c lo hi zs m q w hI h hw⟩
end Go.Proofs.Ytdolonmjhlhkeab
