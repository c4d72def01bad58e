/- EvenQuestion: both sides. -/
import Derived.Test.YtdolonmjhlhkeabCnt
namespace Go.Proofs.Ytdolonmjhlhkeab
open Go.RowKit Go.ChangeShapes Go.WideShapes
set_option linter.unusedVariables false

/-- The least of the first j questions (of the first, if there is none) for which f is the least. -/
def bestTo (f : Nat → Nat) : Nat → Nat
  | 0 => 0
  | j + 1 => if f j < f (bestTo f j) then j else bestTo f j
theorem bestTo_yes {f : Nat → Nat} {j : Nat} (h : f j < f (bestTo f j)) : bestTo f (j + 1) = j := by simp [bestTo, h]
theorem bestTo_no {f : Nat → Nat} {j : Nat} (h : ¬ f j < f (bestTo f j)) : bestTo f (j + 1) = bestTo f j := by simp [bestTo, h]
theorem bestTo_one (f : Nat → Nat) : bestTo f 1 = 0 := by simp [bestTo]
theorem bestTo_le (f : Nat → Nat) : ∀ j, bestTo f j ≤ j
  | 0 => Nat.le_refl _
  | j + 1 => by
    have := bestTo_le f j
    rw [bestTo]
    split <;> omega
/-- The worst weight of a question told as a number. -/
def wsN (q M : Nat) (zs : List Int) (j : Nat) : Nat := wst q M zs (j : Int)
theorem wsN_bd {q M : Nat} {zs : List Int} (hq : q ≤ 30) (hn : zs.length ≤ 12) (j : Nat) : wsN q M zs j ≤ 12884901888 := wst_bd _ hq hn

set_option maxRecDepth 100000 in
set_option maxHeartbeats 4000000 in
theorem evenQuestion_impl (A : Option Addr) (c lo hi : Nat) (zs : List Int) (M q : Nat) (w : World) (hS : Ins w lo hi A zs) (hst : isSt zs (M : Int) = true) (hq : q ≤ 29) :
    Calls Try.prog 36 #[.agg #[.slice A zs.length c, .int .i64 (M : Int)], .int .i64 ((q : Int) + 1)] w fun e w' => e = .returned (.tuple #[.int .i64 (bestTo (wsN q M zs) (2 ^ zs.length) : Int), .bool true]) ∧ Below w.heap.size w w' := by
  have hl := isSt_len hst
  have HT := Lib.hid (Two.new w (.slice A zs.length c) (.int .i64 (M : Int)) 26 w.heap.size rfl)
  have HB := Lib.hid ((Below.refl w.heap.size w).alloc (Nat.le_refl _) (.cells #[.slice A zs.length c, .int .i64 (M : Int)] 26))
  have HI := Lib.hid (hS.step HB.out)
  have HC := Lib.hid (fun W h => canAskNow_any A c lo hi zs (M : Int) ((q : Int) + 1) W h (by omega))
  rw [asks_iff.2 ⟨hst, by omega, by omega⟩] at HC
  have HM := Lib.hid (fun W h => weigherOf_any A c lo hi zs M q ((q : Int) + 1) W h (by omega) hq rfl)
  have HQ := Lib.hid (fun (j : Nat) (hj : j < 2 ^ zs.length) => (qOK_iff (n := (zs.length : Int)) (q := (j : Int))).2 ⟨⟨by omega, by omega⟩, by omega, by rw [Int.toNat_natCast]; have := pow_cast zs.length; omega⟩)
  have HV := Lib.hid (fun bb W k h hk => weigh_any A c lo hi zs M q k bb W h hst (by omega) hk)
  have HA := Lib.hid (fun (j : Nat) W => greaterOf_any (behW q M zs (j : Int) true : Int) (behW q M zs (j : Int) false : Int) (wsN q M zs j : Int) W (by unfold wsN wst; omega))
  have hp := pow_le zs.length hl.2.1
  have HPC := Lib.hid (pow_cast zs.length)
  have HPN := Lib.hid (pow_nat zs.length hl.2.1)
  have hn12 := hl.2.1
  have HWB := Lib.hid (wsN_bd (q := q) (M := M) (by omega) hn12)
  clear hS hst hl
  go_enter Try.func36, Try.ntmps36
  go_wp2_with fail
  generalize w.alloc (.cells #[.slice A zs.length c, .int .i64 (M : Int)] 26) = wa at HT HI HB ⊢
  refine (HC.out wa HI.out).mono ?_
  rintro e wb ⟨rfl, hb⟩
  replace HT := Lib.hid (HT.out.step hb)
  replace HI := Lib.hid (HI.out.step hb)
  replace HB := Lib.hid (below_trans HB.out hb)
  clear hb HC
  have h0 := HT.out.c0
  have h1 := HT.out.c1
  go_wp2_with fail
  refine (HM.out _ HI.out).mono ?_
  rintro e wc ⟨bb, rfl, hwg, hb⟩
  replace HT := Lib.hid (HT.out.step hb)
  replace HB := Lib.hid (below_trans HB.out hb)
  have HWG := Lib.hid hwg
  clear hb hwg HI h0 h1
  go_wp2_with fail
  have HZ := Lib.hid (HQ.out 0 (by have := HPN.out; omega))
  refine (HV.out bb _ 0 HWG.out HZ.out).mono ?_
  rintro e wd ⟨rfl, hb⟩
  replace HT := Lib.hid (HT.out.step hb)
  replace HB := Lib.hid (below_trans HB.out hb)
  replace HWG := Lib.hid (HWG.out.step hb)
  clear hb HZ
  go_wp2_with fail
  refine (HA.out 0 _).mono ?_
  rintro e we ⟨rfl, hb⟩
  replace HT := Lib.hid (HT.out.step hb)
  replace HB := Lib.hid (below_trans HB.out hb)
  replace HWG := Lib.hid (HWG.out.step hb)
  clear hb
  have h0 := HT.out.c0
  have h1 := HT.out.c1
  go_wp2_with fail
  go_loopw [7, 8, 26] (fun even least i wr => ∃ (j : Nat), j ≤ 2 ^ zs.length ∧ i = .int .i64 j ∧ even = .int .i64 (bestTo (wsN q M zs) j : Int) ∧ least = .int .i64 (wsN q M zs (bestTo (wsN q M zs) j) : Int) ∧ Hid (Weigher wr bb A c lo hi zs M q) ∧ Hid (Below w.heap.size w wr)) (fun _ _ i _ => 2 ^ zs.length - (intOf i).toNat)
  case atStart => exact ⟨0, Nat.zero_le _, rfl, rfl, rfl, HWG, HB⟩
  case round =>
    clear HWG HB
    obtain ⟨j, hj, rfl, rfl, rfl, HWG, HB⟩ := hrel
    have hpc := HPC.out
    have hpn := HPN.out
    by_cases hlt : j < 2 ^ zs.length
    · have hltI : (j : Int) < 2 ^ zs.length := by omega
      have HV1 := Lib.hid (HV.out bb wr (j : Int) HWG.out (HQ.out j hlt))
      have HA1 := Lib.hid (fun W => HA.out j W)
      have hw1 := HWB.out j
      have hw2 := HWB.out (bestTo (wsN q M zs) j)
      have hb1 := bestTo_le (wsN q M zs) j
      generalize ((behW q M zs (j : Int) true : Nat) : Int) = x1 at HA1 HV1
      generalize ((behW q M zs (j : Int) false : Nat) : Int) = x2 at HA1 HV1
      by_cases hless : wsN q M zs j < wsN q M zs (bestTo (wsN q M zs) j)
      · have HF := Lib.hid (bestTo_yes hless)
        generalize hv : wsN q M zs j = v at HA1 hless hw1
        generalize hu : wsN q M zs (bestTo (wsN q M zs) j) = u at hless hw2 ⊢
        have HV2 := Lib.hid hv
        clear hv hu
        have hlI : (v : Int) < (u : Int) := by omega
        go_wp2_with fail
        refine (HV1.out).mono ?_
        rintro e w2 ⟨rfl, hb⟩
        have HWG2 := Lib.hid (HWG.out.step hb)
        have HB2 := Lib.hid (below_trans HB.out hb)
        clear hb HWG HB
        go_wp2_with fail
        refine (HA1.out _).mono ?_
        rintro e w3 ⟨rfl, hb⟩
        have HWG3 := Lib.hid (HWG2.out.step hb)
        have HB3 := Lib.hid (below_trans HB2.out hb)
        clear hb HWG2 HB2
        go_wp2
        go_roundw
        case rel => exact ⟨j + 1, by omega, by go_num, by rw [HF.out], by rw [HF.out, HV2.out], HWG3, HB3⟩
        case measure => simp [intOf]; omega
      · have HF := Lib.hid (bestTo_no hless)
        generalize hv : wsN q M zs j = v at HA1 hless hw1
        generalize hu : wsN q M zs (bestTo (wsN q M zs) j) = u at hless hw2 ⊢
        have HU2 := Lib.hid hu
        clear hv hu
        have hlI : ¬ (v : Int) < (u : Int) := by omega
        go_wp2_with fail
        refine (HV1.out).mono ?_
        rintro e w2 ⟨rfl, hb⟩
        have HWG2 := Lib.hid (HWG.out.step hb)
        have HB2 := Lib.hid (below_trans HB.out hb)
        clear hb HWG HB
        go_wp2_with fail
        refine (HA1.out _).mono ?_
        rintro e w3 ⟨rfl, hb⟩
        have HWG3 := Lib.hid (HWG2.out.step hb)
        have HB3 := Lib.hid (below_trans HB2.out hb)
        clear hb HWG2 HB2
        go_wp2
        go_roundw
        case rel => exact ⟨j + 1, by omega, by go_num, by rw [HF.out], by rw [HF.out, HU2.out], HWG3, HB3⟩
        case measure => simp [intOf]; omega
    · obtain rfl : j = 2 ^ zs.length := by omega
      have hltI : ¬ (((2 ^ zs.length : Nat)) : Int) < 2 ^ zs.length := by omega
      go_wp2
      go_ret2
      exact ⟨rfl, HB.out⟩

set_option maxRecDepth 100000 in
set_option maxHeartbeats 4000000 in
theorem evenQuestion_spec (A : Option Addr) (c lo hi : Nat) (zs : List Int) (M q : Nat) (w : World) (hS : Ins w lo hi A zs) (hst : isSt zs (M : Int) = true) (hq : q ≤ 29) :
    Calls Try.prog 37 #[.agg #[.slice A zs.length c, .int .i64 (M : Int)], .int .i64 ((q : Int) + 1)] w fun e w' => e = .returned (.tuple #[.int .i64 (bestTo (wsN q M zs) (2 ^ zs.length) : Int), .bool true]) ∧ Below w.heap.size w w' := by
  have hl := isSt_len hst
  have HT := Lib.hid (Two.new w (.slice A zs.length c) (.int .i64 (M : Int)) 26 w.heap.size rfl)
  have HB := Lib.hid ((Below.refl w.heap.size w).alloc (Nat.le_refl _) (.cells #[.slice A zs.length c, .int .i64 (M : Int)] 26))
  have HI := Lib.hid (hS.step HB.out)
  have HC := Lib.hid (fun W h => l3Asks_any A c lo hi zs (M : Int) ((q : Int) + 1) W h (by omega))
  rw [asks_iff.2 ⟨hst, by omega, by omega⟩] at HC
  have HM : Hid (∀ (j : Nat) (W : World), Ins W lo hi A zs → Calls Try.prog 95 #[.agg #[.slice A zs.length c, .int .i64 (M : Int)], .int .i64 (j : Int), .int .i64 ((q : Int) + 1)] W fun e w' => e = .returned (.int .i64 (wsN q M zs j : Int)) ∧ Below W.heap.size W w') := fun j W h => l3Most_any A c lo hi zs M q (j : Int) ((q : Int) + 1) W h hst hq rfl
  have HM0 : Hid (∀ (W : World), Ins W lo hi A zs → Calls Try.prog 95 #[.agg #[.slice A zs.length c, .int .i64 (M : Int)], .int .i64 0, .int .i64 ((q : Int) + 1)] W fun e w' => e = .returned (.int .i64 (wsN q M zs 0 : Int)) ∧ Below W.heap.size W w') := fun W h => HM.out 0 W h
  have hp := pow_le zs.length hl.2.1
  have HPC := Lib.hid (pow_cast zs.length)
  have HPN := Lib.hid (pow_nat zs.length hl.2.1)
  have hn12 := hl.2.1
  have HWB := Lib.hid (wsN_bd (q := q) (M := M) (by omega) hn12)
  clear hS hst hl
  go_enter Try.func37, Try.ntmps37
  go_wp2_with fail
  generalize w.alloc (.cells #[.slice A zs.length c, .int .i64 (M : Int)] 26) = wa at HT HI HB ⊢
  refine (HC.out wa HI.out).mono ?_
  rintro e wb ⟨rfl, hb⟩
  replace HT := Lib.hid (HT.out.step hb)
  replace HI := Lib.hid (HI.out.step hb)
  replace HB := Lib.hid (below_trans HB.out hb)
  clear hb HC
  have h0 := HT.out.c0
  have h1 := HT.out.c1
  go_wp2_with fail
  refine (HM0.out _ HI.out).mono ?_
  rintro e wc ⟨rfl, hb⟩
  replace HT := Lib.hid (HT.out.step hb)
  replace HI := Lib.hid (HI.out.step hb)
  replace HB := Lib.hid (below_trans HB.out hb)
  clear hb HM0 h0 h1
  go_wp2_with fail
  go_loopw [6, 7, 8] (fun even least i wr => ∃ (j : Nat), 1 ≤ j ∧ j ≤ 2 ^ zs.length ∧ i = .int .i64 j ∧ even = .int .i64 (bestTo (wsN q M zs) j : Int) ∧ least = .int .i64 (wsN q M zs (bestTo (wsN q M zs) j) : Int) ∧ Hid (Two wr w.heap.size (.slice A zs.length c) (.int .i64 (M : Int)) 26) ∧ Hid (Ins wr lo hi A zs) ∧ Hid (Below w.heap.size w wr)) (fun _ _ i _ => 2 ^ zs.length - (intOf i).toNat)
  case atStart => exact ⟨1, Nat.le_refl _, HPN.out.2, rfl, by rw [bestTo_one]; rfl, by rw [bestTo_one], HT, HI, HB⟩
  case round =>
    clear HT HI HB
    obtain ⟨j, hj1, hj, rfl, rfl, rfl, HT, HI, HB⟩ := hrel
    have h0 := HT.out.c0
    have h1 := HT.out.c1
    have hpc := HPC.out
    have hpn := HPN.out
    by_cases hlt : j < 2 ^ zs.length
    · have hltI : (j : Int) < 2 ^ zs.length := by omega
      have HM1 := Lib.hid (fun W h => HM.out j W h)
      have hw1 := HWB.out j
      have hw2 := HWB.out (bestTo (wsN q M zs) j)
      have hb1 := bestTo_le (wsN q M zs) j
      by_cases hless : wsN q M zs j < wsN q M zs (bestTo (wsN q M zs) j)
      · have HF := Lib.hid (bestTo_yes hless)
        generalize hv : wsN q M zs j = v at HM1 hless hw1
        generalize hu : wsN q M zs (bestTo (wsN q M zs) j) = u at hless hw2 ⊢
        have HV2 := Lib.hid hv
        clear hv hu
        have hlI : (v : Int) < (u : Int) := by omega
        go_wp2_with fail
        refine (HM1.out _ HI.out).mono ?_
        rintro e w2 ⟨rfl, hb⟩
        have HT2 := Lib.hid (HT.out.step hb)
        have HI2 := Lib.hid (HI.out.step hb)
        have HB2 := Lib.hid (below_trans HB.out hb)
        clear hb HT HI HB h0 h1
        go_wp2
        go_roundw
        case rel => exact ⟨j + 1, by omega, by omega, by go_num, by rw [HF.out], by rw [HF.out, HV2.out], HT2, HI2, HB2⟩
        case measure => simp [intOf]; omega
      · have HF := Lib.hid (bestTo_no hless)
        generalize hv : wsN q M zs j = v at HM1 hless hw1
        generalize hu : wsN q M zs (bestTo (wsN q M zs) j) = u at hless hw2 ⊢
        have HU2 := Lib.hid hu
        clear hv hu
        have hlI : ¬ (v : Int) < (u : Int) := by omega
        go_wp2_with fail
        refine (HM1.out _ HI.out).mono ?_
        rintro e w2 ⟨rfl, hb⟩
        have HT2 := Lib.hid (HT.out.step hb)
        have HI2 := Lib.hid (HI.out.step hb)
        have HB2 := Lib.hid (below_trans HB.out hb)
        clear hb HT HI HB h0 h1
        go_wp2
        go_roundw
        case rel => exact ⟨j + 1, by omega, by omega, by go_num, by rw [HF.out], by rw [HF.out, HU2.out], HT2, HI2, HB2⟩
        case measure => simp [intOf]; omega
    · obtain rfl : j = 2 ^ zs.length := by omega
      have hltI : ¬ (((2 ^ zs.length : Nat)) : Int) < 2 ^ zs.length := by omega
      go_wp2
      go_ret2
      exact ⟨rfl, HB.out⟩
set_option maxHeartbeats 4000000 in
theorem evenQuestion_no (A : Option Addr) (c lo hi : Nat) (zs : List Int) (m q : Int) (w : World) (hS : Ins w lo hi A zs) (hn : zs.length ≤ 1048576) (h : asks zs m q = false) :
    Calls Try.prog 36 #[.agg #[.slice A zs.length c, .int .i64 m], .int .i64 q] w fun e w' => e = .returned (.tuple #[.int .i64 0, .bool false]) ∧ Below w.heap.size w w' := by
  have HB := Lib.hid ((Below.refl w.heap.size w).alloc (Nat.le_refl _) (.cells #[.slice A zs.length c, .int .i64 m] 26))
  have HI := Lib.hid (hS.step HB.out)
  have HC := Lib.hid (fun W hW => canAskNow_any A c lo hi zs m q W hW hn)
  rw [h] at HC
  clear hS h
  go_enter Try.func36, Try.ntmps36
  go_wp2_with fail
  generalize w.alloc (.cells #[.slice A zs.length c, .int .i64 m] 26) = wa at HI HB ⊢
  refine (HC.out wa HI.out).mono ?_
  rintro e wb ⟨rfl, hb⟩
  replace HB := Lib.hid (below_trans HB.out hb)
  clear hb HC HI
  go_wp2
  go_ret2
  exact ⟨rfl, HB.out⟩
set_option maxHeartbeats 4000000 in
theorem evenQuestion_spec_no (A : Option Addr) (c lo hi : Nat) (zs : List Int) (m q : Int) (w : World) (hS : Ins w lo hi A zs) (hn : zs.length ≤ 1048576) (h : asks zs m q = false) :
    Calls Try.prog 37 #[.agg #[.slice A zs.length c, .int .i64 m], .int .i64 q] w fun e w' => e = .returned (.tuple #[.int .i64 0, .bool false]) ∧ Below w.heap.size w w' := by
  have HB := Lib.hid ((Below.refl w.heap.size w).alloc (Nat.le_refl _) (.cells #[.slice A zs.length c, .int .i64 m] 26))
  have HI := Lib.hid (hS.step HB.out)
  have HC := Lib.hid (fun W hW => l3Asks_any A c lo hi zs m q W hW hn)
  rw [h] at HC
  clear hS h
  go_enter Try.func37, Try.ntmps37
  go_wp2_with fail
  generalize w.alloc (.cells #[.slice A zs.length c, .int .i64 m] 26) = wa at HI HB ⊢
  refine (HC.out wa HI.out).mono ?_
  rintro e wb ⟨rfl, hb⟩
  replace HB := Lib.hid (below_trans HB.out hb)
  clear hb HC HI
  go_wp2
  go_ret2
  exact ⟨rfl, HB.out⟩
/-- What EvenQuestion answers. -/
theorem evenQuestion_both (zs : List Int) (m : Int) (h : zs.length ≤ 1048576) (q : Int) : ∃ (r0 : Int) (r1 : Bool),
    (∀ (w : World) (B : Option Addr) (c lo hi : Nat), Ins w lo hi B zs → Calls Try.prog 36 #[.agg #[.slice B zs.length c, .int .i64 m], .int .i64 q] w fun e w' => e = .returned (.tuple #[.int .i64 r0, .bool r1]) ∧ Below w.heap.size w w') ∧
    (∀ (w : World) (B : Option Addr) (c lo hi : Nat), Ins w lo hi B zs → Calls Try.prog 37 #[.agg #[.slice B zs.length c, .int .i64 m], .int .i64 q] w fun e w' => e = .returned (.tuple #[.int .i64 r0, .bool r1]) ∧ Below w.heap.size w w') := by
  cases hw : asks zs m q with
  | true =>
    obtain ⟨M, a, rfl, rfl, ha, hst⟩ := asks_nats hw
    exact ⟨bestTo (wsN a M zs) (2 ^ zs.length), true, fun w B c lo hi hI => evenQuestion_impl B c lo hi zs M a w hI hst ha, fun w B c lo hi hI => evenQuestion_spec B c lo hi zs M a w hI hst ha⟩
  | false => exact ⟨0, false, fun w B c lo hi hI => evenQuestion_no B c lo hi zs m q w hI h hw, fun w B c lo hi hI => evenQuestion_spec_no B c lo hi zs m q w hI h hw⟩
end Go.Proofs.Ytdolonmjhlhkeab
