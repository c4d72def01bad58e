/- The answerer: which states and lists of questions are valid. -/
import Derived.Test.YtpjoljaamakagaaL8N
import Derived.Test.YtpjoljaamakagaaSch
namespace Go.Proofs.Ytpjoljaamakagaa
open Go.RowKit Go.ChangeShapes Go.WideShapes Go.Maps
set_option linter.unusedVariables false

/-- A cell that is there. -/
structure One8 (w : World) (a : Addr) (v : Value) : Prop where
  c : w.cell? a = some v
theorem One8.lt {w : World} {a : Addr} {v : Value} (h : One8 w a v) : a.block < w.heap.size := by
  rcases Nat.lt_or_ge a.block w.heap.size with hl | hg
  · exact hl
  · have := h.c
    simp [World.cell?, Array.getElem?_eq_none hg] at this
theorem One8.step {w w' : World} {a : Addr} {v : Value} (h : One8 w a v) (hb : Below w.heap.size w w') : One8 w' a v := ⟨(hb.cell h.lt).trans h.c⟩
/-- Whether a state and a list of questions are valid. -/
def lOK (zs : List Int) (m : Int) (qs : List Int) : Bool := isSt zs m && decide (qs.length ≤ 8) && qs.all fun q => qOK zs.length q
theorem lOK_no1 {zs : List Int} {m : Int} {qs : List Int} (h : isSt zs m = false) : lOK zs m qs = false := by simp [lOK, h]
theorem lOK_no2 {zs : List Int} {m : Int} {qs : List Int} (h : ¬ qs.length ≤ 8) : lOK zs m qs = false := by simp [lOK, h]
theorem lOK_no3 {zs : List Int} {m : Int} {qs : List Int} {k : Nat} (h : k < qs.length) (hb : qOK zs.length qs[k] = false) : lOK zs m qs = false := by
  have : (qs.all fun q => qOK zs.length q) = false := by
    rw [Bool.eq_false_iff]
    intro ha
    have := List.all_eq_true.1 ha _ (List.getElem_mem h)
    rw [hb] at this; cases this
  simp [lOK, this]
def QFit (n : Nat) (qs : List Int) (k : Nat) : Prop := ∀ j (h : j < qs.length), j < k → qOK n qs[j] = true
theorem QFit.zero {n : Nat} {qs : List Int} : QFit n qs 0 := fun j _ h => absurd h (by omega)
theorem QFit.next {n : Nat} {qs : List Int} {k : Nat} (h : QFit n qs k) (hk : k < qs.length) (hb : qOK n qs[k] = true) : QFit n qs (k + 1) := fun j hj hlt => by
  by_cases e : j = k
  · subst e; exact hb
  · exact h j hj (by omega)
theorem QFit.done {zs : List Int} {m : Int} {qs : List Int} (h : QFit zs.length qs qs.length) (hs : isSt zs m = true) (h8 : qs.length ≤ 8) : lOK zs m qs = true := by
  have : (qs.all fun q => qOK zs.length q) = true := by
    rw [List.all_eq_true]
    intro z hz
    obtain ⟨j, hj, rfl⟩ := List.getElem_of_mem hz
    exact h j hj hj
  simp [lOK, this, hs, h8]
structure Listed (zs : List Int) (m : Int) (qs : List Int) : Prop where
  st : isSt zs m = true
  q8 : qs.length ≤ 8
  ok : ∀ q ∈ qs, qOK zs.length q = true
theorem lOK_iff {zs : List Int} {m : Int} {qs : List Int} : lOK zs m qs = true ↔ Listed zs m qs := by
  simp only [lOK, Bool.and_eq_true, decide_eq_true_eq, List.all_eq_true]
  exact ⟨fun ⟨⟨h1, h2⟩, h3⟩ => ⟨h1, h2, h3⟩, fun h => ⟨⟨h.st, h.q8⟩, h.ok⟩⟩
theorem lOK_sch {zs : List Int} {m : Int} {qs : List Int} (h : isSt zs m = true) : (isSch zs.length qs && decide (qs.length ≤ 8)) = lOK zs m qs := by
  have hl := isSt_len h
  unfold isSch lOK
  rw [h, inB_t (by omega) (by omega)]
  by_cases h8 : qs.length ≤ 8
  · rw [decide_eq_true h8, decide_eq_true (show qs.length ≤ 14 by omega)]
    simp
  · rw [decide_eq_false h8]
    simp

set_option maxRecDepth 100000 in
set_option maxHeartbeats 8000000 in
theorem l8Good_any (A : Option Addr) (c lo hi : Nat) (zs : List Int) (m : Int) (A2 : Option Addr) (c2 lo2 hi2 : Nat) (qs : List Int) (w : World) (hS : Ins w lo hi A zs) (hQ : Ins w lo2 hi2 A2 qs) (hn : zs.length ≤ 1048576) (hn2 : qs.length ≤ 1048576) :
    Calls Try.prog 128 #[.agg #[.slice A zs.length c, .int .i64 m], .slice A2 qs.length c2] w fun e w' => e = .returned (.bool (lOK zs m qs)) ∧ Below w.heap.size w w' := by
  have HT := Lib.hid (Two.new w (.slice A zs.length c) (.int .i64 m) 35 (w.heap.size) rfl)
  have HB := Lib.hid ((Below.refl w.heap.size w).alloc (Nat.le_refl _) (.cells #[.slice A zs.length c, .int .i64 m] 35))
  have HI := Lib.hid (hS.step HB.out)
  have HQ := Lib.hid (hQ.step HB.out)
  have HS := Lib.hid (fun W h => l2State_any A c lo hi zs m W h hn)
  clear hS hQ
  cases hst : isSt zs m with
  | false =>
    rw [hst] at HS
    rw [lOK_no1 hst]
    clear hst
    go_enter Try.func128, Try.ntmps128
    go_wp2_with fail
    generalize w.alloc (.cells #[.slice A zs.length c, .int .i64 m] 35) = w0 at HT HB HI HQ ⊢
    have h0 := HT.out.c0
    have h1 := HT.out.c1
    with_reducible refine (HS.out _ HI.out).mono ?_
    rintro e w1 ⟨rfl, hb⟩
    replace HT := Lib.hid (HT.out.step hb)
    replace HB := Lib.hid (below_trans HB.out hb)
    replace HI := Lib.hid (HI.out.step hb)
    replace HQ := Lib.hid (HQ.out.step hb)
    replace h0 := HT.out.c0
    replace h1 := HT.out.c1
    clear hb
    clear h0 h1
    go_wp2
    go_ret
    exact ⟨rfl, HB.out⟩
  | true =>
    rw [hst] at HS
    by_cases h8 : qs.length ≤ 8
    · have HD := Lib.hid (fun h => QFit.done (qs := qs) h hst h8)
      have HN := Lib.hid (fun k h => lOK_no3 (zs := zs) (m := m) (qs := qs) (k := k) h)
      clear hst
      go_enter Try.func128, Try.ntmps128
      go_wp2_with fail
      generalize w.alloc (.cells #[.slice A zs.length c, .int .i64 m] 35) = w0 at HT HB HI HQ ⊢
      have h0 := HT.out.c0
      have h1 := HT.out.c1
      with_reducible refine (HS.out _ HI.out).mono ?_
      rintro e w1 ⟨rfl, hb⟩
      replace HT := Lib.hid (HT.out.step hb)
      replace HB := Lib.hid (below_trans HB.out hb)
      replace HI := Lib.hid (HI.out.step hb)
      replace HQ := Lib.hid (HQ.out.step hb)
      replace h0 := HT.out.c0
      replace h1 := HT.out.c1
      clear hb
      clear h0 h1
      clear HI
      clear HS
      go_wp2_with fail
      go_loopw [5] (fun i wr => ∃ (k : Nat), k ≤ qs.length ∧ i = .int .i64 (k : Int) ∧ Hid (QFit zs.length qs k) ∧ Hid (Two wr w.heap.size (.slice A zs.length c) (.int .i64 m) 35) ∧ Hid (Ins wr lo2 hi2 A2 qs) ∧ Hid (Below w.heap.size w wr)) (fun i _ => qs.length - (intOf i).toNat)
      case atStart => exact ⟨0, Nat.zero_le _, rfl, QFit.zero, HT, HQ, HB⟩
      case round =>
        clear HT HQ HB
        obtain ⟨k, hk, rfl, HF, HT, HQ, HB⟩ := hrel
        by_cases hlt : k < qs.length
        · obtain ⟨b, o, rfl, _, hb, hc⟩ := HQ.out.ints.at_ hlt
          have hki : (k : Int) < (qs.length : Int) := by omega
          have HC := Lib.hid (One8.mk hc)
          have HQQ := Lib.hid (fun W => l2Question_any A zs.length c m qs[k] W)
          have HY := Lib.hid (fun h => HF.out.next hlt h)
          have HNo := Lib.hid (fun h => HN.out k hlt h)
          clear hc HF
          generalize qs[k] = x at HC HQQ HY HNo
          cases hx : qOK zs.length x with
          | true =>
            rw [hx] at HQQ
            have HF2 := Lib.hid (HY.out hx)
            clear HY HNo hx
            go_wp2_with fail
            go_region_held3 (fun w' => w'.cell? ⟨w.heap.size, 0, none⟩ = some (.slice A zs.length c) ∧ w'.cell? ⟨w.heap.size, 1, none⟩ = some (.int .i64 m) ∧ w'.cell? ⟨b, o + k, none⟩ = some (.int .i64 x))
              (first
               | exact ⟨(HT.out.step (Below.refl _ wr).drew).c0, (HT.out.step (Below.refl _ wr).drew).c1, (HC.out.step (Below.refl _ wr).drew).c⟩
               | exact ⟨(HT_1.out).c0, (HT_1.out).c1, (HC_1.out).c⟩)
              (first
               | (go_at_call 100; (with_reducible refine (HQQ.out wr.drew).mono ?_); rintro e v1 ⟨rfl, hb⟩; have HZ1 := Lib.hid (below_trans (Below.refl _ wr).drew hb); have HT_1 := Lib.hid (HT.out.step HZ1.out); have HQ_1 := Lib.hid (HQ.out.step HZ1.out); have HB_1 := Lib.hid (below_trans HB.out HZ1.out); have HC_1 := Lib.hid (HC.out.step HZ1.out); clear hb))
            all_goals
              clear HT HQ HB HC HZ1 HC_1
              go_wp2
              go_roundw
              case rel => exact ⟨k + 1, by omega, by go_num, HF2, HT_1, HQ_1, HB_1⟩
              case measure => simp [intOf]; omega
          | false =>
            rw [hx] at HQQ
            have HR := Lib.hid (HNo.out hx)
            clear HY HNo hx
            go_wp2_with fail
            go_region_held3 (fun w' => w'.cell? ⟨w.heap.size, 0, none⟩ = some (.slice A zs.length c) ∧ w'.cell? ⟨w.heap.size, 1, none⟩ = some (.int .i64 m) ∧ w'.cell? ⟨b, o + k, none⟩ = some (.int .i64 x))
              (first
               | exact ⟨(HT.out.step (Below.refl _ wr).drew).c0, (HT.out.step (Below.refl _ wr).drew).c1, (HC.out.step (Below.refl _ wr).drew).c⟩
               | exact ⟨(HT_1.out).c0, (HT_1.out).c1, (HC_1.out).c⟩)
              (first
               | (go_at_call 100; (with_reducible refine (HQQ.out wr.drew).mono ?_); rintro e v1 ⟨rfl, hb⟩; have HZ1 := Lib.hid (below_trans (Below.refl _ wr).drew hb); have HT_1 := Lib.hid (HT.out.step HZ1.out); have HQ_1 := Lib.hid (HQ.out.step HZ1.out); have HB_1 := Lib.hid (below_trans HB.out HZ1.out); have HC_1 := Lib.hid (HC.out.step HZ1.out); clear hb))
            all_goals
              clear HT HQ HB HC HZ1 HC_1
              go_wp2
              go_ret
              rw [HR.out]
              exact ⟨rfl, HB_1.out⟩
        · obtain rfl : k = qs.length := by omega
          have HR := Lib.hid (HD.out HF.out)
          clear HF HD HN
          go_wp2
          go_ret
          rw [HR.out]
          exact ⟨rfl, HB.out⟩
    · rw [lOK_no2 h8]
      clear hst
      go_enter Try.func128, Try.ntmps128
      go_wp2_with fail
      generalize w.alloc (.cells #[.slice A zs.length c, .int .i64 m] 35) = w0 at HT HB HI HQ ⊢
      have h0 := HT.out.c0
      have h1 := HT.out.c1
      with_reducible refine (HS.out _ HI.out).mono ?_
      rintro e w1 ⟨rfl, hb⟩
      replace HT := Lib.hid (HT.out.step hb)
      replace HB := Lib.hid (below_trans HB.out hb)
      replace HI := Lib.hid (HI.out.step hb)
      replace HQ := Lib.hid (HQ.out.step hb)
      replace h0 := HT.out.c0
      replace h1 := HT.out.c1
      clear hb
      clear h0 h1
      go_wp2
      go_ret
      exact ⟨rfl, HB.out⟩
set_option maxRecDepth 100000 in
set_option maxHeartbeats 8000000 in
theorem areListed_any (A : Option Addr) (c lo hi : Nat) (zs : List Int) (m : Int) (A2 : Option Addr) (c2 lo2 hi2 : Nat) (qs : List Int) (w : World) (hS : Ins w lo hi A zs) (hQ : Ins w lo2 hi2 A2 qs) (hn : zs.length ≤ 1048576) (hn2 : qs.length ≤ 1048576) :
    Calls Try.prog 129 #[.agg #[.slice A zs.length c, .int .i64 m], .slice A2 qs.length c2] w fun e w' => e = .returned (.bool (lOK zs m qs)) ∧ Below w.heap.size w w' := by
  have HT := Lib.hid (Two.new w (.slice A zs.length c) (.int .i64 m) 35 (w.heap.size) rfl)
  have HB := Lib.hid ((Below.refl w.heap.size w).alloc (Nat.le_refl _) (.cells #[.slice A zs.length c, .int .i64 m] 35))
  have HI := Lib.hid (hS.step HB.out)
  have HQ := Lib.hid (hQ.step HB.out)
  have HS := Lib.hid (fun W h => isState_impl A c lo hi zs m W h hn)
  have HSc := Lib.hid (fun W h => isScheme_impl A2 c2 lo2 hi2 (zs.length : Int) qs W h hn2)
  clear hS hQ
  cases hst : isSt zs m with
  | false =>
    rw [hst] at HS
    rw [lOK_no1 hst]
    clear hst
    go_enter Try.func129, Try.ntmps129
    go_wp2_with fail
    generalize w.alloc (.cells #[.slice A zs.length c, .int .i64 m] 35) = w0 at HT HB HI HQ ⊢
    have h0 := HT.out.c0
    have h1 := HT.out.c1
    with_reducible refine (HS.out _ HI.out).mono ?_
    rintro e w1 ⟨rfl, hb⟩
    replace HT := Lib.hid (HT.out.step hb)
    replace HB := Lib.hid (below_trans HB.out hb)
    replace HI := Lib.hid (HI.out.step hb)
    replace HQ := Lib.hid (HQ.out.step hb)
    replace h0 := HT.out.c0
    replace h1 := HT.out.c1
    clear hb
    clear h0 h1
    go_wp2
    go_ret
    exact ⟨rfl, HB.out⟩
  | true =>
    rw [hst] at HS
    rw [← lOK_sch hst]
    clear hst
    generalize isSch zs.length qs = sc at HSc ⊢
    by_cases h8 : qs.length ≤ 8
    · rw [decide_eq_true h8]
      cases sc
      · skip
        go_enter Try.func129, Try.ntmps129
        go_wp2_with fail
        generalize w.alloc (.cells #[.slice A zs.length c, .int .i64 m] 35) = w0 at HT HB HI HQ ⊢
        have h0 := HT.out.c0
        have h1 := HT.out.c1
        with_reducible refine (HS.out _ HI.out).mono ?_
        rintro e w1 ⟨rfl, hb⟩
        replace HT := Lib.hid (HT.out.step hb)
        replace HB := Lib.hid (below_trans HB.out hb)
        replace HI := Lib.hid (HI.out.step hb)
        replace HQ := Lib.hid (HQ.out.step hb)
        replace h0 := HT.out.c0
        replace h1 := HT.out.c1
        clear hb
        go_wp2_with fail
        with_reducible refine (HSc.out _ HQ.out).mono ?_
        rintro e wX ⟨rfl, hw⟩
        have hw := hw.symm
        subst hw
        clear h0 h1
        go_wp2
        go_ret
        exact ⟨by first | rfl | (simp; omega), HB.out⟩
      · skip
        go_enter Try.func129, Try.ntmps129
        go_wp2_with fail
        generalize w.alloc (.cells #[.slice A zs.length c, .int .i64 m] 35) = w0 at HT HB HI HQ ⊢
        have h0 := HT.out.c0
        have h1 := HT.out.c1
        with_reducible refine (HS.out _ HI.out).mono ?_
        rintro e w1 ⟨rfl, hb⟩
        replace HT := Lib.hid (HT.out.step hb)
        replace HB := Lib.hid (below_trans HB.out hb)
        replace HI := Lib.hid (HI.out.step hb)
        replace HQ := Lib.hid (HQ.out.step hb)
        replace h0 := HT.out.c0
        replace h1 := HT.out.c1
        clear hb
        go_wp2_with fail
        with_reducible refine (HSc.out _ HQ.out).mono ?_
        rintro e wX ⟨rfl, hw⟩
        have hw := hw.symm
        subst hw
        clear h0 h1
        go_wp2
        go_ret
        exact ⟨by first | rfl | (simp; omega), HB.out⟩
    · rw [decide_eq_false h8]
      cases sc
      · skip
        go_enter Try.func129, Try.ntmps129
        go_wp2_with fail
        generalize w.alloc (.cells #[.slice A zs.length c, .int .i64 m] 35) = w0 at HT HB HI HQ ⊢
        have h0 := HT.out.c0
        have h1 := HT.out.c1
        with_reducible refine (HS.out _ HI.out).mono ?_
        rintro e w1 ⟨rfl, hb⟩
        replace HT := Lib.hid (HT.out.step hb)
        replace HB := Lib.hid (below_trans HB.out hb)
        replace HI := Lib.hid (HI.out.step hb)
        replace HQ := Lib.hid (HQ.out.step hb)
        replace h0 := HT.out.c0
        replace h1 := HT.out.c1
        clear hb
        go_wp2_with fail
        with_reducible refine (HSc.out _ HQ.out).mono ?_
        rintro e wX ⟨rfl, hw⟩
        have hw := hw.symm
        subst hw
        clear h0 h1
        go_wp2
        go_ret
        exact ⟨by first | rfl | (simp; omega), HB.out⟩
      · skip
        go_enter Try.func129, Try.ntmps129
        go_wp2_with fail
        generalize w.alloc (.cells #[.slice A zs.length c, .int .i64 m] 35) = w0 at HT HB HI HQ ⊢
        have h0 := HT.out.c0
        have h1 := HT.out.c1
        with_reducible refine (HS.out _ HI.out).mono ?_
        rintro e w1 ⟨rfl, hb⟩
        replace HT := Lib.hid (HT.out.step hb)
        replace HB := Lib.hid (below_trans HB.out hb)
        replace HI := Lib.hid (HI.out.step hb)
        replace HQ := Lib.hid (HQ.out.step hb)
        replace h0 := HT.out.c0
        replace h1 := HT.out.c1
        clear hb
        go_wp2_with fail
        with_reducible refine (HSc.out _ HQ.out).mono ?_
        rintro e wX ⟨rfl, hw⟩
        have hw := hw.symm
        subst hw
        clear h0 h1
        go_wp2
        go_ret
        exact ⟨by first | rfl | (simp; omega), HB.out⟩
end Go.Proofs.Ytpjoljaamakagaa
