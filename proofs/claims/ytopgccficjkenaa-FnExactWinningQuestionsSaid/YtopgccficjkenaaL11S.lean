/- The specification: questions that can be chosen, fair answers, where a race begins. -/
import Derived.Test.YtopgccficjkenaaL11B
import Derived.Test.YtopgccficjkenaaL11C
import Derived.Test.YtopgccficjkenaaL6w0
import Derived.Test.YtopgccficjkenaaL8B
import Derived.Deep.RegionHeld3
namespace Go.Proofs.Ytopgccficjkenaa
open Go.RowKit Go.ChangeShapes Go.WideShapes Go.Maps
set_option linter.unusedVariables false


set_option maxRecDepth 100000 in
set_option maxHeartbeats 8000000 in
theorem l11Choices_any (A : Option Addr) (c lo hi : Nat) (zs : List Int) (m : Int) (Q : Option Addr) (cq lo2 hi2 : Nat) (qs : List Int) (w : World) (hS : Ins w lo hi A zs) (hQ : Ins w lo2 hi2 Q qs) (hn : qs.length ≤ 1048576) (hz : zs.length ≤ 12) :
    Calls Try.prog 71 #[.agg #[.slice A zs.length c, .int .i64 m], .slice Q qs.length cq] w fun e w' => ∃ B c', e = .returned (.slice B (choL qs zs).length c') ∧ (choL qs zs).length ≤ c' ∧ Res w' w.heap.size w'.heap.size B (choL qs zs) ∧ Below w.heap.size w w' := by
  obtain ⟨i0, hi0, hz0, hz1, hz2⟩ := info_parts infoI3
  have hqt := hQ.top
  have hst := hS.top
  have HT := Lib.hid (Two.new w (.slice A zs.length c) (.int .i64 m) 26 w.heap.size rfl)
  have HB := Lib.hid ((Below.refl w.heap.size w).alloc (Nat.le_refl _) (.cells #[.slice A zs.length c, .int .i64 m] 26))
  have HQ := Lib.hid (hQ.step HB.out)
  have HS := Lib.hid (hS.step HB.out)
  have HV := Lib.hid (fun q W h => l2Vain_any A c lo hi zs m q W h hz)
  have HS0 : Hid ((w.alloc (.cells #[.slice A zs.length c, .int .i64 m] 26)).heap.size = w.heap.size + 1) := Lib.hid (by simp)
  clear hQ hS
  go_enter Try.func71, Try.ntmps71
  go_upto_region 1 with (fail)
  generalize w.alloc (.cells #[.slice A zs.length c, .int .i64 m] 26) = w0 at HT HB HQ HS HS0 ⊢
  have hlt0 := HT.out.lt
  have O0 := Lib.hid (O0_any w0 (w.heap.size + 1) hlt0)
  have hs0 : w0.heap.size = w.heap.size + 1 := HS0.out
  go_wp2_with fail
  go_loopw [5, 6] (fun out i wr => ∃ (k : Nat), k ≤ qs.length ∧ i = .int .i64 k ∧ Hid (wr.ownsRow (w.heap.size + 1) 3 1 out (choTo qs zs k).length ((choTo qs zs k).map (Value.int .i64))) ∧ Hid (Past (w.heap.size + 1) w0 wr)) (fun _ i _ => qs.length - (intOf i).toNat)
  case atStart => exact ⟨0, Nat.zero_le _, rfl, (by first | exact O0 | (have hz := O0.out; rw [hs0] at hz; exact Lib.hid hz)), Past.of_below ((Below.refl _ _).alloc (Nat.le_refl _) _)⟩
  case round =>
    clear O0
    obtain ⟨k, hk, rfl, HO, HP⟩ := hrel
    rename World => w1
    have hsz := HP.out.size
    by_cases hlt : k < qs.length
    · have hltI : (k : Int) < (qs.length : Int) := by omega
      obtain ⟨b, o, rfl, _, hb, hc⟩ := (HQ.out.past HP.out (by omega)).ints.at_ hlt
      have HC0 := Lib.hid (CelR.mk hc)
      have HTk : Hid (CelR w1 ⟨w.heap.size, 0, none⟩ (.slice A zs.length c) ∧ CelR w1 ⟨w.heap.size, 1, none⟩ (.int .i64 m)) := Lib.hid ⟨⟨cell_past HP.out HT.out.c0 (by show w.heap.size < w.heap.size + 1; omega)⟩, ⟨cell_past HP.out HT.out.c1 (by show w.heap.size < w.heap.size + 1; omega)⟩⟩
      have HSk := Lib.hid (HS.out.past HP.out (by omega))
      have HVk := Lib.hid (fun W h => HV.out qs[k] W h)
      have HY := Lib.hid (fun e => choTo_yes (zs := zs) hlt e)
      have HN := Lib.hid (fun e => choTo_no (zs := zs) hlt e)
      have hfl := choTo_len qs zs k
      generalize qs[k] = x at hc HC0 HVk HY HN
      generalize vain x (opens zs) = v at HVk HY HN
      generalize choTo qs zs k = f at HO HY HN hfl
      clear hc hs0
      go_wp2_with fail
      go_region_held3 (fun w' => w'.cell? ⟨w.heap.size, 0, none⟩ = some (.slice A zs.length c) ∧ w'.cell? ⟨w.heap.size, 1, none⟩ = some (.int .i64 m) ∧ w'.cell? ⟨b, o + k, none⟩ = some (.int .i64 x))
        (first | exact ⟨(HTk.out.1.step (Below.refl _ w1).drew).c, (HTk.out.2.step (Below.refl _ w1).drew).c, (HC0.out.step (Below.refl _ w1).drew).c⟩ | exact ⟨HTk_1.out.1.c, HTk_1.out.2.c, HC0_1.out.c⟩)
        ((go_at_call 102; (with_reducible refine (HVk.out w1.drew (HSk.out.step (Below.refl _ w1).drew)).mono ?_); rintro e v1 ⟨rfl, hb1⟩; have HZ1 := Lib.hid (below_trans (Below.refl _ w1).drew hb1); have HTk_1 := Lib.hid (And.intro (HTk.out.1.step HZ1.out) (HTk.out.2.step HZ1.out)); have HC0_1 := Lib.hid (HC0.out.step HZ1.out); clear hb1))
      all_goals
        have hsz2 := HZ1.out.size
        have HO1 := Lib.hid (own_belowR HO.out HZ1.out)
        have HP1 := Lib.hid (HP.out.trans (Past.of_below HZ1.out))
        have hc0 := HC0_1.out.c
        clear HO HP HTk HTk_1 HC0 HC0_1 HZ1 HSk HVk
        cases v with
        | false =>
          have HYr := Lib.hid (HY.out rfl)
          clear HY HN
          have hown := HO1.out
          go_wp2_with (at_builtin; refine wpList_append_own _ rfl _ _ 24 rfl (w.heap.size + 1) 3 i0 (.int .i64 0) 1 8 Try.underlying24 hi0 hz0 hz1 hz2 rfl (by decide) _ _ _ rfl (hown.alloc _) ⟨v1.heap.size, 0, none⟩ 1 1 [.int .i64 x] rfl rfl (cell_one_new _ _ _) (by simp [Value.oneCell']) (by unfold maxLen; omega) (by omega) (by simp; omega) ?_; intro v' w3 hown' hgrow _)
          have HO2 := Lib.hid (own_snocI hown' rfl)
          have HP2 := Lib.hid (HP1.out.trans (Past.grown hown hgrow))
          clear hown' hgrow hown HO1
          go_wp2
          go_roundw
          case rel => exact ⟨k + 1, by omega, by go_num, Lib.hid (by rw [HYr.out]; exact HO2.out), HP2⟩
          case measure => simp [intOf]; omega
        | true =>
          have HNr := Lib.hid (HN.out rfl)
          clear HY HN hc0
          go_wp2
          go_roundw
          case rel => exact ⟨k + 1, by omega, by go_num, Lib.hid (by rw [HNr.out]; exact HO1.out), HP1⟩
          case measure => simp [intOf]; omega
    · obtain rfl : k = qs.length := by omega
      have hltI : ¬ (qs.length : Int) < (qs.length : Int) := by omega
      rw [choTo_full] at HO
      obtain ⟨B, c', rfl, hcap, hr⟩ := own_res HO.out rfl
      have HCap := Lib.hid hcap
      clear hcap HO
      go_wp2
      go_ret
      have HX := Lib.hid (show Res _ w.heap.size _ B (choL qs zs) from ⟨hr.own.wide (by omega) (Nat.le_refl _), Nat.le_refl _⟩)
      have HY := Lib.hid (HB.out.trans (HP.out.below (by omega) HB.out.size))
      first | exact ⟨_, _, rfl, HCap.out, HX.out, HY.out⟩ | exact ⟨_, ⟨_, rfl⟩, HCap.out, HX.out, HY.out⟩ | exact ⟨⟨_, rfl⟩, HCap.out, HX.out, HY.out⟩ | exact ⟨rfl, HCap.out, HX.out, HY.out⟩ | exact ⟨HCap.out, HX.out, HY.out⟩

def fairL (zs : List Int) (m q : Int) : List Bool := [false, true].filter fun y => can zs m q y
def fairTo (zs : List Int) (m q : Int) (k : Nat) : List Bool := ([false, true].take k).filter fun y => can zs m q y
theorem fair_one {zs : List Int} {m q : Int} : fairTo zs m q 1 = if can zs m q false then [false] else [] := by
  unfold fairTo
  cases h : can zs m q false <;> simp [h]
theorem fair_two {zs : List Int} {m q : Int} : fairL zs m q = fairTo zs m q 1 ++ (if can zs m q true then [true] else []) := by
  unfold fairTo fairL
  cases h : can zs m q false <;> cases h2 : can zs m q true <;> simp [h, h2]
theorem fair_both {M : Nat} {zs : List Int} {q : Int} (h : vain q (opens zs) = false) : fairL zs (M : Int) q = [false, true] := by
  have h1 : can zs (M : Int) q false = true := decide_eq_true (open_after h false)
  have h2 : can zs (M : Int) q true = true := decide_eq_true (open_after h true)
  unfold fairL
  simp [h1, h2]

set_option maxRecDepth 100000 in
set_option maxHeartbeats 8000000 in
theorem l11Fair_any (A : Option Addr) (c lo hi : Nat) (zs : List Int) (m : Int) (q : Int) (w : World) (hS : Ins w lo hi A zs) (hst : isSt zs m = true) :
    Calls Try.prog 82 #[.agg #[.slice A zs.length c, .int .i64 m], .int .i64 q] w fun e w' => ∃ B c', e = .returned (.slice B (fairL zs m q).length c') ∧ (fairL zs m q).length ≤ c' ∧ BRes w' w.heap.size w'.heap.size B (fairL zs m q) ∧ Below w.heap.size w w' := by
  obtain ⟨i0, hi0, hz0, hz1, hz2⟩ := info_parts infoB8
  have hst' := hS.top
  have hz := (isSt_len hst).2.1
  have HT := Lib.hid (Two.new w (.slice A zs.length c) (.int .i64 m) 26 w.heap.size rfl)
  have HB := Lib.hid ((Below.refl w.heap.size w).alloc (Nat.le_refl _) (.cells #[.slice A zs.length c, .int .i64 m] 26))
  have HS := Lib.hid (hS.step HB.out)
  have HA := Lib.hid (fun y W h => l2After_any A c lo hi zs m q y W h hst)
  have HOp := Lib.hid (fun y g c1 W h => l2Open_any (some ⟨g, 0, none⟩) c1 g (g + 1) (afters zs m q y) m W h (by rw [afters_len]; omega))
  simp only [afters_len] at HOp
  have HS0 : Hid ((w.alloc (.cells #[.slice A zs.length c, .int .i64 m] 26)).heap.size = w.heap.size + 1) := Lib.hid (by simp)
  have HC : Hid (∀ y, can zs m q y = decide (0 < (opens (afters zs m q y)).length)) := Lib.hid (fun y => rfl)
  have HF1 := Lib.hid (fair_one (zs := zs) (m := m) (q := q))
  have HF2 := Lib.hid (fair_two (zs := zs) (m := m) (q := q))
  have hol : ∀ y, (opens (afters zs m q y)).length ≤ 12 := fun y => by have := opens_len (afters zs m q y); rw [afters_len] at this; omega
  have hol0 := hol false
  have hol1 := hol true
  clear hS hst hol
  go_enter Try.func82, Try.ntmps82
  go_upto_region 1 with (fail)
  generalize w.alloc (.cells #[.slice A zs.length c, .int .i64 m] 26) = w0 at HT HB HS HS0 ⊢
  have hlt0 := HT.out.lt
  have O0 := Lib.hid (B0_any11 w0 (w.heap.size + 1) hlt0)
  have hs0 : w0.heap.size = w.heap.size + 1 := HS0.out
  have hb0 := (Below.refl w0.heap.size w0).alloc (Nat.le_refl _) (.cells #[] 4)
  replace HT := Lib.hid (HT.out.step hb0)
  replace HS := Lib.hid (HS.out.step hb0)
  replace HB := Lib.hid (below_trans HB.out hb0)
  clear hb0
  go_upto_region 2 with (fail)
  clear hs0
  generalize w0.alloc (.cells #[] 4) = w1 at HT HS HB O0 ⊢
  rw [HS0.out] at O0
  try rw [HS0.out]
  clear HS0
  have t0 := HT.out.c0
  have t1 := HT.out.c1
  go_wp2_with fail
  with_reducible refine (HA.out false w1 HS.out).mono ?_
  rintro e w2 ⟨g, c1, rfl, hg, ho, hb⟩
  have HI1 := Lib.hid (own_insG ho)
  replace HT := Lib.hid (HT.out.step hb)
  replace HS := Lib.hid (HS.out.step hb)
  replace HB := Lib.hid (below_trans HB.out hb)
  replace O0 := Lib.hid (own_belowR O0.out hb)
  clear hb ho hg t0 t1
  go_wp2_with fail
  with_reducible refine (HOp.out false g c1 w2 HI1.out).mono ?_
  rintro e w3 ⟨v, rfl, ho, hb⟩
  obtain ⟨Bo, co, rfl, _, _⟩ := own_res ho rfl
  replace HT := Lib.hid (HT.out.step hb)
  replace HS := Lib.hid (HS.out.step hb)
  replace HB := Lib.hid (below_trans HB.out hb)
  replace O0 := Lib.hid (own_belowR O0.out hb)
  clear hb ho HI1
  by_cases h0 : 0 < (opens (afters zs m q false)).length
  · have h0I :  (0 : Int) < ((opens (afters zs m q false)).length : Int) := by omega
    have hf1 : fairTo zs m q 1 = [false] := by rw [HF1.out, HC.out, decide_eq_true h0]; rfl
    rw [hf1] at HF2
    clear hf1 HF1 h0
    have hown := O0.out
    have hwb := HB.out.size
    go_upto_region 4 with (at_builtin; refine wpList_append_own _ rfl _ _ 36 rfl (w.heap.size + 1) 4 i0 (.bool false) 1 1 Try.underlying36 hi0 hz0 hz1 hz2 rfl (by decide) _ _ _ rfl (hown.alloc _) ⟨w3.heap.size, 0, none⟩ 1 1 [.bool false] rfl rfl (cell_one_new _ _ _) (by simp [Value.oneCell']) (by unfold maxLen; omega) (by omega) (by simp; omega) ?_; intro v' w4 hown' hgrow _)
    have hp := Past.grown hown hgrow
    have O1 := Lib.hid (show w4.ownsRow (w.heap.size + 1) 4 1 v' 1 (([false] : List Bool).map Value.bool) from by simpa using hown')
    have hpw : Within (w.heap.size + 1) w3.heap.size w3 w4 := ⟨hp.os, hp.tape, hp.output, hp.size, fun i hi hd => hp.block i hi (by omega)⟩
    replace HT := Lib.hid (HT.out.within hpw (.inl (Nat.lt_succ_self _)))
    replace HS := Lib.hid (HS.out.within hpw (.inl (by omega)))
    replace HB := Lib.hid (HB.out.trans (hpw.below (by omega) HB.out.size))
    clear hown hown' hgrow hp hpw O0 h0I
    have O0 := O1
    clear O1
    have t0 := HT.out.c0
    have t1 := HT.out.c1
    go_wp2_with fail
    with_reducible refine (HA.out true w4 HS.out).mono ?_
    rintro e w5 ⟨g, c1, rfl, hg, ho, hb⟩
    have HI1 := Lib.hid (own_insG ho)
    replace HT := Lib.hid (HT.out.step hb)
    replace HS := Lib.hid (HS.out.step hb)
    replace HB := Lib.hid (below_trans HB.out hb)
    replace O0 := Lib.hid (own_belowR O0.out hb)
    clear hb ho hg t0 t1
    go_wp2_with fail
    with_reducible refine (HOp.out true g c1 w5 HI1.out).mono ?_
    rintro e w6 ⟨v, rfl, ho, hb⟩
    obtain ⟨Bo, co, rfl, _, _⟩ := own_res ho rfl
    replace HT := Lib.hid (HT.out.step hb)
    replace HS := Lib.hid (HS.out.step hb)
    replace HB := Lib.hid (below_trans HB.out hb)
    replace O0 := Lib.hid (own_belowR O0.out hb)
    clear hb ho HI1
    by_cases h1 : 0 < (opens (afters zs m q true)).length
    · have h1I :  (0 : Int) < ((opens (afters zs m q true)).length : Int) := by omega
      have HFL : Hid (fairL zs m q = [false, true]) := Lib.hid (by rw [HF2.out, HC.out, decide_eq_true h1]; rfl)
      clear HF2 HC h1
      have hown := O0.out
      have hwb := HB.out.size
      go_wp2_with (at_builtin; refine wpList_append_own _ rfl _ _ 36 rfl (w.heap.size + 1) 4 i0 (.bool false) 1 1 Try.underlying36 hi0 hz0 hz1 hz2 rfl (by decide) _ _ _ rfl (hown.alloc _) ⟨w6.heap.size, 0, none⟩ 1 1 [.bool true] rfl rfl (cell_one_new _ _ _) (by simp [Value.oneCell']) (by unfold maxLen; omega) (by omega) (by simp; omega) ?_; intro v' w7 hown' hgrow _)
      have hp := Past.grown hown hgrow
      have O1 := Lib.hid (show w7.ownsRow (w.heap.size + 1) 4 1 v' 2 (([false, true] : List Bool).map Value.bool) from by simpa using hown')
      replace HB := Lib.hid (HB.out.trans (hp.below (by omega) HB.out.size))
      clear hown hown' hgrow hp O0
      have O0 := O1
      clear O1
      obtain ⟨B, c', he, hcap, hr⟩ := own_resB11 (bs := [false, true]) O0.out rfl
      subst he
      have HX := Lib.hid (bres_wide hr (show w.heap.size ≤ w.heap.size + 1 by omega))
      have HCap := Lib.hid hcap
      clear hcap hr O0
      go_wp2
      go_ret
      rw [HFL.out]
      first | exact ⟨_, _, rfl, HCap.out, HX.out, HB.out⟩ | exact ⟨_, ⟨_, rfl⟩, HCap.out, HX.out, HB.out⟩ | exact ⟨⟨_, rfl⟩, HCap.out, HX.out, HB.out⟩ | exact ⟨rfl, HCap.out, HX.out, HB.out⟩ | exact ⟨HCap.out, HX.out, HB.out⟩
    · have h1I : ¬ (0 : Int) < ((opens (afters zs m q true)).length : Int) := by omega
      have HFL : Hid (fairL zs m q = [false]) := Lib.hid (by rw [HF2.out, HC.out, decide_eq_false h1]; rfl)
      clear HF2 HC h1
      obtain ⟨B, c', he, hcap, hr⟩ := own_resB11 (bs := [false]) O0.out rfl
      subst he
      have HX := Lib.hid (bres_wide hr (show w.heap.size ≤ w.heap.size + 1 by omega))
      have HCap := Lib.hid hcap
      clear hcap hr O0
      go_wp2
      go_ret
      rw [HFL.out]
      first | exact ⟨_, _, rfl, HCap.out, HX.out, HB.out⟩ | exact ⟨_, ⟨_, rfl⟩, HCap.out, HX.out, HB.out⟩ | exact ⟨⟨_, rfl⟩, HCap.out, HX.out, HB.out⟩ | exact ⟨rfl, HCap.out, HX.out, HB.out⟩ | exact ⟨HCap.out, HX.out, HB.out⟩
  · have h0I : ¬ (0 : Int) < ((opens (afters zs m q false)).length : Int) := by omega
    have hf1 : fairTo zs m q 1 = [] := by rw [HF1.out, HC.out, decide_eq_false h0]; rfl
    rw [hf1] at HF2
    clear hf1 HF1 h0
    go_upto_region 4 with (fail)
    clear h0I
    obtain ⟨w4, hw4⟩ : ∃ w4, w4 = w3 := ⟨_, rfl⟩
    subst hw4
    have t0 := HT.out.c0
    have t1 := HT.out.c1
    go_wp2_with fail
    with_reducible refine (HA.out true w4 HS.out).mono ?_
    rintro e w5 ⟨g, c1, rfl, hg, ho, hb⟩
    have HI1 := Lib.hid (own_insG ho)
    replace HT := Lib.hid (HT.out.step hb)
    replace HS := Lib.hid (HS.out.step hb)
    replace HB := Lib.hid (below_trans HB.out hb)
    replace O0 := Lib.hid (own_belowR O0.out hb)
    clear hb ho hg t0 t1
    go_wp2_with fail
    with_reducible refine (HOp.out true g c1 w5 HI1.out).mono ?_
    rintro e w6 ⟨v, rfl, ho, hb⟩
    obtain ⟨Bo, co, rfl, _, _⟩ := own_res ho rfl
    replace HT := Lib.hid (HT.out.step hb)
    replace HS := Lib.hid (HS.out.step hb)
    replace HB := Lib.hid (below_trans HB.out hb)
    replace O0 := Lib.hid (own_belowR O0.out hb)
    clear hb ho HI1
    by_cases h1 : 0 < (opens (afters zs m q true)).length
    · have h1I :  (0 : Int) < ((opens (afters zs m q true)).length : Int) := by omega
      have HFL : Hid (fairL zs m q = [true]) := Lib.hid (by rw [HF2.out, HC.out, decide_eq_true h1]; rfl)
      clear HF2 HC h1
      have hown := O0.out
      have hwb := HB.out.size
      go_wp2_with (at_builtin; refine wpList_append_own _ rfl _ _ 36 rfl (w.heap.size + 1) 4 i0 (.bool false) 1 1 Try.underlying36 hi0 hz0 hz1 hz2 rfl (by decide) _ _ _ rfl (hown.alloc _) ⟨w6.heap.size, 0, none⟩ 1 1 [.bool true] rfl rfl (cell_one_new _ _ _) (by simp [Value.oneCell']) (by unfold maxLen; omega) (by omega) (by simp; omega) ?_; intro v' w7 hown' hgrow _)
      have hp := Past.grown hown hgrow
      have O1 := Lib.hid (show w7.ownsRow (w.heap.size + 1) 4 1 v' 1 (([true] : List Bool).map Value.bool) from by simpa using hown')
      replace HB := Lib.hid (HB.out.trans (hp.below (by omega) HB.out.size))
      clear hown hown' hgrow hp O0
      have O0 := O1
      clear O1
      obtain ⟨B, c', he, hcap, hr⟩ := own_resB11 (bs := [true]) O0.out rfl
      subst he
      have HX := Lib.hid (bres_wide hr (show w.heap.size ≤ w.heap.size + 1 by omega))
      have HCap := Lib.hid hcap
      clear hcap hr O0
      go_wp2
      go_ret
      rw [HFL.out]
      first | exact ⟨_, _, rfl, HCap.out, HX.out, HB.out⟩ | exact ⟨_, ⟨_, rfl⟩, HCap.out, HX.out, HB.out⟩ | exact ⟨⟨_, rfl⟩, HCap.out, HX.out, HB.out⟩ | exact ⟨rfl, HCap.out, HX.out, HB.out⟩ | exact ⟨HCap.out, HX.out, HB.out⟩
    · have h1I : ¬ (0 : Int) < ((opens (afters zs m q true)).length : Int) := by omega
      have HFL : Hid (fairL zs m q = []) := Lib.hid (by rw [HF2.out, HC.out, decide_eq_false h1]; rfl)
      clear HF2 HC h1
      obtain ⟨B, c', he, hcap, hr⟩ := own_resB11 (bs := []) O0.out rfl
      injection he with e1 e2 e3
      clear e2
      subst e1 e3
      have HX := Lib.hid (bres_wide hr (show w.heap.size ≤ w.heap.size + 1 by omega))
      have HCap := Lib.hid hcap
      clear hcap hr O0
      go_wp2
      go_ret
      rw [HFL.out]
      first | exact ⟨_, _, rfl, HCap.out, HX.out, HB.out⟩ | exact ⟨_, ⟨_, rfl⟩, HCap.out, HX.out, HB.out⟩ | exact ⟨⟨_, rfl⟩, HCap.out, HX.out, HB.out⟩ | exact ⟨rfl, HCap.out, HX.out, HB.out⟩ | exact ⟨HCap.out, HX.out, HB.out⟩

set_option maxRecDepth 100000 in
set_option maxHeartbeats 8000000 in
theorem l11Good_any (A : Option Addr) (c lo hi : Nat) (zs : List Int) (m : Int) (Q : Option Addr) (cq lo2 hi2 : Nat) (qs : List Int) (w : World) (hS : Ins w lo hi A zs) (hQ : Ins w lo2 hi2 Q qs) (hl : zs.length ≤ 1048576) (hn : qs.length ≤ 1048576) :
    Calls Try.prog 64 #[.agg #[.slice A zs.length c, .int .i64 m], .slice Q qs.length cq] w fun e w' => e = .returned (.bool (beginB zs m && choB zs.length qs)) ∧ Below w.heap.size w w' := by
  have HT := Lib.hid (Two.new w (.slice A zs.length c) (.int .i64 m) 26 w.heap.size rfl)
  have HB := Lib.hid ((Below.refl w.heap.size w).alloc (Nat.le_refl _) (.cells #[.slice A zs.length c, .int .i64 m] 26))
  have HQ := Lib.hid (hQ.step HB.out)
  have HS := Lib.hid (hS.step HB.out)
  have HR := Lib.hid (fun W h => l11Race_any A c lo hi zs m W h hl)
  have HCh := Lib.hid (fun W h => l11Choice_any A c zs.length m Q cq lo2 hi2 qs W h hn)
  clear hS hQ
  cases hbg : beginB zs m
  · rw [hbg] at HR
    clear hbg
    go_enter Try.func64, Try.ntmps64
    go_wp2_with fail
    generalize w.alloc (.cells #[.slice A zs.length c, .int .i64 m] 26) = w0 at HT HB HQ HS ⊢
    have t0 := HT.out.c0
    have t1 := HT.out.c1
    go_wp2_with fail
    with_reducible refine (HR.out w0 HS.out).mono ?_
    rintro e w1 ⟨rfl, hb⟩
    replace HT := Lib.hid (HT.out.step hb)
    replace HQ := Lib.hid (HQ.out.step hb)
    replace HB := Lib.hid (below_trans HB.out hb)
    clear hb t0 t1
    have t0 := HT.out.c0
    have t1 := HT.out.c1
    go_wp2
    go_ret
    exact ⟨by simp, HB.out⟩
  · rw [hbg] at HR
    clear hbg
    go_enter Try.func64, Try.ntmps64
    go_wp2_with fail
    generalize w.alloc (.cells #[.slice A zs.length c, .int .i64 m] 26) = w0 at HT HB HQ HS ⊢
    have t0 := HT.out.c0
    have t1 := HT.out.c1
    go_wp2_with fail
    with_reducible refine (HR.out w0 HS.out).mono ?_
    rintro e w1 ⟨rfl, hb⟩
    replace HT := Lib.hid (HT.out.step hb)
    replace HQ := Lib.hid (HQ.out.step hb)
    replace HB := Lib.hid (below_trans HB.out hb)
    clear hb t0 t1
    have t0 := HT.out.c0
    have t1 := HT.out.c1
    go_wp2_with fail
    with_reducible refine (HCh.out w1 HQ.out).mono ?_
    rintro e w2 ⟨rfl, hb⟩
    replace HB := Lib.hid (below_trans HB.out hb)
    clear hb
    go_wp2
    go_ret
    exact ⟨by simp, HB.out⟩
end Go.Proofs.Ytopgccficjkenaa
