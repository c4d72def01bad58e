/- NeedTable: both. -/
import Derived.Test.YtmieognengfiiaaFresh
import Derived.Test.YtmieognengfiiaaNeedB
import Derived.Test.YtmieognengfiiaaBest4
import Derived.Test.YtmieognengfiiaaUpd
import Derived.Test.YtmieognengfiiaaNums
namespace Go.Proofs.Ytmieognengfiiaa
open Go.RowKit Go.ChangeShapes Go.WideShapes
set_option linter.unusedVariables false

/-- The need of so many numbers without false answers. -/
def nd (m i : Nat) : Int := ((needR (freshR m (i + 1)) : Nat) : Int)
def ndU (m k : Nat) : List Int := (List.range k).map (nd m)
theorem ndU_len (m k : Nat) : (ndU m k).length = k := by simp [ndU]
theorem ndU_snoc (m k : Nat) : ndU m (k + 1) = ndU m k ++ [nd m k] := by simp [ndU, List.range_succ]
theorem nd_bd {m i : Nat} (h : i < 8) : 0 ≤ nd m i ∧ nd m i ≤ 9 := by
  have := need_le (r := freshR m (i + 1)) (by rw [fresh_sum]; omega)
  unfold nd
  omega
set_option maxRecDepth 100000 in
set_option maxHeartbeats 2000000 in
theorem needTable_spec (m : Nat) (w : World) (hm : m ≤ 2) :
    Calls Try.prog 41 #[.int .i64 (m : Int)] w fun e w' => ∃ B c', e = .returned (.tuple #[.slice B (ndU m 8).length c', .bool true]) ∧ Res w' w.heap.size w'.heap.size B (ndU m 8) ∧ Below w.heap.size w w' := by
  obtain ⟨i0, hi0, hz0, hz1, hz2⟩ := info_parts infoI3
  have HC := Lib.hid (fun W => l1In_any (m : Int) 0 2 W)
  rw [inB_t (by omega) (by omega)] at HC
  have HNs := Lib.hid (fun W => l4Needs_any (m + 1) W (by omega))
  have hp9 := pow9 (p := m + 1) (by omega)
  have HFr := Lib.hid (fun n W => l4Fresh_any m n W hm)
  have HK := Lib.hid (fun n (h : n ≤ 8) B cB lo hi W h2 => l4Key_any B cB lo hi (m + 1) (freshR m n) W h2 (fresh_wide hm) (by rw [fresh_sum]; exact h))
  have HKL := Lib.hid (fun n (h : n ≤ 8) => key_lt (fresh_wide (n := n) hm) (by rw [fresh_sum]; exact h))
  have HFA := Lib.hid (fun n (h : n ≤ 8) => found_all (r := freshR m n) (by rw [fresh_sum]; exact h))
  have HFL := Lib.hid (foundL_len (m + 1) 10)
  have HO0 := Lib.hid (O0_any w w.heap.size (Nat.le_refl _))
  have HB0 := Lib.hid ((Below.refl w.heap.size w).alloc (Nat.le_refl _) (.cells #[] 3))
  go_enter Try.func41, Try.ntmps41
  go_wp2_with fail
  have hsz1 : (w.alloc (.cells #[] 3)).heap.size = w.heap.size + 1 := by simp
  generalize w.alloc (.cells #[] 3) = wa at HO0 HB0 hsz1 ⊢
  refine (HC.out wa).mono ?_
  rintro e w1 ⟨rfl, rfl⟩
  clear HC
  go_wp2_with fail
  refine (HNs.out w1).mono ?_
  rintro e w2 ⟨g, cg, rfl, hg, ho, hb⟩
  have HN := Lib.hid ho
  have HB2 := Lib.hid (below_trans HB0.out hb)
  have HO2 := Lib.hid (ownsRow_past HO0.out (Past.of_below hb))
  have hgl := own_lt ho
  have hsz0 := HB0.out.size
  clear ho hb HNs HO0
  have hs2 := HB2.out.size
  have HK0 : Hid (BK w.heap.size 0 w2 w2 (.slice (some ⟨w.heap.size, 0, none⟩) 0 0)) := Lib.hid ⟨fun i _ _ => rfl, Nat.le_refl _, fun q e => by (have e : w.heap.size = q := (by injection e)); exact ⟨.inl e.symm, by omega⟩, rfl, rfl, rfl⟩
  generalize (Value.slice (some ⟨w.heap.size, 0, none⟩) 0 0) = v0 at HO2 HK0 ⊢
  go_wp2_with fail
  go_loopw [4, 6] (fun v i wr => ∃ (k : Nat), k ≤ 8 ∧ i = .int .i64 ((k : Int) + 1) ∧ Hid (wr.ownsRow w.heap.size 3 1 v (ndU m k).length ((ndU m k).map (Value.int .i64))) ∧ Hid (BK w.heap.size 0 w2 wr v)) (fun _ i _ => 9 - (intOf i).toNat)
  case atStart => exact ⟨0, by omega, by go_num, by simpa [ndU] using HO2, HK0⟩
  case round =>
    clear HO2 HK0
    obtain ⟨k, hk, rfl, HV, HKp⟩ := hrel
    rename World => w3
    have hs3 := HKp.out.size
    have HB3 : Hid (Below w.heap.size w w3) := Lib.hid (⟨HKp.out.os.trans HB2.out.os, HKp.out.tape.trans HB2.out.tape, HKp.out.output.trans HB2.out.output, Nat.le_trans HB2.out.size HKp.out.size, fun i hi => (HKp.out.keep i (by omega) (by omega)).trans (HB2.out.block i hi)⟩)
    by_cases hlt : k < 8
    · have HO3 := Lib.hid (own_same HN.out (HKp.out.keep g (by omega) hgl))
      have HFk := HFr.out (k + 1)
      rw [show ((k + 1 : Nat) : Int) = (k : Int) + 1 from by omega] at HFk
      have HFk := Lib.hid HFk
      have HKk := Lib.hid (HK.out (k + 1) (by omega))
      have hkl := HKL.out (k + 1) (by omega)
      have hkc := own_cell HO3.out (k := keyR (freshR m (k + 1))) (by rw [HFL.out]; exact hkl)
      rw [show (foundL (m + 1) 10).getD (keyR (freshR m (k + 1))) 0 = nd m k from by rw [nd, ← HFA.out (k + 1) (by omega)]; simp [foundL, List.getD, hkl]] at hkc
      have HSn := Lib.hid (ndU_snoc m k)
      have hbd := nd_bd (m := m) hlt
      have HUl := Lib.hid (ndU_len m k)
      have hul8 : (ndU m k).length ≤ 8 := by rw [HUl.out]; omega
      have hg3 := own_lt HO3.out
      generalize keyR (freshR m (k + 1)) = ky at hkc hkl HKk
      have hkyI : (ky : Int) < ((9 ^ (m + 1) : Nat) : Int) := by omega
      clear HK HKL HFA HFr
      generalize nd m k = x at hkc HSn hbd
      generalize ndU m k = f at HV HSn HUl hul8
      go_wp2_with fail
      refine (HFk.out w3).mono ?_
      rintro e w4 ⟨gF, rfl, hgF, hoF, hb4⟩
      have HV4 := Lib.hid (ownsRow_past HV.out (Past.of_below hb4))
      have HK4 := Lib.hid (HKp.out.below hb4)
      have hkc4 := (hb4.cell (p := ⟨g, ky, none⟩) hg3).trans hkc
      have HIn := Lib.hid (Ins.mk hoF.ints (own_lt hoF))
      have hs4 := HK4.out.size
      clear hb4 hkc HFk HV HKp HO3 hoF
      go_wp2_with fail
      refine (HKk.out (some ⟨gF, 0, none⟩) (m + 1) gF (gF + 1) w4 HIn.out).mono ?_
      rintro e w5 ⟨rfl, rfl⟩
      go_wp2_with (at_builtin; refine wpList_append_lies _ rfl (.tmp 19) (.tmp 27) 22 rfl w.heap.size 3 i0 (.int .i64 0) 1 8 Try.underlying22 hi0 hz0 hz1 hz2 rfl (by decide) _ f.length (f.map (Value.int .i64)) rfl (HV4.out.alloc _) ⟨w5.heap.size, 0, none⟩ 1 1 [.int .i64 x] rfl rfl (cell_one_new _ _ _) (by simp [Value.oneCell']) (by decide) (by unfold maxLen; omega) (by omega) (by simp; omega) _ rfl ?_; intro ga ca wf hown ha hblk hlta; have HVn := Lib.hid (own_snocI hown rfl); have HKn := Lib.hid ((HK4.out.below ((Below.refl _ w5).alloc (Nat.le_refl _) (.cells #[.int .i64 x] 3))).grown (n := f.length + 1) (c := ca) ha hblk rfl hlta); clear hown ha hblk hlta)
      go_wp2
      go_roundw
      case rel => exact ⟨k + 1, by omega, by go_num, by rw [HSn.out]; exact HVn, HKn⟩
      case measure => simp [intOf]; omega
    · obtain rfl : k = 8 := by omega
      go_wp2
      go_ret2
      exact own_ans0 rfl HV.out HB3.out
theorem row_res4 {w : World} {l : List Int} {lo g : Nat} (h : lo ≤ g) (hr : w.heap[g]? = some (.cells (l.map (Value.int .i64)).toArray 3 (0, 0))) : Res w lo w.heap.size (some ⟨g, 0, none⟩) l :=
  ⟨.inr ⟨g, _, rfl, h, row_ltI hr, hr, by simp, fun j x hx => by simp [hx]⟩, Nat.le_refl _⟩
theorem makeTab (m : Nat) (w : World) : (Instr.makeSlice 22 (.int .i64 8) (.int .i64 8)).run Try.prog w = .ok (.slice (some ⟨w.heap.size, 0, none⟩) 8 8) (w.alloc (.cells ((upd (nd m) 8 0).map (Value.int .i64)).toArray 3)) := by
  rw [upd_zero]
  simpa using makeInts 8 (by omega) w
set_option maxRecDepth 100000 in
set_option maxHeartbeats 2000000 in
theorem needTable_impl (m : Nat) (w : World) (hm : m ≤ 2) :
    Calls Try.prog 42 #[.int .i64 (m : Int)] w fun e w' => ∃ B c', e = .returned (.tuple #[.slice B (ndU m 8).length c', .bool true]) ∧ Res w' w.heap.size w'.heap.size B (ndU m 8) ∧ Below w.heap.size w w' := by
  have HC := Lib.hid (fun W => isMost_any (m : Int) W)
  rw [inB_t (by omega) (by omega)] at HC
  have hmk := makePlans
  have hms := makeTab m
  have HMa := Lib.hid PlanM.made
  go_enter Try.func42, Try.ntmps42
  go_wp2_with fail
  refine (HC.out w).mono ?_
  rintro e w1 ⟨rfl, rfl⟩
  clear HC
  go_upto_region 3 with fail
  generalize hRW : ((upd (nd m) 8 0).map (Value.int .i64)).toArray = RW at hms
  have HRW := Lib.hid hRW
  clear hRW
  go_cut [4, 5] from 11 to 12 (fun p4 p5 wx => ∃ (M g : Nat), p4 = .map (some M) ∧ p5 = .slice (some ⟨g, 0, none⟩) 8 8 ∧ Hid (PlanM wx M) ∧ Hid (wx.heap[g]? = some (.cells RW 3 (0, 0))) ∧ Hid (Below w1.heap.size w1 wx) ∧ w1.heap.size ≤ g ∧ w1.heap.size ≤ M ∧ M ≠ g)
  case first =>
    go_region_with fail
    all_goals
      go_wp2_with fail
      go_meet
      first
        | exact ⟨w1.heap.size, w1.heap.size + 1, rfl, rfl, Lib.hid ((HMa.out w1).step ((Below.refl _ _).alloc (Nat.le_refl _) _).drew), Lib.hid (alloc_row' (w1.alloc (.map #[] 0)) RW 3 _ (by simp)), Lib.hid ((((Below.refl _ w1).alloc (Nat.le_refl _) (.map #[] 0)).alloc (by simp) (.cells RW 3)).drew), by omega, by omega, by omega⟩
        | exact ⟨w1.heap.size + 1, w1.heap.size, rfl, rfl, Lib.hid (PlanM.heap (w := (w1.alloc (.cells RW 3)).alloc (.map #[] 0)) (by have := HMa.out (w1.alloc (.cells RW 3)); rw [show (w1.alloc (.cells RW 3)).heap.size = w1.heap.size + 1 from by simp] at this; exact this) rfl), Lib.hid ((((Below.refl _ (w1.alloc (.cells RW 3))).alloc (Nat.le_refl _) (.map #[] 0)).block w1.heap.size (by simp)).trans (alloc_row' w1 RW 3 _ rfl)), Lib.hid ((((Below.refl _ w1).alloc (Nat.le_refl _) (.cells RW 3)).alloc (by simp) (.map #[] 0)).drew), by omega, by omega, by omega⟩
  case rest =>
    obtain ⟨M, g, rfl, rfl, HM, HR, HB, hg, hM, hne⟩ := hcut
    rename World => w2
    rw [← HRW.out] at HR
    have hfd := field_need
    clear HRW hms hmk HMa
    go_wp2_with fail
    go_loopw [15] (fun i wr => ∃ (k : Nat), k ≤ 8 ∧ i = .int .i64 (k : Int) ∧ Hid (wr.heap[g]? = some (.cells ((upd (nd m) 8 k).map (Value.int .i64)).toArray 3 (0, 0))) ∧ Hid (PlanM wr M) ∧ Hid (Below w1.heap.size w1 wr)) (fun i _ => 8 - (intOf i).toNat)
    case atStart => exact ⟨0, by omega, rfl, HR, HM, HB⟩
    case round =>
      clear HR HM HB
      obtain ⟨k, hk, rfl, HR, HM, HB⟩ := hrel
      rename World => w3
      by_cases hlt : k < 8
      · have HFk := fun W => freshCounts_any m (k + 1) W hm
        rw [show ((k + 1 : Nat) : Int) = (k : Int) + 1 from by omega] at HFk
        have HFk := Lib.hid HFk
        have h8 : rsum (freshR m (k + 1)) ≤ 8 := by rw [fresh_sum]; omega
        have HPk := Lib.hid (fun W Mb h => planOf_any (freshR m (k + 1)) h8 W Mb h)
        have HNe := Lib.hid (plan_need h8)
        have hbd := nd_bd (m := m) hlt
        have hrow := HR.out
        have hcell := getD_cell hrow (i := k) (by rw [upd_len]; exact hlt)
        have HF := Lib.hid (upd_set (nd m) 8 k)
        have hnd : nd m k = ((needR (freshR m (k + 1)) : Nat) : Int) := rfl
        rw [hnd] at HF hbd
        generalize freshR m (k + 1) = r at *
        clear hnd h8
        have hMl := HM.out.lt
        have hgl := row_ltI hrow
        have hsB := HB.out.size
        generalize (upd (nd m) 8 k).getD k 0 = z at hcell
        go_wp2_with fail
        refine (HFk.out w3).mono ?_
        rintro e w4 ⟨rfl, hb4⟩
        have HM4 := Lib.hid (HM.out.step hb4)
        have HB4 := Lib.hid (below_trans HB.out hb4)
        have hrow4 := (hb4.block g hgl).trans hrow
        have hcell4 := (hb4.cell (p := ⟨g, k, none⟩) hgl).trans hcell
        have hs4 := hb4.size
        clear hb4 hcell hrow HM HB HR HFk
        go_wp2_with fail
        refine (HPk.out w4 M HM4.out).mono ?_
        rintro e w5 ⟨rfl, hpm5, hw5⟩
        have HM5 := Lib.hid hpm5
        have HB5 := Lib.hid (HB4.out.trans (hw5.below hM HB4.out.size))
        have hrow5 := (hw5.block g (by omega) (by omega)).trans hrow4
        have hcell5 := (World.cell?_of_block (a := ⟨g, k, none⟩) (hw5.block g (by omega) (by omega))).trans hcell4
        have hs5 := hw5.size
        clear hpm5 hw5 hrow4 hcell4 HM4 HB4 HPk
        simp only [planV]
        rw [HNe.out]
        generalize ((needR r : Nat) : Int) = x at HF hbd ⊢
        have hfr := row_freeI hrow5 k
        have HR6 := Lib.hid (row_setI hrow5 k (.int .i64 x))
        rw [map_set, HF.out] at HR6
        have hws := within_set (Within.refl g (g + 1) w5) (g := g) (Nat.le_refl _) (by omega) k (.int .i64 x)
        have HM6 := Lib.hid (HM5.out.heap (hws.block M HM5.out.lt (by omega)))
        have HB6 := Lib.hid (HB5.out.trans (hws.below hg HB5.out.size))
        clear hws hrow5 HF
        go_wp2
        go_roundw
        case rel => exact ⟨k + 1, by omega, by go_num, HR6, HM6, HB6⟩
        case measure => simp [intOf]; omega
      · obtain rfl : k = 8 := by omega
        rw [upd_all] at HR
        have HRes := Lib.hid (row_res4 hg HR.out)
        go_wp2
        go_ret2
        exact ⟨_, 8, rfl, HRes.out, HB.out⟩
/-- What NeedTable answers. -/
theorem needTable_both (m : Int) : ∃ (r0 : List Int) (r1 : Bool), r0.length ≤ 1048576 ∧
    (∀ (w : World), Calls Try.prog 42 #[.int .i64 m] w fun e w' => ∃ B c', e = .returned (.tuple #[.slice B r0.length c', .bool r1]) ∧ Res w' w.heap.size w'.heap.size B r0 ∧ Below w.heap.size w w') ∧
    (∀ (w : World), Calls Try.prog 41 #[.int .i64 m] w fun e w' => ∃ B c', e = .returned (.tuple #[.slice B r0.length c', .bool r1]) ∧ Res w' w.heap.size w'.heap.size B r0 ∧ Below w.heap.size w w') := by
  by_cases h : inB m 0 2 = true
  · have b1 := inB_iff.1 h
    obtain ⟨a, rfl⟩ : ∃ a : Nat, m = (a : Int) := ⟨m.toNat, by omega⟩
    exact ⟨ndU a 8, true, by rw [ndU_len]; omega, fun w => needTable_impl a w (by omega), fun w => needTable_spec a w (by omega)⟩
  · have h : inB m 0 2 = false := by simpa using h
    have HC := Lib.hid (fun W => isMost_any m W)
    have HF := Lib.hid (fun W => l1In_any m 0 2 W)
    rw [h] at HC HF
    refine ⟨[], false, by simp, fun w => ?_, fun w => ?_⟩
    · go_enter Try.func42, Try.ntmps42
      go_wp2_with (first | (go_at_call 75; refine (HC.out _).mono ?_; rintro e w1 ⟨rfl, rfl⟩))
      go_ret2
      exact ⟨_, 0, rfl, empty_res _ _ (Nat.le_refl _), (Below.refl _ _).alloc (Nat.le_refl _) _⟩
    · go_enter Try.func41, Try.ntmps41
      go_wp2_with (first | (go_at_call 66; refine (HF.out _).mono ?_; rintro e w1 ⟨rfl, rfl⟩))
      go_ret2
      exact ⟨_, 0, rfl, empty_res _ _ (Nat.le_refl _), (Below.refl _ _).alloc (Nat.le_refl _) _⟩
end Go.Proofs.Ytmieognengfiiaa
