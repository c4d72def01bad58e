/- NeedTable: both. -/
import Derived.Test.YthpnkeecpaflfaaFreshN
namespace Go.Proofs.Ythpnkeecpaflfaa
open Go.RowKit Go.ChangeShapes Go.WideShapes
set_option linter.unusedVariables false

/-- The need of so many numbers without false answers. -/
def nd (m i : Nat) : Int := ((needR (freshR m (i + 1)) : Nat) : Int)
def ndU (m k : Nat) : List Int := (List.range k).map (nd m)
theorem ndU_len (m k : Nat) : (ndU m k).length = k := by simp [ndU]
theorem ndU_snoc (m k : Nat) : ndU m (k + 1) = ndU m k ++ [nd m k] := by simp [ndU, List.range_succ]
theorem nd_bd {m i : Nat} (h : i < 8) : 0 ≤ nd m i ∧ nd m i ≤ 9 := by
  have := need_le (r := freshR m (i + 1)) (by rw [fresh_sum]; omega)
  unfold nd
  omega
set_option maxRecDepth 100000 in
set_option maxHeartbeats 2000000 in
theorem needTable_spec (m : Nat) (w : World) (hm : m ≤ 2) :
    Calls Try.prog 16 #[.int .i64 (m : Int)] w fun e w' => ∃ B c', e = .returned (.tuple #[.slice B (ndU m 8).length c', .bool true]) ∧ Res w' w.heap.size w'.heap.size B (ndU m 8) ∧ Below w.heap.size w w' := by
  obtain ⟨i0, hi0, hz0, hz1, hz2⟩ := info_parts infoI3
  have HC := Lib.hid (fun W => l1In_any (m : Int) 0 2 W)
  rw [inB_t (by omega) (by omega)] at HC
  have HNs := Lib.hid (fun W => l4Needs_any (m + 1) W (by omega))
  have hp9 := pow9 (p := m + 1) (by omega)
  have HFr := Lib.hid (fun n W => l4Fresh_any m n W hm)
  have HK := Lib.hid (fun n (h : n ≤ 8) B cB lo hi W h2 => l4Key_any B cB lo hi (m + 1) (freshR m n) W h2 (fresh_wide hm) (by rw [fresh_sum]; exact h))
  have HKL := Lib.hid (fun n (h : n ≤ 8) => key_lt (fresh_wide (n := n) hm) (by rw [fresh_sum]; exact h))
  have HFA := Lib.hid (fun n (h : n ≤ 8) => found_all (r := freshR m n) (by rw [fresh_sum]; exact h))
  have HFL := Lib.hid (foundL_len (m + 1) 10)
  have HO0 := Lib.hid (O0_any w w.heap.size (Nat.le_refl _))
  have HB0 := Lib.hid ((Below.refl w.heap.size w).alloc (Nat.le_refl _) (.cells #[] 3))
  go_enter Try.func16, Try.ntmps16
  go_wp2_with fail
  have hsz1 : (w.alloc (.cells #[] 3)).heap.size = w.heap.size + 1 := by simp
  generalize w.alloc (.cells #[] 3) = wa at HO0 HB0 hsz1 ⊢
  refine (HC.out wa).mono ?_
  rintro e w1 ⟨rfl, rfl⟩
  clear HC
  go_wp2_with fail
  refine (HNs.out w1).mono ?_
  rintro e w2 ⟨g, cg, rfl, hg, ho, hb⟩
  have HN := Lib.hid ho
  have HB2 := Lib.hid (below_trans HB0.out hb)
  have HO2 := Lib.hid (ownsRow_past HO0.out (Past.of_below hb))
  have hgl := own_lt ho
  have hsz0 := HB0.out.size
  clear ho hb HNs HO0
  have hs2 := HB2.out.size
  have HK0 : Hid (BK w.heap.size 0 w2 w2 (.slice (some ⟨w.heap.size, 0, none⟩) 0 0)) := Lib.hid ⟨fun i _ _ => rfl, Nat.le_refl _, fun q e => by (have e : w.heap.size = q := (by injection e)); exact ⟨.inl e.symm, by omega⟩, rfl, rfl, rfl⟩
  generalize (Value.slice (some ⟨w.heap.size, 0, none⟩) 0 0) = v0 at HO2 HK0 ⊢
  go_wp2_with fail
  go_loopw [4, 6] (fun v i wr => ∃ (k : Nat), k ≤ 8 ∧ i = .int .i64 ((k : Int) + 1) ∧ Hid (wr.ownsRow w.heap.size 3 1 v (ndU m k).length ((ndU m k).map (Value.int .i64))) ∧ Hid (BK w.heap.size 0 w2 wr v)) (fun _ i _ => 9 - (intOf i).toNat)
  case atStart => exact ⟨0, by omega, by go_num, by simpa [ndU] using HO2, HK0⟩
  case round =>
    clear HO2 HK0
    obtain ⟨k, hk, rfl, HV, HKp⟩ := hrel
    rename World => w3
    have hs3 := HKp.out.size
    have HB3 : Hid (Below w.heap.size w w3) := Lib.hid (⟨HKp.out.os.trans HB2.out.os, HKp.out.tape.trans HB2.out.tape, HKp.out.output.trans HB2.out.output, Nat.le_trans HB2.out.size HKp.out.size, fun i hi => (HKp.out.keep i (by omega) (by omega)).trans (HB2.out.block i hi)⟩)
    by_cases hlt : k < 8
    · have HO3 := Lib.hid (own_same HN.out (HKp.out.keep g (by omega) hgl))
      have HFk := HFr.out (k + 1)
      rw [show ((k + 1 : Nat) : Int) = (k : Int) + 1 from by omega] at HFk
      have HFk := Lib.hid HFk
      have HKk := Lib.hid (HK.out (k + 1) (by omega))
      have hkl := HKL.out (k + 1) (by omega)
      have hkc := own_cell HO3.out (k := keyR (freshR m (k + 1))) (by rw [HFL.out]; exact hkl)
      rw [show (foundL (m + 1) 10).getD (keyR (freshR m (k + 1))) 0 = nd m k from by rw [nd, ← HFA.out (k + 1) (by omega)]; simp [foundL, List.getD, hkl]] at hkc
      have HSn := Lib.hid (ndU_snoc m k)
      have hbd := nd_bd (m := m) hlt
      have HUl := Lib.hid (ndU_len m k)
      have hul8 : (ndU m k).length ≤ 8 := by rw [HUl.out]; omega
      have hg3 := own_lt HO3.out
      generalize keyR (freshR m (k + 1)) = ky at hkc hkl HKk
      have hkyI : (ky : Int) < ((9 ^ (m + 1) : Nat) : Int) := by omega
      clear HK HKL HFA HFr
      generalize nd m k = x at hkc HSn hbd
      generalize ndU m k = f at HV HSn HUl hul8
      go_wp2_with fail
      refine (HFk.out w3).mono ?_
      rintro e w4 ⟨gF, rfl, hgF, hoF, hb4⟩
      have HV4 := Lib.hid (ownsRow_past HV.out (Past.of_below hb4))
      have HK4 := Lib.hid (HKp.out.below hb4)
      have hkc4 := (hb4.cell (p := ⟨g, ky, none⟩) hg3).trans hkc
      have HIn := Lib.hid (Ins.mk hoF.ints (own_lt hoF))
      have hs4 := HK4.out.size
      clear hb4 hkc HFk HV HKp HO3 hoF
      go_wp2_with fail
      refine (HKk.out (some ⟨gF, 0, none⟩) (m + 1) gF (gF + 1) w4 HIn.out).mono ?_
      rintro e w5 ⟨rfl, rfl⟩
      go_wp2_with (at_builtin; refine wpList_append_lies _ rfl (.tmp 19) (.tmp 27) 24 rfl w.heap.size 3 i0 (.int .i64 0) 1 8 Try.underlying24 hi0 hz0 hz1 hz2 rfl (by decide) _ f.length (f.map (Value.int .i64)) rfl (HV4.out.alloc _) ⟨w5.heap.size, 0, none⟩ 1 1 [.int .i64 x] rfl rfl (cell_one_new _ _ _) (by simp [Value.oneCell']) (by decide) (by unfold maxLen; omega) (by omega) (by simp; omega) _ rfl ?_; intro ga ca wf hown ha hblk hlta; have HVn := Lib.hid (own_snocI hown rfl); have HKn := Lib.hid ((HK4.out.below ((Below.refl _ w5).alloc (Nat.le_refl _) (.cells #[.int .i64 x] 3))).grown (n := f.length + 1) (c := ca) ha hblk rfl hlta); clear hown ha hblk hlta)
      go_wp2
      go_roundw
      case rel => exact ⟨k + 1, by omega, by go_num, by rw [HSn.out]; exact HVn, HKn⟩
      case measure => simp [intOf]; omega
    · obtain rfl : k = 8 := by omega
      go_wp2
      go_ret2
      exact own_ans0 rfl HV.out HB3.out
set_option maxRecDepth 100000 in
set_option maxHeartbeats 2000000 in
theorem needTable_impl (m : Nat) (w : World) (hm : m ≤ 2) :
    Calls Try.prog 15 #[.int .i64 (m : Int)] w fun e w' => ∃ B c', e = .returned (.tuple #[.slice B (ndU m 8).length c', .bool true]) ∧ Res w' w.heap.size w'.heap.size B (ndU m 8) ∧ Below w.heap.size w w' := by
  have hmk := makePlans
  have HMa := Lib.hid (PlanM.made w)
  have HB := Lib.hid ((Below.refl w.heap.size w).alloc (Nat.le_refl _) (.map #[] 0))
  have HFn := Lib.hid (fun W h => freshNeeds_any m 43 w.heap.size (nd m) (fun W => PlanM W w.heap.size) W hm (fun _ _ => rfl) (fun W W' h e => h.heap e) (fun W h => h.lt) (fun k hk W h => needOf_any (freshR m (k + 1)) (by rw [fresh_sum]; omega) W w.heap.size h) h)
  have HU : Hid (ndG (nd m) 8 = ndU m 8) := Lib.hid rfl
  rw [← HU.out]
  generalize ndG (nd m) 8 = L at HFn ⊢
  clear HU
  go_enter Try.func15, Try.ntmps15
  go_wp2_with fail
  clear hmk
  have hs : w.heap.size ≤ (w.alloc (.map #[] 0)).heap.size := HB.out.size
  generalize w.alloc (.map #[] 0) = wa at HMa HB hs ⊢
  refine (HFn.out wa HMa.out).mono ?_
  rintro e w2 ⟨B, c', rfl, hr, hw⟩
  have HR := Lib.hid (res_low hr hs)
  have HW := Lib.hid (HB.out.trans (hw.below (Nat.le_refl _) hs))
  clear hr hw HFn
  go_wp2
  go_ret2
  exact ⟨B, c', rfl, HR.out, HW.out⟩
set_option maxRecDepth 100000 in
theorem needTable_no2 (m : Int) (w : World) (h : inB m 0 2 = false) :
    Calls Try.prog 15 #[.int .i64 m] w fun e w' => ∃ B c', e = .returned (.tuple #[.slice B 0 c', .bool false]) ∧ Res w' w.heap.size w'.heap.size B [] ∧ Below w.heap.size w w' := by
  have hmk := makePlans
  have HB := Lib.hid ((Below.refl w.heap.size w).alloc (Nat.le_refl _) (.map #[] 0))
  have HFn := Lib.hid (fun W => freshNeeds_no m 43 w.heap.size W h)
  clear h
  go_enter Try.func15, Try.ntmps15
  go_wp2_with fail
  clear hmk
  have hs : w.heap.size ≤ (w.alloc (.map #[] 0)).heap.size := HB.out.size
  generalize w.alloc (.map #[] 0) = wa at HB hs ⊢
  refine (HFn.out wa).mono ?_
  rintro e w2 ⟨B, c', rfl, hr, hb⟩
  have HR := Lib.hid (res_low hr hs)
  have HB2 := Lib.hid (below_trans HB.out hb)
  clear hr hb HFn
  go_wp2
  go_ret2
  exact ⟨B, c', rfl, HR.out, HB2.out⟩
/-- What NeedTable answers. -/
theorem needTable_both2 (m : Int) : ∃ (r0 : List Int) (r1 : Bool), r0.length ≤ 1048576 ∧ (r1 = true → ∃ a : Nat, m = (a : Int) ∧ a ≤ 2 ∧ r0 = ndU a 8) ∧
    (∀ (w : World), Calls Try.prog 15 #[.int .i64 m] w fun e w' => ∃ B c', e = .returned (.tuple #[.slice B r0.length c', .bool r1]) ∧ Res w' w.heap.size w'.heap.size B r0 ∧ Below w.heap.size w w') ∧
    (∀ (w : World), Calls Try.prog 16 #[.int .i64 m] w fun e w' => ∃ B c', e = .returned (.tuple #[.slice B r0.length c', .bool r1]) ∧ Res w' w.heap.size w'.heap.size B r0 ∧ Below w.heap.size w w') := by
  by_cases h : inB m 0 2 = true
  · have b1 := inB_iff.1 h
    obtain ⟨a, rfl⟩ : ∃ a : Nat, m = (a : Int) := ⟨m.toNat, by omega⟩
    exact ⟨ndU a 8, true, by rw [ndU_len]; omega, (fun _ => ⟨a, rfl, by omega, rfl⟩), fun w => needTable_impl a w (by omega), fun w => needTable_spec a w (by omega)⟩
  · have h : inB m 0 2 = false := by simpa using h
    have HF := Lib.hid (fun W => l1In_any m 0 2 W)
    rw [h] at HF
    refine ⟨[], false, by simp, (fun h => by cases h), fun w => ?_, fun w => ?_⟩
    · exact needTable_no2 m w h
    · go_enter Try.func16, Try.ntmps16
      go_wp2_with (first | (go_at_call 23; refine (HF.out _).mono ?_; rintro e w1 ⟨rfl, rfl⟩))
      go_ret2
      exact ⟨_, 0, rfl, empty_res _ _ (Nat.le_refl _), (Below.refl _ _).alloc (Nat.le_refl _) _⟩
theorem needTable_both (m : Int) : ∃ (r0 : List Int) (r1 : Bool), r0.length ≤ 1048576 ∧
    (∀ (w : World), Calls Try.prog 15 #[.int .i64 m] w fun e w' => ∃ B c', e = .returned (.tuple #[.slice B r0.length c', .bool r1]) ∧ Res w' w.heap.size w'.heap.size B r0 ∧ Below w.heap.size w w') ∧
    (∀ (w : World), Calls Try.prog 16 #[.int .i64 m] w fun e w' => ∃ B c', e = .returned (.tuple #[.slice B r0.length c', .bool r1]) ∧ Res w' w.heap.size w'.heap.size B r0 ∧ Below w.heap.size w w') := by
  obtain ⟨r0, r1, h0, _, h1, h2⟩ := needTable_both2 m
  exact ⟨r0, r1, h0, h1, h2⟩
end Go.Proofs.Ythpnkeecpaflfaa
