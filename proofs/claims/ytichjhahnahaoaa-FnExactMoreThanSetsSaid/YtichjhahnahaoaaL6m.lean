/- LessTable: both. -/
import Derived.Test.YtichjhahnahaoaaL6l
import Derived.Test.YtichjhahnahaoaaUpd
import Derived.Deep.CutRange
namespace Go.Proofs.Ytichjhahnahaoaa
open Go.RowKit Go.ChangeShapes Go.WideShapes Go.Maps
set_option linter.unusedVariables false

/-- The less-need of so many numbers without false answers. -/
def ltN (m i : Nat) : Int := (needL m (List.replicate (i + 1) 0) : Int)
def ltU (m k : Nat) : List Int := (List.range k).map (ltN m)
theorem ltU_len (m k : Nat) : (ltU m k).length = k := by simp [ltU]
theorem ltU_snoc (m k : Nat) : ltU m (k + 1) = ltU m k ++ [ltN m k] := by simp [ltU, List.range_succ]
theorem zeros_short {m n : Nat} (hm : m ≤ 1) (h1 : 1 ≤ n) (h5 : n ≤ 5) : Short m (List.replicate n 0) :=
  ⟨hm, by rw [List.length_replicate]; exact h1, by rw [List.length_replicate]; exact h5, fun z hz => by rw [(List.mem_replicate.1 hz).2]; omega⟩
theorem makeTab6 (m : Nat) (w : World) : (Instr.makeSlice 25 (.int .i64 5) (.int .i64 5)).run Try.prog w = .ok (.slice (some ⟨w.heap.size, 0, none⟩) 5 5) (w.alloc (.cells ((upd (ltN m) 5 0).map (Value.int .i64)).toArray 3)) := by
  rw [upd_zero]
  simpa using makeInts 5 (by omega) w
theorem row_res6 {w : World} {l : List Int} {lo g : Nat} (h : lo ≤ g) (hr : w.heap[g]? = some (.cells (l.map (Value.int .i64)).toArray 3 (0, 0))) : Res w lo w.heap.size (some ⟨g, 0, none⟩) l :=
  ⟨.inr ⟨g, _, rfl, h, row_ltI hr, hr, by simp, fun j x hx => by simp [hx]⟩, Nat.le_refl _⟩
theorem own_ans6 {w w' : World} {v : Value} {zs : List Int} {b : Bool} {e : Ending} (he : e = .returned (.tuple #[v, .bool b])) (ho : w'.ownsRow w.heap.size 3 1 v zs.length (zs.map (Value.int .i64))) (hb : Below w.heap.size w w') :
    ∃ B c', e = .returned (.tuple #[.slice B zs.length c', .bool b]) ∧ Res w' w.heap.size w'.heap.size B zs ∧ Below w.heap.size w w' := by
  obtain ⟨A, c, rfl, _, hr⟩ := own_res ho rfl
  exact ⟨A, c, he, hr, hb⟩
set_option maxRecDepth 100000 in
set_option maxHeartbeats 4000000 in
theorem lessTable_impl (m : Nat) (w1 : World) (hm : m ≤ 1) :
    Calls Try.prog 26 #[.int .i64 (m : Int)] w1 fun e w' => ∃ B c', e = .returned (.tuple #[.slice B (ltU m 5).length c', .bool true]) ∧ Res w' w1.heap.size w'.heap.size B (ltU m 5) ∧ Below w1.heap.size w1 w' := by
  have hmk := makeLPlans
  have hms := makeTab6 m
  have HMa := Lib.hid LPlanM.made
  have hmI : ¬ ((m : Int) < 0) := by omega
  have hmI2 : ¬ (1 < (m : Int)) := by omega
  go_enter Try.func26, Try.ntmps26
  go_upto_region 3 with fail
  generalize hRW : ((upd (ltN m) 5 0).map (Value.int .i64)).toArray = RW at hms
  have HRW := Lib.hid hRW
  clear hRW
  go_cut [4, 5] from 16 to 17 (fun p4 p5 wx => ∃ (M g : Nat), p4 = .map (some M) ∧ p5 = .slice (some ⟨g, 0, none⟩) 5 5 ∧ Hid (LPlanM wx M) ∧ Hid (wx.heap[g]? = some (.cells RW 3 (0, 0))) ∧ Hid (Below w1.heap.size w1 wx) ∧ w1.heap.size ≤ g ∧ w1.heap.size ≤ M ∧ M ≠ g)
  case first =>
    go_region_with fail
    all_goals
      go_wp2_with fail
      go_meet
      first
        | exact ⟨w1.heap.size, w1.heap.size + 1, rfl, rfl, Lib.hid ((HMa.out w1).step ((Below.refl _ _).alloc (Nat.le_refl _) _).drew), Lib.hid (alloc_row' (w1.alloc (.map #[] 0)) RW 3 _ (by simp)), Lib.hid ((((Below.refl _ w1).alloc (Nat.le_refl _) (.map #[] 0)).alloc (by simp) (.cells RW 3)).drew), by omega, by omega, by omega⟩
        | exact ⟨w1.heap.size + 1, w1.heap.size, rfl, rfl, Lib.hid (LPlanM.heap (w := (w1.alloc (.cells RW 3)).alloc (.map #[] 0)) (by have := HMa.out (w1.alloc (.cells RW 3)); rw [show (w1.alloc (.cells RW 3)).heap.size = w1.heap.size + 1 from by simp] at this; exact this) rfl), Lib.hid ((((Below.refl _ (w1.alloc (.cells RW 3))).alloc (Nat.le_refl _) (.map #[] 0)).block w1.heap.size (by simp)).trans (alloc_row' w1 RW 3 _ rfl)), Lib.hid ((((Below.refl _ w1).alloc (Nat.le_refl _) (.cells RW 3)).alloc (by simp) (.map #[] 0)).drew), by omega, by omega, by omega⟩
  case rest =>
    obtain ⟨M, g, rfl, rfl, HM, HR, HB, hg, hM, hne⟩ := hcut
    rename World => w2
    rw [← HRW.out] at HR
    have hfd := field_lp
    clear HRW hms hmk HMa
    go_wp2_with fail
    go_loopw [20] (fun i wr => ∃ (k : Nat), k ≤ 5 ∧ i = .int .i64 (k : Int) ∧ Hid (wr.heap[g]? = some (.cells ((upd (ltN m) 5 k).map (Value.int .i64)).toArray 3 (0, 0))) ∧ Hid (LPlanM wr M) ∧ Hid (Below w1.heap.size w1 wr)) (fun i _ => 5 - (intOf i).toNat)
    case atStart => exact ⟨0, by omega, rfl, HR, HM, HB⟩
    case round =>
      clear HR HM HB
      obtain ⟨k, hk, rfl, HR, HM, HB⟩ := hrel
      rename World => w3
      by_cases hlt : k < 5
      · have HFk := fun W => startState_impl (k + 1) (m : Int) W (by omega) (by omega) (inB_t (by omega) (by omega))
        rw [show ((k + 1 : Nat) : Int) = (k : Int) + 1 from by omega] at HFk
        have HFk := Lib.hid HFk
        have hsz : Short m (List.replicate (k + 1) 0) := zeros_short hm (by omega) (by omega)
        have HPk := fun gq cq W Bq h1 h2 h3 => planOf6_any m (List.replicate (k + 1) 0) hsz (some ⟨gq, 0, none⟩) cq gq (gq + 1) W Bq h1 h2 h3
        rw [List.length_replicate] at HPk
        have HPk := Lib.hid HPk
        have HNe : Hid (((planS m (List.replicate (k + 1) 0)).1 : Int) = ltN m k) := Lib.hid (by rw [need_plan hsz]; rfl)
        have hbd : 0 ≤ ltN m k ∧ ltN m k ≤ 9 := by
          have := needS_le hsz
          unfold ltN
          omega
        have hrow := HR.out
        have hcell := getD_cell hrow (i := k) (by rw [upd_len]; exact hlt)
        have HF := Lib.hid (upd_set (ltN m) 5 k)
        have HSh := Lib.hid hsz
        clear hsz
        have hMl := HM.out.lt
        have hgl := row_ltI hrow
        have hsB := HB.out.size
        unfold lpV at HPk
        generalize planS m (List.replicate (k + 1) 0) = pl at HPk HNe
        obtain ⟨a, b⟩ := pl
        simp only at HPk HNe
        generalize (upd (ltN m) 5 k).getD k 0 = z at hcell
        go_wp2_with fail
        refine (HFk.out w3).mono ?_
        rintro e w4 ⟨g7, rfl, hg7, hr7, hb4⟩
        have HO7 := Lib.hid (own_insB (zeros6_own hr7))
        have HM4 := Lib.hid (HM.out.step hb4)
        have HB4 := Lib.hid (below_trans HB.out hb4)
        have hrow4 := (hb4.block g hgl).trans hrow
        have hcell4 := (hb4.cell (p := ⟨g, k, none⟩) hgl).trans hcell
        have hs4 := hb4.size
        clear hb4 hcell hrow HM HB HR HFk hr7
        have hbx := (Below.refl w4.heap.size w4).alloc (Nat.le_refl _) (.cells #[.slice (some ⟨g7, 0, none⟩) (k + 1) (k + 1), .int .i64 (m : Int)] 30)
        replace HO7 := Lib.hid (HO7.out.step hbx)
        replace HM4 := Lib.hid (HM4.out.step hbx)
        replace HB4 := Lib.hid (below_trans HB4.out hbx)
        have hgl4 : g < w4.heap.size := by omega
        replace hrow4 := (hbx.block g hgl4).trans hrow4
        replace hcell4 := (hbx.cell (p := ⟨g, k, none⟩) hgl4).trans hcell4
        have hs45 := hbx.size
        clear hbx
        go_wp2_with fail
        generalize w4.alloc (.cells #[.slice (some ⟨g7, 0, none⟩) (k + 1) (k + 1), .int .i64 (m : Int)] 30) = w5 at HO7 HM4 HB4 hrow4 hcell4 hs45 ⊢
        refine (HPk.out g7 (k + 1) w5 M HM4.out HO7.out (.inr (by omega))).mono ?_
        rintro e w6 ⟨rfl, hpm5, hw5⟩
        have HM5 := Lib.hid hpm5
        have HB5 := Lib.hid (HB4.out.trans (hw5.below hM HB4.out.size))
        have hrow5 := (hw5.block g (by omega) (by omega)).trans hrow4
        have hcell5 := (World.cell?_of_block (a := ⟨g, k, none⟩) (hw5.block g (by omega) (by omega))).trans hcell4
        have hs5 := hw5.size
        clear hpm5 hw5 hrow4 hcell4 HM4 HB4 HPk
        rw [HNe.out]
        generalize ltN m k = x at HF hbd ⊢
        have hfr := row_freeI hrow5 k
        have HR6 := Lib.hid (row_setI hrow5 k (.int .i64 x))
        rw [map_set, HF.out] at HR6
        have hws := within_set (Within.refl g (g + 1) w6) (g := g) (Nat.le_refl _) (by omega) k (.int .i64 x)
        have HM6 := Lib.hid (HM5.out.heap (hws.block M HM5.out.lt (by omega)))
        have HB6 := Lib.hid (HB5.out.trans (hws.below hg HB5.out.size))
        clear hws hrow5 HF
        go_wp2
        go_roundw
        case rel => exact ⟨k + 1, by omega, by go_num, HR6, HM6, HB6⟩
        case measure => simp [intOf]; omega
      · obtain rfl : k = 5 := by omega
        rw [upd_all] at HR
        have HRes := Lib.hid (row_res6 hg HR.out)
        go_wp2
        go_ret2
        exact ⟨_, 5, rfl, HRes.out, HB.out⟩
set_option maxRecDepth 100000 in
set_option maxHeartbeats 4000000 in
theorem lessTable_spec (m : Nat) (w : World) (hm : m ≤ 1) :
    Calls Try.prog 25 #[.int .i64 (m : Int)] w fun e w' => ∃ B c', e = .returned (.tuple #[.slice B (ltU m 5).length c', .bool true]) ∧ Res w' w.heap.size w'.heap.size B (ltU m 5) ∧ Below w.heap.size w w' := by
  obtain ⟨i0, hi0, hz0, hz1, hz2⟩ := info_parts infoI3
  have HC := Lib.hid (fun W => l1In_any (m : Int) 0 1 W)
  rw [inB_t (by omega) (by omega)] at HC
  have O0 := Lib.hid (O0_any w w.heap.size (Nat.le_refl _))
  have HB0 := Lib.hid ((Below.refl w.heap.size w).alloc (Nat.le_refl _) (.cells #[] 3))
  go_enter Try.func25, Try.ntmps25
  go_wp2_with fail
  generalize w.alloc (.cells #[] 3) = w0 at O0 HB0 ⊢
  generalize (Value.slice (some ⟨w.heap.size, 0, none⟩) 0 0) = v0 at O0 ⊢
  refine (HC.out w0).mono ?_
  rintro e w1 ⟨rfl, hww⟩
  have hww := hww.symm
  subst hww
  clear HC
  go_wp2_with fail
  go_loopw [4, 5] (fun v i wr => ∃ (k : Nat), k ≤ 5 ∧ i = .int .i64 ((k : Int) + 1) ∧ Hid (wr.ownsRow w.heap.size 3 1 v (ltU m k).length ((ltU m k).map (Value.int .i64))) ∧ Hid (Below w.heap.size w wr)) (fun _ i _ => 7 - (intOf i).toNat)
  case atStart => exact ⟨0, by omega, rfl, O0, HB0⟩
  case round =>
    clear O0 HB0
    obtain ⟨k, hk, rfl, HO, HB⟩ := hrel
    rename World => wr
    have hul := ltU_len m k
    by_cases hlt : k < 5
    · have HNd := fun W => l6Needs_any (k + 1) m W hm (by omega) (by omega)
      have HSt := fun W => l2Start_any (k + 1) (m : Int) W (by omega)
      have hsz : Short m (List.replicate (k + 1) 0) := zeros_short hm (by omega) (by omega)
      have HKy := fun gq cq W h => l6Key_any (some ⟨gq, 0, none⟩) cq gq (gq + 1) (List.replicate (k + 1) 0) m W h hsz
      have hky := keyTo_lt hsz.fit
      have HNC := fun W gq h => needs_cell (w := W) (g := gq) h hsz
      rw [List.length_replicate] at HKy hky HNC
      rw [show ((k + 1 : Nat) : Int) = (k : Int) + 1 from by omega] at HNd HSt
      have HNd := Lib.hid HNd
      have HSt := Lib.hid HSt
      have HKy := Lib.hid HKy
      have HNC := Lib.hid HNC
      have hpw := pow_top hm (show 1 ≤ k + 1 by omega) (by omega)
      have HLe : Hid (ltU m (k + 1) = ltU m k ++ [(needL m (List.replicate (k + 1) 0) : Int)]) := Lib.hid (ltU_snoc m k)
      have hbd := needS_le hsz
      have hsB := HB.out.size
      clear hsz
      generalize keyS m (List.replicate (k + 1) 0) = ky at HKy hky HNC
      generalize needL m (List.replicate (k + 1) 0) = nl at HNC HLe hbd
      have hkyI : (ky : Int) < (((m + 2) ^ (k + 1) : Nat) : Int) := by omega
      generalize (m + 2) ^ (k + 1) = top at HNd hky hpw hkyI
      generalize ltU m k = F at HO hul HLe
      go_wp2_with fail
      refine (HNd.out wr).mono ?_
      rintro e w2 ⟨g2, c2, rfl, hg2, ho2, hb2⟩
      have HN2 := Lib.hid ho2
      replace HO := Lib.hid (ownsRow_past6 HO.out (Past.of_below hb2))
      replace HB := Lib.hid (below_trans HB.out hb2)
      clear ho2 hb2 HNd
      go_wp2_with fail
      refine (HSt.out w2).mono ?_
      rintro e w3 ⟨g3, rfl, hg3, hr3, hb3⟩
      have HI3 := Lib.hid (own_insB (zeros6_own hr3))
      replace HN2 := Lib.hid (own_same HN2.out (hb3.block _ (own_lt HN2.out)))
      replace HO := Lib.hid (ownsRow_past6 HO.out (Past.of_below hb3))
      replace HB := Lib.hid (below_trans HB.out hb3)
      clear hr3 hb3 HSt
      go_wp2_with fail
      refine (HKy.out g3 (k + 1) w3 HI3.out).mono ?_
      rintro e w4 ⟨rfl, hb4⟩
      replace HN2 := Lib.hid (own_same HN2.out (hb4.block _ (own_lt HN2.out)))
      replace HO := Lib.hid (ownsRow_past6 HO.out (Past.of_below hb4))
      replace HB := Lib.hid (below_trans HB.out hb4)
      clear hb4 HKy HI3
      have hcy := HNC.out w4 g2 HN2.out
      have hsB4 := HB.out.size
      have hown := HO.out
      go_wp2_with (at_builtin; refine wpList_append_own _ rfl (.tmp 15) (.tmp 25) 25 rfl w.heap.size 3 i0 (.int .i64 0) 1 8 Try.underlying25 hi0 hz0 hz1 hz2 rfl (by decide) _ _ _ rfl (hown.alloc _) ⟨w4.heap.size, 0, none⟩ 1 1 [.int .i64 (nl : Int)] rfl rfl (cell_one_new _ _ _) (by simp [Value.oneCell']) (by unfold maxLen; omega) (by omega) (by simp; omega) ?_; intro v' w9 hown' hgrow _)
      have HO2 := Lib.hid (own_snocI hown' rfl)
      have HB2 := Lib.hid (HB.out.trans ((Past.grown hown hgrow).below (Nat.le_refl _) hsB4))
      clear hown' hgrow hown HO
      go_wp2
      go_roundw
      case rel => exact ⟨k + 1, by omega, by simp, Lib.hid (by rw [HLe.out]; exact HO2.out), HB2⟩
      case measure => simp [intOf]; omega
    · obtain rfl : k = 5 := by omega
      go_wp2
      go_ret2
      exact own_ans6 rfl HO.out HB.out
theorem lessTable_both (m : Int) : ∃ (r0 : List Int) (r1 : Bool), r0.length ≤ 1048576 ∧
    (∀ (w : World), Calls Try.prog 26 #[.int .i64 m] w fun e w' => ∃ B c', e = .returned (.tuple #[.slice B r0.length c', .bool r1]) ∧ Res w' w.heap.size w'.heap.size B r0 ∧ Below w.heap.size w w') ∧
    (∀ (w : World), Calls Try.prog 25 #[.int .i64 m] w fun e w' => ∃ B c', e = .returned (.tuple #[.slice B r0.length c', .bool r1]) ∧ Res w' w.heap.size w'.heap.size B r0 ∧ Below w.heap.size w w') := by
  by_cases h : 0 ≤ m ∧ m ≤ 1
  · obtain ⟨a, rfl⟩ : ∃ a : Nat, m = (a : Int) := ⟨m.toNat, by omega⟩
    exact ⟨ltU a 5, true, by rw [ltU_len]; omega, fun w => lessTable_impl a w (by omega), fun w => lessTable_spec a w (by omega)⟩
  · have hF : inB m 0 1 = false := by
      cases h2 : inB m 0 1 with
      | false => rfl
      | true => exact absurd (inB_iff.1 h2) h
    have HF := Lib.hid (fun W => l1In_any m 0 1 W)
    rw [hF] at HF
    refine ⟨[], false, by simp, fun w => ?_, fun w => ?_⟩
    · by_cases h0 : m < 0
      · go_enter Try.func26, Try.ntmps26
        go_wp2
        go_ret2
        exact ⟨_, 0, rfl, empty_res _ _ (Nat.le_refl _), (Below.refl _ _).alloc (Nat.le_refl _) _⟩
      · have h1 : 1 < m := by omega
        have HH : ∀ w : World, Calls Try.prog 26 #[.int .i64 m] w fun e w' => Hid (∃ B c', e = .returned (.tuple #[.slice B ([] : List Int).length c', .bool false]) ∧ Res w' w.heap.size w'.heap.size B [] ∧ Below w.heap.size w w') := fun w => by
          clear h hF HF
          go_enter Try.func26, Try.ntmps26
          go_wp2
          go_ret2
          first | exact Lib.hid ⟨_, 0, rfl, empty_res _ _ (Nat.le_refl _), (Below.refl _ _).alloc (Nat.le_refl _) _⟩ | exact Lib.hid ⟨_, ⟨0, rfl⟩, empty_res _ _ (Nat.le_refl _), (Below.refl _ _).alloc (Nat.le_refl _) _⟩
        exact (HH w).mono fun e w' h => h.out
    · clear h hF
      go_enter Try.func25, Try.ntmps25
      go_wp2_with fail
      refine (HF.out _).mono ?_
      rintro e w1 ⟨rfl, hww⟩
      have hww := hww.symm
      subst hww
      go_wp2
      go_ret2
      first | exact ⟨_, 0, rfl, empty_res _ _ (Nat.le_refl _), (Below.refl _ _).alloc (Nat.le_refl _) _⟩ | exact ⟨_, ⟨0, rfl⟩, empty_res _ _ (Nat.le_refl _), (Below.refl _ _).alloc (Nat.le_refl _) _⟩
end Go.Proofs.Ytichjhahnahaoaa
