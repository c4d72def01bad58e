/- QuestionNeed: both. -/
import Derived.Test.YthpnkeecpaflfaaOf4
import Derived.Test.YthpnkeecpaflfaaSplB
import Derived.Test.YthpnkeecpaflfaaNTab
import Derived.Test.YthpnkeecpaflfaaTold
namespace Go.Proofs.Ythpnkeecpaflfaa
open Go.RowKit Go.ChangeShapes Go.WideShapes
set_option linter.unusedVariables false

theorem sum_lst {p : Nat} {r : Row} (hw : Wide p r) : sumI (lstR p r) = ((rsum r : Nat) : Int) := by
  obtain ⟨a, b, c⟩ := r
  rcases hw with ⟨h1, h2, h3⟩ | ⟨h1, h2⟩ | h1
  · simp only at h2 h3
    subst h1 h2 h3
    simp [lstR, sumI, rsum]
  · simp only at h2
    subst h1 h2
    simp [lstR, sumI, rsum]
  · subst h1
    simp [lstR, sumI, rsum]
    omega
theorem cs_sum {zs : List Int} {M : Nat} (hst : isSt zs (M : Int) = true) : sumI (cntTo zs (M + 1) zs.length) = ((opens zs).length : Int) :=
  cnt_sum zs (M + 1) (fun k hk => by have := isSt_at hst hk; omega) zs.length (Nat.le_refl _)
theorem cs_ok {zs : List Int} {M : Nat} (hst : isSt zs (M : Int) = true) (h8 : (opens zs).length ≤ 8) : cOK (cntTo zs (M + 1) zs.length) = true := by
  have hl := isSt_len hst
  have hs := cs_sum hst
  simp only [cOK, Bool.and_eq_true, decide_eq_true_eq, List.all_eq_true, cntTo_len]
  exact ⟨⟨⟨by omega, by omega⟩, fun x hx => (cntTo_bd zs (M + 1) zs.length x hx).1⟩, by omega⟩
/-- With too few or too many open numbers there is no need of a split. -/
theorem sn_out {zs : List Int} {M : Nat} {q : Int} (hst : isSt zs (M : Int) = true) (h : (opens zs).length < 2 ∨ 8 < (opens zs).length) : snOK (cntTo zs (M + 1) zs.length) (selTo zs q (M + 1) zs.length) = false := by
  have hs := cs_sum hst
  cases hc : cOK (cntTo zs (M + 1) zs.length) with
  | false => unfold snOK; rw [hc]; rfl
  | true =>
    obtain ⟨r, hr, hw, h8⟩ := cOK_row hc
    have e := sum_lst hw
    rw [← hr] at e
    have h1 : rsum r ≤ 1 := by
      rcases h with h | h
      · omega
      · omega
    unfold snOK
    rw [rowL_eq hr hw, decide_eq_true h1]
    simp
set_option maxRecDepth 100000 in
set_option maxHeartbeats 2000000 in
theorem questionNeed_impl (A : Option Addr) (c lo hi : Nat) (zs : List Int) (M : Nat) (q : Int) (w : World) (hS : Ins w lo hi A zs) (hst : isSt zs (M : Int) = true) (hq : qOK zs.length q = true) :
    Calls Try.prog 9 #[.agg #[.slice A zs.length c, .int .i64 (M : Int)], .int .i64 q] w fun e w' => e = .returned (.tuple #[.int .i64 (if snOK (cntTo zs (M + 1) zs.length) (selTo zs q (M + 1) zs.length) then ((valR (rowL (cntTo zs (M + 1) zs.length)) (rowL (selTo zs q (M + 1) zs.length)) : Nat) : Int) else 0), .bool (snOK (cntTo zs (M + 1) zs.length) (selTo zs q (M + 1) zs.length))]) ∧ Below w.heap.size w w' := by
  have hl := isSt_len hst
  have HX0 := Lib.hid (Arg.next (Below.refl w.heap.size w) (.slice A zs.length c) (.int .i64 (M : Int)) 26 w.heap.size rfl)
  have HI0 := Lib.hid (hS.step HX0.out.below)
  have HC := Lib.hid (fun W h => countsOf_impl A c lo hi zs M W h hst)
  have HQ := Lib.hid (fun W => isQuestion_any (zs.length : Int) q W)
  rw [hq] at HQ
  have HSp := Lib.hid (fun W h => splitBy_any A c lo hi zs M q W h hst)
  have HN := Lib.hid (fun A1 c1 lo1 hi1 A2 c2 lo2 hi2 W h h2 => splitNeed_impl A1 c1 lo1 hi1 (cntTo zs (M + 1) zs.length) A2 c2 lo2 hi2 (selTo zs q (M + 1) zs.length) W h h2 (by rw [cntTo_len]; omega) (by rw [selTo_len]; omega))
  rw [cntTo_len, selTo_len] at HN
  have h0c := HX0.out.c0
  have h1c := HX0.out.c1
  clear hS hst hq
  generalize cntTo zs (M + 1) zs.length = cs at HC HN ⊢
  generalize selTo zs q (M + 1) zs.length = ss at HSp HN ⊢
  generalize snOK cs ss = bn at HN ⊢
  generalize (if bn = true then ((valR (rowL cs) (rowL ss) : Nat) : Int) else 0) = vn at HN ⊢
  go_enter Try.func9, Try.ntmps9
  go_wp2_with fail
  generalize w.alloc (.cells #[.slice A zs.length c, .int .i64 (M : Int)] 26) = wa at HX0 HI0 h0c h1c ⊢
  refine (HC.out wa HI0.out).mono ?_
  rintro e wb ⟨g, rfl, hg, hr, hb⟩
  have HX := Lib.hid (HX0.out.step hb)
  have HI := Lib.hid (HI0.out.step hb)
  have HR := Lib.hid hr
  clear hb hr HX0 HI0 HC h0c h1c
  have h0 := HX.out.c0
  have h1 := HX.out.c1
  go_wp2_with fail
  refine (HQ.out wb).mono ?_
  rintro e wc ⟨rfl, rfl⟩
  clear HQ
  go_wp2_with fail
  refine (HSp.out wc HI.out).mono ?_
  rintro e wd ⟨g2, rfl, hg2, hr2, hb2⟩
  have HI1 := Lib.hid (row_res4 (Nat.zero_le _) ((hb2.block g (row_ltI HR.out)).trans HR.out)).ins
  have HI2 := Lib.hid (row_res4 (Nat.zero_le _) hr2).ins
  have HB := Lib.hid (below_trans HX.out.below hb2)
  clear hr2 hb2 h0 h1 HX HR HSp HI
  go_wp2_with fail
  refine (HN.out _ _ _ _ _ _ _ _ wd HI1.out HI2.out).mono ?_
  rintro e we ⟨rfl, hb3⟩
  have HB3 := Lib.hid (below_trans HB.out hb3)
  clear hb3
  go_wp2
  go_ret2
  exact ⟨rfl, HB3.out⟩
set_option maxRecDepth 100000 in
set_option maxHeartbeats 2000000 in
theorem questionNeed_spec (A : Option Addr) (c lo hi : Nat) (zs : List Int) (M : Nat) (q : Int) (w : World) (hS : Ins w lo hi A zs) (hst : isSt zs (M : Int) = true) (hq : qOK zs.length q = true) :
    Calls Try.prog 10 #[.agg #[.slice A zs.length c, .int .i64 (M : Int)], .int .i64 q] w fun e w' => e = .returned (.tuple #[.int .i64 (if snOK (cntTo zs (M + 1) zs.length) (selTo zs q (M + 1) zs.length) then ((valR (rowL (cntTo zs (M + 1) zs.length)) (rowL (selTo zs q (M + 1) zs.length)) : Nat) : Int) else 0), .bool (snOK (cntTo zs (M + 1) zs.length) (selTo zs q (M + 1) zs.length))]) ∧ Below w.heap.size w w' := by
  have hl := isSt_len hst
  have HX0 := Lib.hid (Arg.next (Below.refl w.heap.size w) (.slice A zs.length c) (.int .i64 (M : Int)) 26 w.heap.size rfl)
  have HI0 := Lib.hid (hS.step HX0.out.below)
  have HC := Lib.hid (fun W h => l2State_any A c lo hi zs (M : Int) W h (by omega))
  rw [hst] at HC
  have HQ := Lib.hid (fun W => l2Question_any A zs.length c (M : Int) q W)
  rw [hq] at HQ
  have HO := Lib.hid (fun W h => l2Open_any A c lo hi zs (M : Int) W h hl.2.1)
  have h0c := HX0.out.c0
  have h1c := HX0.out.c1
  have HIn := Lib.hid (fun W => l1In_any ((opens zs).length : Int) 2 8 W)
  clear hS
  by_cases hrg : 2 ≤ (opens zs).length ∧ (opens zs).length ≤ 8
  · rw [inB_t (by omega) (by omega)] at HIn
    have hck := cs_ok hst hrg.2
    have hsum := cs_sum hst
    have HCn := Lib.hid (fun W h => l2Counts_any A c lo hi zs M W h hst)
    have HOf := Lib.hid (fun W h => l4Of_any A c lo hi zs M q W h hst)
    obtain ⟨r, hr, hw, h8⟩ := cOK_row hck
    rw [cntTo_len] at hr hw
    have hfit := sel_fit zs q (M + 1) zs.length
    have hsn : snOK (cntTo zs (M + 1) zs.length) (selTo zs q (M + 1) zs.length) = !(backR (rowL (cntTo zs (M + 1) zs.length)) (rowL (selTo zs q (M + 1) zs.length))) := by
      have h2 : ¬ rsum (rowL (cntTo zs (M + 1) zs.length)) ≤ 1 := by
        have e := sum_lst hw
        rw [← hr, hsum] at e
        rw [rowL_eq hr hw]
        omega
      unfold snOK
      rw [hck, hfit, decide_eq_false h2]
      simp
    rw [hr] at hfit
    obtain ⟨s, hs, hws, hfs⟩ := fit_row hw hfit
    rw [hsn, rowL_eq hr hw, rowL_eq hs hws]
    rw [hr] at HCn
    rw [hs] at HOf
    have HNs := Lib.hid (fun W => l4Needs_any (M + 1) W (by omega))
    have HSn := Lib.hid (fun A1 c1 lo1 hi1 A2 c2 lo2 hi2 A3 c3 lo3 hi3 W h h3 h2 => l4SplitNeed_any A1 c1 lo1 hi1 A2 c2 lo2 hi2 A3 c3 lo3 hi3 (M + 1) r s W h h3 h2 hw h8 hfs)
    have hsv : (backR r s = true ∧ snR r s = -1) ∨ (backR r s = false ∧ snR r s = ((valR r s : Nat) : Int)) := by
      unfold snR
      cases backR r s
      · exact .inr ⟨rfl, rfl⟩
      · exact .inl ⟨rfl, rfl⟩
    clear hr hs hck hsum hfit hsn hst hq hw hws hfs h8
    generalize backR r s = bk at hsv ⊢
    generalize snR r s = sv at hsv HSn
    generalize hvr : ((valR r s : Nat) : Int) = vr at hsv ⊢
    have hv0 : 0 ≤ vr := by omega
    clear hvr
    go_enter Try.func10, Try.ntmps10
    go_wp2_with fail
    generalize w.alloc (.cells #[.slice A zs.length c, .int .i64 (M : Int)] 26) = wa at HX0 HI0 h0c h1c ⊢
    refine (HC.out wa HI0.out).mono ?_
    rintro e wb ⟨rfl, hb⟩
    have HX := Lib.hid (HX0.out.step hb)
    have HI := Lib.hid (HI0.out.step hb)
    clear hb HX0 HI0 HC h0c h1c
    have h0 := HX.out.c0
    have h1 := HX.out.c1
    go_wp2_with fail
    refine (HQ.out wb).mono ?_
    rintro e wc ⟨rfl, hb⟩
    have HX2 := Lib.hid (HX.out.step hb)
    have HI2 := Lib.hid (HI.out.step hb)
    clear hb HX HI HQ h0 h1
    have h0 := HX2.out.c0
    have h1 := HX2.out.c1
    go_wp2_with fail
    refine (HO.out wc HI2.out).mono ?_
    rintro e wd ⟨v, rfl, ho, hb⟩
    obtain ⟨Ao, co, rfl, _, _⟩ := own_res ho rfl
    have HX := Lib.hid (HX2.out.step hb)
    have HI := Lib.hid (HI2.out.step hb)
    clear ho hb HX2 HI2 HO h0 h1
    have h0 := HX.out.c0
    have h1 := HX.out.c1
    go_wp2_with fail
    refine (HIn.out wd).mono ?_
    rintro e we ⟨rfl, rfl⟩
    clear HIn
    go_wp2_with fail
    refine (HCn.out we HI.out).mono ?_
    rintro e wf ⟨g, rfl, hg, hr, hb⟩
    have HX2 := Lib.hid (HX.out.step hb)
    have HI2 := Lib.hid (HI.out.step hb)
    have HR := Lib.hid hr
    clear hb hr HX HI HCn h0 h1
    have h0 := HX2.out.c0
    have h1 := HX2.out.c1
    go_wp2_with fail
    refine (HOf.out wf HI2.out).mono ?_
    rintro e wg ⟨g2, rfl, hg2, hr2, hb⟩
    have HB := Lib.hid (below_trans HX2.out.below hb)
    have HR1 := Lib.hid ((hb.block g (row_ltI HR.out)).trans HR.out)
    have HR2 := Lib.hid hr2
    clear hb hr2 HX2 HI2 HR HOf h0 h1
    go_wp2_with fail
    refine (HNs.out wg).mono ?_
    rintro e wh ⟨g3, c3, rfl, hg3, ho3, hb⟩
    have HB2 := Lib.hid (below_trans HB.out hb)
    have HI1 := Lib.hid (row_res4 (Nat.zero_le _) ((hb.block g (row_ltI HR1.out)).trans HR1.out)).ins
    have HI2 := Lib.hid (row_res4 (Nat.zero_le _) ((hb.block g2 (row_ltI HR2.out)).trans HR2.out)).ins
    have HI3 := Lib.hid (Ins.mk ho3.ints (own_lt ho3))
    clear hb ho3 HR1 HR2 HB HNs
    go_wp2_with fail
    refine (HSn.out _ _ _ _ _ _ _ _ _ _ _ _ wh HI1.out HI2.out HI3.out).mono ?_
    rintro e wi ⟨rfl, hb⟩
    have HB3 := Lib.hid (below_trans HB2.out hb)
    clear hb HI1 HI2 HI3 HB2 HSn
    have HM := Lib.hid (fun W => l1Most_any sv 0 W)
    rcases hsv with ⟨rfl, rfl⟩ | ⟨rfl, rfl⟩
    · go_wp2_with fail
      refine (HM.out wi).mono ?_
      rintro e wj ⟨rfl, rfl⟩
      go_wp2
      go_ret2
      exact ⟨rfl, HB3.out⟩
    · rw [if_pos hv0] at HM
      go_wp2_with fail
      refine (HM.out wi).mono ?_
      rintro e wj ⟨rfl, rfl⟩
      go_wp2
      go_ret2
      exact ⟨rfl, HB3.out⟩
  · rw [sn_out hst (by omega)]
    have hin : inB ((opens zs).length : Int) 2 8 = false := by
      cases h : inB ((opens zs).length : Int) 2 8
      · rfl
      · have := inB_iff.1 h
        omega
    rw [hin] at HIn
    clear hin hrg hst hq
    go_enter Try.func10, Try.ntmps10
    go_wp2_with fail
    generalize w.alloc (.cells #[.slice A zs.length c, .int .i64 (M : Int)] 26) = wa at HX0 HI0 h0c h1c ⊢
    refine (HC.out wa HI0.out).mono ?_
    rintro e wb ⟨rfl, hb⟩
    have HX := Lib.hid (HX0.out.step hb)
    have HI := Lib.hid (HI0.out.step hb)
    clear hb HX0 HI0 HC h0c h1c
    have h0 := HX.out.c0
    have h1 := HX.out.c1
    go_wp2_with fail
    refine (HQ.out wb).mono ?_
    rintro e wc ⟨rfl, hb⟩
    have HX2 := Lib.hid (HX.out.step hb)
    have HI2 := Lib.hid (HI.out.step hb)
    clear hb HX HI HQ h0 h1
    have h0 := HX2.out.c0
    have h1 := HX2.out.c1
    go_wp2_with fail
    refine (HO.out wc HI2.out).mono ?_
    rintro e wd ⟨v, rfl, ho, hb⟩
    obtain ⟨Ao, co, rfl, _, _⟩ := own_res ho rfl
    have HX := Lib.hid (HX2.out.step hb)
    clear ho hb HX2 HI2 HO h0 h1
    go_wp2_with fail
    refine (HIn.out wd).mono ?_
    rintro e we ⟨rfl, rfl⟩
    clear HIn
    go_wp2
    go_ret2
    exact ⟨rfl, HX.out.below⟩
theorem countsOf_no (A : Option Addr) (c lo hi : Nat) (zs : List Int) (m : Int) (w : World) (hS : Ins w lo hi A zs) (h : zs.length ≤ 1048576) (hst : isSt zs m = false) :
    Calls Try.prog 18 #[.agg #[.slice A zs.length c, .int .i64 m]] w fun e w' => ∃ B c', e = .returned (.tuple #[.slice B 0 c', .bool false]) ∧ Below w.heap.size w w' := by
  have HX0 := Lib.hid (Arg.next (Below.refl w.heap.size w) (.slice A zs.length c) (.int .i64 m) 26 w.heap.size rfl)
  have HI0 := Lib.hid (hS.step HX0.out.below)
  have HC := Lib.hid (fun W h' => isState_impl A c lo hi zs m W h' h)
  rw [hst] at HC
  clear hS hst
  go_enter Try.func18, Try.ntmps18
  go_wp2_with fail
  generalize w.alloc (.cells #[.slice A zs.length c, .int .i64 m] 26) = wa at HX0 HI0 ⊢
  refine (HC.out wa HI0.out).mono ?_
  rintro e wb ⟨rfl, hb⟩
  have HX := Lib.hid (HX0.out.step hb)
  clear hb HX0 HI0 HC
  go_wp2
  go_ret2
  exact ⟨_, 0, rfl, HX.out.below.alloc HX.out.below.size _⟩
set_option maxRecDepth 100000 in
set_option maxHeartbeats 2000000 in
/-- What QuestionNeed answers. -/
theorem questionNeed_both2 (zs : List Int) (m : Int) (h : zs.length ≤ 1048576) (q : Int) : ∃ (r0 : Int) (r1 : Bool), (r1 = true → ∃ M : Nat, m = (M : Int) ∧ isSt zs (M : Int) = true ∧ qOK zs.length q = true ∧ snOK (cntTo zs (M + 1) zs.length) (selTo zs q (M + 1) zs.length) = true ∧ r0 = ((valR (rowL (cntTo zs (M + 1) zs.length)) (rowL (selTo zs q (M + 1) zs.length)) : Nat) : Int)) ∧
    (∀ (w : World) (B : Option Addr) (c lo hi : Nat), Ins w lo hi B zs → Calls Try.prog 9 #[.agg #[.slice B zs.length c, .int .i64 m], .int .i64 q] w fun e w' => e = .returned (.tuple #[.int .i64 r0, .bool r1]) ∧ Below w.heap.size w w') ∧
    (∀ (w : World) (B : Option Addr) (c lo hi : Nat), Ins w lo hi B zs → Calls Try.prog 10 #[.agg #[.slice B zs.length c, .int .i64 m], .int .i64 q] w fun e w' => e = .returned (.tuple #[.int .i64 r0, .bool r1]) ∧ Below w.heap.size w w') := by
  cases hst : isSt zs m with
  | true =>
    have hl := isSt_len hst
    obtain ⟨M, rfl⟩ : ∃ M : Nat, m = (M : Int) := ⟨m.toNat, by omega⟩
    cases hq : qOK zs.length q with
    | true => exact ⟨_, _, fun h => ⟨M, rfl, hst, by first | exact hq | rfl, h, by rw [if_pos h]⟩, fun w B c lo hi hS => questionNeed_impl B c lo hi zs M q w hS hst hq, fun w B c lo hi hS => questionNeed_spec B c lo hi zs M q w hS hst hq⟩
    | false =>
      refine ⟨0, false, (fun h => by cases h), fun w A c lo hi hS => ?_, fun w A c lo hi hS => ?_⟩
      · have HX0 := Lib.hid (Arg.next (Below.refl w.heap.size w) (.slice A zs.length c) (.int .i64 (M : Int)) 26 w.heap.size rfl)
        have HI0 := Lib.hid (hS.step HX0.out.below)
        have HC := Lib.hid (fun W h => countsOf_impl A c lo hi zs M W h hst)
        have HQ := Lib.hid (fun W => isQuestion_any (zs.length : Int) q W)
        rw [hq] at HQ
        have h0c := HX0.out.c0
        have h1c := HX0.out.c1
        clear hS hst hq
        go_enter Try.func9, Try.ntmps9
        go_wp2_with fail
        generalize w.alloc (.cells #[.slice A zs.length c, .int .i64 (M : Int)] 26) = wa at HX0 HI0 h0c h1c ⊢
        refine (HC.out wa HI0.out).mono ?_
        rintro e wb ⟨g, rfl, hg, hr, hb⟩
        have HX := Lib.hid (HX0.out.step hb)
        clear hb hr HX0 HI0 HC h0c h1c
        have h0 := HX.out.c0
        have h1 := HX.out.c1
        go_wp2_with fail
        refine (HQ.out wb).mono ?_
        rintro e wc ⟨rfl, rfl⟩
        clear HQ
        go_wp2
        go_ret2
        exact ⟨rfl, HX.out.below⟩
      · have HX0 := Lib.hid (Arg.next (Below.refl w.heap.size w) (.slice A zs.length c) (.int .i64 (M : Int)) 26 w.heap.size rfl)
        have HI0 := Lib.hid (hS.step HX0.out.below)
        have HC := Lib.hid (fun W h => l2State_any A c lo hi zs (M : Int) W h (by omega))
        rw [hst] at HC
        have HQ := Lib.hid (fun W => l2Question_any A zs.length c (M : Int) q W)
        rw [hq] at HQ
        have h0c := HX0.out.c0
        have h1c := HX0.out.c1
        clear hS hst hq
        go_enter Try.func10, Try.ntmps10
        go_wp2_with fail
        generalize w.alloc (.cells #[.slice A zs.length c, .int .i64 (M : Int)] 26) = wa at HX0 HI0 h0c h1c ⊢
        refine (HC.out wa HI0.out).mono ?_
        rintro e wb ⟨rfl, hb⟩
        have HX := Lib.hid (HX0.out.step hb)
        clear hb HX0 HI0 HC h0c h1c
        have h0 := HX.out.c0
        have h1 := HX.out.c1
        go_wp2_with fail
        refine (HQ.out wb).mono ?_
        rintro e wc ⟨rfl, hb⟩
        have HX2 := Lib.hid (HX.out.step hb)
        clear hb HX HQ h0 h1
        go_wp2
        go_ret2
        exact ⟨rfl, HX2.out.below⟩
  | false =>
    refine ⟨0, false, (fun h => by cases h), fun w A c lo hi hS => ?_, fun w A c lo hi hS => ?_⟩
    · have HX0 := Lib.hid (Arg.next (Below.refl w.heap.size w) (.slice A zs.length c) (.int .i64 m) 26 w.heap.size rfl)
      have HI0 := Lib.hid (hS.step HX0.out.below)
      have HC := Lib.hid (fun W h' => countsOf_no A c lo hi zs m W h' h hst)
      have h0c := HX0.out.c0
      have h1c := HX0.out.c1
      clear hS hst
      go_enter Try.func9, Try.ntmps9
      go_wp2_with fail
      generalize w.alloc (.cells #[.slice A zs.length c, .int .i64 m] 26) = wa at HX0 HI0 h0c h1c ⊢
      refine (HC.out wa HI0.out).mono ?_
      rintro e wb ⟨B, c', rfl, hb⟩
      have HX := Lib.hid (HX0.out.step hb)
      clear hb HX0 HI0 HC h0c h1c
      go_wp2
      go_ret2
      exact ⟨rfl, HX.out.below⟩
    · have HX0 := Lib.hid (Arg.next (Below.refl w.heap.size w) (.slice A zs.length c) (.int .i64 m) 26 w.heap.size rfl)
      have HI0 := Lib.hid (hS.step HX0.out.below)
      have HC := Lib.hid (fun W h' => l2State_any A c lo hi zs m W h' h)
      rw [hst] at HC
      have h0c := HX0.out.c0
      have h1c := HX0.out.c1
      clear hS hst
      go_enter Try.func10, Try.ntmps10
      go_wp2_with fail
      generalize w.alloc (.cells #[.slice A zs.length c, .int .i64 m] 26) = wa at HX0 HI0 h0c h1c ⊢
      refine (HC.out wa HI0.out).mono ?_
      rintro e wb ⟨rfl, hb⟩
      have HX := Lib.hid (HX0.out.step hb)
      clear hb HX0 HI0 HC h0c h1c
      go_wp2
      go_ret2
      exact ⟨rfl, HX.out.below⟩
theorem questionNeed_both (zs : List Int) (m : Int) (h : zs.length ≤ 1048576) (q : Int) : ∃ (r0 : Int) (r1 : Bool),
    (∀ (w : World) (B : Option Addr) (c lo hi : Nat), Ins w lo hi B zs → Calls Try.prog 9 #[.agg #[.slice B zs.length c, .int .i64 m], .int .i64 q] w fun e w' => e = .returned (.tuple #[.int .i64 r0, .bool r1]) ∧ Below w.heap.size w w') ∧
    (∀ (w : World) (B : Option Addr) (c lo hi : Nat), Ins w lo hi B zs → Calls Try.prog 10 #[.agg #[.slice B zs.length c, .int .i64 m], .int .i64 q] w fun e w' => e = .returned (.tuple #[.int .i64 r0, .bool r1]) ∧ Below w.heap.size w w') := by
  obtain ⟨r0, r1, _, h1, h2⟩ := questionNeed_both2 zs m h q
  exact ⟨r0, r1, h1, h2⟩
end Go.Proofs.Ythpnkeecpaflfaa
