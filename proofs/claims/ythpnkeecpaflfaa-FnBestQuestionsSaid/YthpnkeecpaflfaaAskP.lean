/- BestSplit, CountBestSplits: both. -/
import Derived.Test.YthpnkeecpaflfaaBest4
import Derived.Test.YthpnkeecpaflfaaPlanOf
namespace Go.Proofs.Ythpnkeecpaflfaa
open Go.RowKit Go.ChangeShapes Go.WideShapes
set_option linter.unusedVariables false

/-- Whether counts ask a question. -/
def asksL (zs : List Int) : Bool := cOK zs && !(decide (rsum (rowL zs) ≤ 1))
def planL (zs : List Int) : Plan := if asksL zs then planR (rowL zs) else ⟨0, (0, 0, 0), 0⟩
set_option maxRecDepth 100000 in
set_option maxHeartbeats 4000000 in
theorem askingPlan_any (A : Option Addr) (c lo hi : Nat) (zs : List Int) (w : World) (hS : Ins w lo hi A zs) (hn : zs.length ≤ 1048576) :
    Calls Try.prog 48 #[.slice A zs.length c] w fun e w' => e = .returned (.tuple #[.agg #[.int .i64 ((planL zs).need : Int), .int .i64 ((planL zs).first.1 : Int), .int .i64 ((planL zs).first.2.1 : Int), .int .i64 ((planL zs).first.2.2 : Int), .int .i64 ((planL zs).many : Int)], .bool (asksL zs)]) ∧ Below w.heap.size w w' := by
  have HC := Lib.hid (fun W h => areCounts_impl A c lo hi zs W h hn)
  have HF0 := Lib.hid (Five.new w (.int .i64 0) (.int .i64 0) (.int .i64 0) (.int .i64 0) (.int .i64 0) w.heap.size rfl)
  have B0 := (Below.refl w.heap.size w).alloc (Nat.le_refl _) (.cells #[.int .i64 0, .int .i64 0, .int .i64 0, .int .i64 0, .int .i64 0] 74)
  have HB0 := Lib.hid B0
  have HS := Lib.hid (hS.step B0)
  clear hS B0
  cases hok : cOK zs with
  | false =>
    rw [hok] at HC
    have E : asksL zs = false := by unfold asksL; rw [hok]; rfl
    have E2 : planL zs = ⟨0, (0, 0, 0), 0⟩ := by unfold planL; rw [E]; rfl
    rw [E, E2]
    go_enter Try.func48, Try.ntmps48
    go_wp2_with fail
    generalize w.alloc (.cells #[.int .i64 0, .int .i64 0, .int .i64 0, .int .i64 0, .int .i64 0] 74) = wa at HF0 HB0 HS ⊢
    refine (HC.out wa HS.out).mono ?_
    rintro e w1 ⟨rfl, rfl⟩
    have c0 := HF0.out.c0
    have f0 := HF0.out.f 0
    have c1 := HF0.out.c1
    have f1 := HF0.out.f 1
    have c2 := HF0.out.c2
    have f2 := HF0.out.f 2
    have c3 := HF0.out.c3
    have f3 := HF0.out.f 3
    have c4 := HF0.out.c4
    have f4 := HF0.out.f 4
    go_wp2
    all_goals
      have HFn := HF0.out.set (.int .i64 0) (.int .i64 0) (.int .i64 0) (.int .i64 0) (.int .i64 0)
      have HBf := below_set5 HB0.out (Nat.le_refl _) (.int .i64 0) (.int .i64 0) (.int .i64 0) (.int .i64 0) (.int .i64 0)
      unfold set5 at HFn HBf
      generalize (((((w1.setCell ⟨w.heap.size, 0, none⟩ (.int .i64 0)).setCell ⟨w.heap.size, 1, none⟩ (.int .i64 0)).setCell ⟨w.heap.size, 2, none⟩ (.int .i64 0)).setCell ⟨w.heap.size, 3, none⟩ (.int .i64 0)).setCell ⟨w.heap.size, 4, none⟩ (.int .i64 0)) = wf at HFn HBf ⊢
      have e0 := HFn.c0
      have e1 := HFn.c1
      have e2 := HFn.c2
      have e3 := HFn.c3
      have e4 := HFn.c4
      refine bodyPost_ret (v := .tuple #[.agg #[.int .i64 0, .int .i64 0, .int .i64 0, .int .i64 0, .int .i64 0], .bool false]) (by simp [results, go_sem, e0, e1, e2, e3, e4]) rfl ?_
      exact ⟨rfl, HBf⟩
  | true =>
    rw [hok] at HC
    obtain ⟨r, hr, hw, h8⟩ := cOK_row hok
    have hp := hw.le
    have E : asksL zs = !(decide (rsum r ≤ 1)) := by unfold asksL; rw [hok, rowL_eq hr hw]; simp
    have E2 : planL zs = if asksL zs then planR r else ⟨0, (0, 0, 0), 0⟩ := by unfold planL; rw [rowL_eq hr hw]
    rw [E2, E]
    clear E E2
    generalize zs.length = p at *
    have HR := Lib.hid (fun W h => rowOf_any A c lo hi p r W h hw)
    rw [← hr] at HR
    have HTo := Lib.hid (fun W => isTold_any r W h8)
    have HPl := Lib.hid (fun W M h => planOf_any r h8 W M h)
    clear hok hr
    by_cases hT : rsum r ≤ 1
    · rw [decide_eq_true hT] at HTo ⊢
      simp only [Bool.not_true, Bool.false_eq_true, if_false]
      go_enter Try.func48, Try.ntmps48
      go_wp2_with fail
      generalize w.alloc (.cells #[.int .i64 0, .int .i64 0, .int .i64 0, .int .i64 0, .int .i64 0] 74) = wa at HF0 HB0 HS ⊢
      refine (HC.out wa HS.out).mono ?_
      rintro e w1 ⟨rfl, rfl⟩
      go_wp2_with fail
      refine (HR.out w1 HS.out).mono ?_
      rintro e w2 ⟨rfl, hb⟩
      replace HF0 := Lib.hid (HF0.out.step hb)
      replace HB0 := Lib.hid (below_trans HB0.out hb)
      clear hb
      go_wp2_with fail
      refine (HTo.out w2).mono ?_
      rintro e w3 ⟨rfl, hb⟩
      replace HF0 := Lib.hid (HF0.out.step hb)
      replace HB0 := Lib.hid (below_trans HB0.out hb)
      clear hb
      have c0 := HF0.out.c0
      have f0 := HF0.out.f 0
      have c1 := HF0.out.c1
      have f1 := HF0.out.f 1
      have c2 := HF0.out.c2
      have f2 := HF0.out.f 2
      have c3 := HF0.out.c3
      have f3 := HF0.out.f 3
      have c4 := HF0.out.c4
      have f4 := HF0.out.f 4
      go_wp2
      all_goals
        have HFn := HF0.out.set (.int .i64 0) (.int .i64 0) (.int .i64 0) (.int .i64 0) (.int .i64 0)
        have HBf := below_set5 HB0.out (Nat.le_refl _) (.int .i64 0) (.int .i64 0) (.int .i64 0) (.int .i64 0) (.int .i64 0)
        unfold set5 at HFn HBf
        generalize (((((w3.setCell ⟨w.heap.size, 0, none⟩ (.int .i64 0)).setCell ⟨w.heap.size, 1, none⟩ (.int .i64 0)).setCell ⟨w.heap.size, 2, none⟩ (.int .i64 0)).setCell ⟨w.heap.size, 3, none⟩ (.int .i64 0)).setCell ⟨w.heap.size, 4, none⟩ (.int .i64 0)) = wf at HFn HBf ⊢
        have e0 := HFn.c0
        have e1 := HFn.c1
        have e2 := HFn.c2
        have e3 := HFn.c3
        have e4 := HFn.c4
        refine bodyPost_ret (v := .tuple #[.agg #[.int .i64 0, .int .i64 0, .int .i64 0, .int .i64 0, .int .i64 0], .bool false]) (by simp [results, go_sem, e0, e1, e2, e3, e4]) rfl ?_
        exact ⟨rfl, HBf⟩
    · rw [decide_eq_false hT] at HTo ⊢
      simp only [Bool.not_false, if_true]
      have hmk := makePlans
      go_enter Try.func48, Try.ntmps48
      go_wp2_with fail
      generalize w.alloc (.cells #[.int .i64 0, .int .i64 0, .int .i64 0, .int .i64 0, .int .i64 0] 74) = wa at HF0 HB0 HS ⊢
      refine (HC.out wa HS.out).mono ?_
      rintro e w1 ⟨rfl, rfl⟩
      go_wp2_with fail
      refine (HR.out w1 HS.out).mono ?_
      rintro e w2 ⟨rfl, hb⟩
      replace HF0 := Lib.hid (HF0.out.step hb)
      replace HB0 := Lib.hid (below_trans HB0.out hb)
      replace HS := Lib.hid (HS.out.step hb)
      clear hb
      go_wp2_with fail
      refine (HTo.out w2).mono ?_
      rintro e w3 ⟨rfl, hb⟩
      replace HF0 := Lib.hid (HF0.out.step hb)
      replace HB0 := Lib.hid (below_trans HB0.out hb)
      replace HS := Lib.hid (HS.out.step hb)
      clear hb
      have A1 := (Below.refl _ w3).alloc (Nat.le_refl _) (.map #[] 0)
      have HM := Lib.hid (PlanM.made w3)
      have hs3 := HB0.out.size
      have hw3 : w.heap.size < w3.heap.size := HF0.out.lt
      replace HF0 := Lib.hid (HF0.out.step A1)
      replace HB0 := Lib.hid (below_trans HB0.out A1)
      replace HS := Lib.hid (HS.out.step A1)
      clear A1
      go_wp2_with fail
      clear hmk
      refine (HR.out _ HS.out).mono ?_
      rintro e w4 ⟨rfl, hb⟩
      replace HF0 := Lib.hid (HF0.out.step hb)
      replace HB0 := Lib.hid (below_trans HB0.out hb)
      replace HM := Lib.hid (HM.out.step hb)
      clear hb
      go_wp2_with fail
      refine (HPl.out w4 w3.heap.size HM.out).mono ?_
      rintro e w5 ⟨rfl, hpm, hw5⟩
      replace HF0 := Lib.hid (HF0.out.within hw5 (.inl hw3))
      replace HB0 := Lib.hid (HB0.out.trans (hw5.below (by omega) HB0.out.size))
      clear hpm hw5
      simp only [planV]
      have c0 := HF0.out.c0
      have f0 := HF0.out.f 0
      have c1 := HF0.out.c1
      have f1 := HF0.out.f 1
      have c2 := HF0.out.c2
      have f2 := HF0.out.f 2
      have c3 := HF0.out.c3
      have f3 := HF0.out.f 3
      have c4 := HF0.out.c4
      have f4 := HF0.out.f 4
      go_wp2
      all_goals
        have HFn := HF0.out.set (.int .i64 ((planR r).need : Int)) (.int .i64 ((planR r).first.1 : Int)) (.int .i64 ((planR r).first.2.1 : Int)) (.int .i64 ((planR r).first.2.2 : Int)) (.int .i64 ((planR r).many : Int))
        have HBf := below_set5 HB0.out (Nat.le_refl _) (.int .i64 ((planR r).need : Int)) (.int .i64 ((planR r).first.1 : Int)) (.int .i64 ((planR r).first.2.1 : Int)) (.int .i64 ((planR r).first.2.2 : Int)) (.int .i64 ((planR r).many : Int))
        unfold set5 at HFn HBf
        generalize (((((w5.setCell ⟨w.heap.size, 0, none⟩ (.int .i64 ((planR r).need : Int))).setCell ⟨w.heap.size, 1, none⟩ (.int .i64 ((planR r).first.1 : Int))).setCell ⟨w.heap.size, 2, none⟩ (.int .i64 ((planR r).first.2.1 : Int))).setCell ⟨w.heap.size, 3, none⟩ (.int .i64 ((planR r).first.2.2 : Int))).setCell ⟨w.heap.size, 4, none⟩ (.int .i64 ((planR r).many : Int))) = wf at HFn HBf ⊢
        have e0 := HFn.c0
        have e1 := HFn.c1
        have e2 := HFn.c2
        have e3 := HFn.c3
        have e4 := HFn.c4
        refine bodyPost_ret (v := .tuple #[.agg #[.int .i64 ((planR r).need : Int), .int .i64 ((planR r).first.1 : Int), .int .i64 ((planR r).first.2.1 : Int), .int .i64 ((planR r).first.2.2 : Int), .int .i64 ((planR r).many : Int)], .bool true]) (by simp [results, go_sem, e0, e1, e2, e3, e4]) rfl ?_
        exact ⟨rfl, HBf⟩
theorem planL_no {zs : List Int} (h : asksL zs = false) : planL zs = ⟨0, (0, 0, 0), 0⟩ := by unfold planL; rw [h]; rfl
theorem asks_row {zs : List Int} (h : asksL zs = true) : ∃ r, zs = lstR zs.length r ∧ Wide zs.length r ∧ rsum r ≤ 8 ∧ 1 < rsum r ∧ planL zs = planR r := by
  have h2 := h
  unfold asksL at h
  rw [Bool.and_eq_true] at h
  obtain ⟨r, hr, hw, h8⟩ := cOK_row h.1
  refine ⟨r, hr, hw, h8, ?_, ?_⟩
  · have := h.2
    rw [rowL_eq hr hw] at this
    simp at this
    omega
  · unfold planL; rw [h2, rowL_eq hr hw]; rfl
set_option maxRecDepth 100000 in
set_option maxHeartbeats 2000000 in
theorem bestSplit_impl (A : Option Addr) (c lo hi : Nat) (zs : List Int) (w : World) (hS : Ins w lo hi A zs) (hn : zs.length ≤ 1048576) :
    Calls Try.prog 21 #[.slice A zs.length c] w (RowAns w (if asksL zs then lstR zs.length (planL zs).first else []) (asksL zs)) := by
  have HC := Lib.hid (fun W h => askingPlan_any A c lo hi zs W h hn)
  unfold RowAns
  cases hok : asksL zs with
  | false =>
    rw [hok] at HC
    rw [if_neg (by simp)]
    generalize planL zs = q at HC
    go_enter Try.func21, Try.ntmps21
    go_wp2_with fail
    refine (HC.out w hS).mono ?_
    rintro e w1 ⟨rfl, hb⟩
    have HB := Lib.hid (hb.alloc hb.size (.cells #[.int .i64 (q.need : Int), .int .i64 (q.first.1 : Int), .int .i64 (q.first.2.1 : Int), .int .i64 (q.first.2.2 : Int), .int .i64 (q.many : Int)] 74))
    clear hb
    go_wp2
    all_goals
      go_ret2
      exact ⟨_, 0, rfl, by simpa using empty_res _ w.heap.size HB.out.size, HB.out.alloc HB.out.size _⟩
  | true =>
    rw [hok] at HC
    rw [if_pos rfl]
    obtain ⟨r, hr, hw, h8, _, hq⟩ := asks_row hok
    rw [hq] at HC ⊢
    have hp := hw.le
    generalize zs.length = p at *
    have HL := Lib.hid (fun W => listOf_any p (planR r).first W (fits_wide hw (plan_fits h8)))
    have HLn := Lib.hid (lst_len hp (planR r).first)
    clear hr hok hq
    generalize planR r = q at HC HL HLn ⊢
    go_enter Try.func21, Try.ntmps21
    go_wp2_with fail
    refine (HC.out w hS).mono ?_
    rintro e w1 ⟨rfl, hb⟩
    have HB := Lib.hid (hb.alloc hb.size (.cells #[.int .i64 (q.need : Int), .int .i64 (q.first.1 : Int), .int .i64 (q.first.2.1 : Int), .int .i64 (q.first.2.2 : Int), .int .i64 (q.many : Int)] 74))
    clear hb
    go_wp2_with fail
    refine (HL.out _).mono ?_
    rintro e w2 ⟨g, rfl, hg, hrow, hb⟩
    have hsz := HB.out.size
    have HR := Lib.hid hrow
    replace HB := Lib.hid (below_trans HB.out hb)
    clear hb hrow
    go_wp2
    all_goals
      go_ret2
      exact own_ansR HLn.out rfl (by omega) (row_own HR.out) HB.out
end Go.Proofs.Ythpnkeecpaflfaa
