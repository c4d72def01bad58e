/- oneWayPlanOf, OneWayNeed, OneWayPaths, OneWaySplit of the program. -/
import Derived.Test.YtdkffkgoalgjmaaL10Q
import Derived.Test.YtdkffkgoalgjmaaL10T
import Derived.Test.YtdkffkgoalgjmaaConv
import Derived.Test.YtdkffkgoalgjmaaNeedB
namespace Go.Proofs.Ytdkffkgoalgjmaa
open Go.RowKit Go.ChangeShapes Go.WideShapes Go.Maps
set_option linter.unusedVariables false

def planLO (zs : List Int) : PlanO := if cOK zs then planO (rowL zs) else ⟨0, 0, (0, 0, 0)⟩
theorem planLO_no {zs : List Int} (h : cOK zs = false) : planLO zs = ⟨0, 0, (0, 0, 0)⟩ := by unfold planLO; rw [h]; rfl
theorem planLO_yes {zs : List Int} {p : Nat} {r : Row} (h : cOK zs = true) (hr : zs = lstR zs.length r) (hw : Wide zs.length r) : planLO zs = planO r := by unfold planLO; rw [h, rowL_eq hr hw]; rfl
theorem planLO_bd (zs : List Int) : (planLO zs).need ≤ 20 ∧ (planLO zs).few ≤ 20 := by
  cases h : cOK zs with
  | false => rw [planLO_no h]; simp
  | true =>
    obtain ⟨r, hr, hw, h8⟩ := cOK_row h
    rw [planLO_yes (p := 0) h hr hw, planO_need h8, planO_few h8]
    have := needO_le h8
    have := fewO_le h8
    omega
set_option maxRecDepth 100000 in
set_option maxHeartbeats 4000000 in
theorem oneWayPlanOf_any (A : Option Addr) (c lo hi : Nat) (zs : List Int) (w : World) (hS : Ins w lo hi A zs) (hn : zs.length ≤ 1048576) :
    Calls Try.prog 73 #[.slice A zs.length c] w fun e w' => e = .returned (.tuple #[.agg #[.int .i64 ((planLO zs).need : Int), .int .i64 ((planLO zs).few : Int), .int .i64 ((planLO zs).first.1 : Int), .int .i64 ((planLO zs).first.2.1 : Int), .int .i64 ((planLO zs).first.2.2 : Int)], .bool (cOK zs)]) ∧ Below w.heap.size w w' := by
  have HC := Lib.hid (fun W h => areCounts_impl A c lo hi zs W h hn)
  have HF0 := Lib.hid (FiveO.new w (.int .i64 0) (.int .i64 0) (.int .i64 0) (.int .i64 0) (.int .i64 0) w.heap.size rfl)
  have B0 := (Below.refl w.heap.size w).alloc (Nat.le_refl _) (.cells #[.int .i64 0, .int .i64 0, .int .i64 0, .int .i64 0, .int .i64 0] 77)
  have HB0 := Lib.hid B0
  have HS := Lib.hid (hS.step B0)
  clear hS B0
  cases hok : cOK zs with
  | false =>
    rw [hok] at HC
    rw [planLO_no hok]
    go_enter Try.func73, Try.ntmps73
    go_wp2_with fail
    generalize w.alloc (.cells #[.int .i64 0, .int .i64 0, .int .i64 0, .int .i64 0, .int .i64 0] 77) = wa at HF0 HB0 HS ⊢
    refine (HC.out wa HS.out).mono ?_
    rintro e w1 ⟨rfl, rfl⟩
    have c0 := HF0.out.c0
    have f0 := HF0.out.f 0
    have c1 := HF0.out.c1
    have f1 := HF0.out.f 1
    have c2 := HF0.out.c2
    have f2 := HF0.out.f 2
    have c3 := HF0.out.c3
    have f3 := HF0.out.f 3
    have c4 := HF0.out.c4
    have f4 := HF0.out.f 4
    go_wp2
    all_goals
      have HFn := HF0.out.set (.int .i64 0) (.int .i64 0) (.int .i64 0) (.int .i64 0) (.int .i64 0)
      have HBf := below_set5 HB0.out (Nat.le_refl _) (.int .i64 0) (.int .i64 0) (.int .i64 0) (.int .i64 0) (.int .i64 0)
      unfold set5 at HFn HBf
      generalize (((((w1.setCell ⟨w.heap.size, 0, none⟩ (.int .i64 0)).setCell ⟨w.heap.size, 1, none⟩ (.int .i64 0)).setCell ⟨w.heap.size, 2, none⟩ (.int .i64 0)).setCell ⟨w.heap.size, 3, none⟩ (.int .i64 0)).setCell ⟨w.heap.size, 4, none⟩ (.int .i64 0)) = wf at HFn HBf ⊢
      have e0 := HFn.c0
      have e1 := HFn.c1
      have e2 := HFn.c2
      have e3 := HFn.c3
      have e4 := HFn.c4
      refine bodyPost_ret (v := .tuple #[.agg #[.int .i64 0, .int .i64 0, .int .i64 0, .int .i64 0, .int .i64 0], .bool false]) (by simp [results, go_sem, e0, e1, e2, e3, e4]) rfl ?_
      exact ⟨rfl, HBf⟩
  | true =>
    rw [hok] at HC
    obtain ⟨r, hr, hw, h8⟩ := cOK_row hok
    rw [planLO_yes (p := 0) hok hr hw]
    have HPl := Lib.hid (fun W M h => planOfO_any r h8 W M h)
    have HR := Lib.hid (fun W h => rowOf_any A c lo hi zs.length r W h hw)
    rw [← hr] at HR
    have hmk := makePlansO
    clear hok hr
    generalize planO r = P at HPl ⊢
    go_enter Try.func73, Try.ntmps73
    go_wp2_with fail
    generalize w.alloc (.cells #[.int .i64 0, .int .i64 0, .int .i64 0, .int .i64 0, .int .i64 0] 77) = wa at HF0 HB0 HS ⊢
    refine (HC.out wa HS.out).mono ?_
    rintro e w1 ⟨rfl, rfl⟩
    clear HC
    have B1 := (Below.refl w1.heap.size w1).alloc (Nat.le_refl _) (.map #[] 0)
    have HM1 := Lib.hid (PlanMO.made w1)
    have HF1 := Lib.hid (HF0.out.step B1)
    have HS1 := Lib.hid (HS.out.step B1)
    have HB1 := Lib.hid (below_trans HB0.out B1)
    have hw1 : w.heap.size < w1.heap.size := HF0.out.lt
    clear B1
    go_wp2_with fail
    clear hmk
    generalize w1.alloc (.map #[] 0) = wb at HM1 HF1 HS1 HB1 ⊢
    refine (HR.out wb HS1.out).mono ?_
    rintro e w2 ⟨rfl, hb2⟩
    have HM2 := Lib.hid (HM1.out.step hb2)
    have HF2 := Lib.hid (HF1.out.step hb2)
    have HB2 := Lib.hid (below_trans HB1.out hb2)
    clear hb2
    go_wp2_with fail
    refine (HPl.out w2 w1.heap.size HM2.out).mono ?_
    rintro e w3 ⟨rfl, hpm3, hw3⟩
    have HF3 := Lib.hid (HF2.out.within hw3 (.inl hw1))
    have HB3 := Lib.hid (HB2.out.trans (hw3.below (Nat.le_of_lt hw1) HB2.out.size))
    clear hpm3 hw3
    simp only [planVO]
    have c0 := HF3.out.c0
    have f0 := HF3.out.f 0
    have c1 := HF3.out.c1
    have f1 := HF3.out.f 1
    have c2 := HF3.out.c2
    have f2 := HF3.out.f 2
    have c3 := HF3.out.c3
    have f3 := HF3.out.f 3
    have c4 := HF3.out.c4
    have f4 := HF3.out.f 4
    go_wp2
    have HFn := HF3.out.set (.int .i64 (P.need : Int)) (.int .i64 (P.few : Int)) (.int .i64 (P.first.1 : Int)) (.int .i64 (P.first.2.1 : Int)) (.int .i64 (P.first.2.2 : Int))
    have HBf := below_set5 HB3.out (Nat.le_refl _) (.int .i64 (P.need : Int)) (.int .i64 (P.few : Int)) (.int .i64 (P.first.1 : Int)) (.int .i64 (P.first.2.1 : Int)) (.int .i64 (P.first.2.2 : Int))
    unfold set5 at HFn HBf
    generalize (((((w3.setCell ⟨w.heap.size, 0, none⟩ (.int .i64 (P.need : Int))).setCell ⟨w.heap.size, 1, none⟩ (.int .i64 (P.few : Int))).setCell ⟨w.heap.size, 2, none⟩ (.int .i64 (P.first.1 : Int))).setCell ⟨w.heap.size, 3, none⟩ (.int .i64 (P.first.2.1 : Int))).setCell ⟨w.heap.size, 4, none⟩ (.int .i64 (P.first.2.2 : Int))) = wf at HFn HBf ⊢
    have e0 := HFn.c0
    have e1 := HFn.c1
    have e2 := HFn.c2
    have e3 := HFn.c3
    have e4 := HFn.c4
    refine bodyPost_ret (v := .tuple #[.agg #[.int .i64 (P.need : Int), .int .i64 (P.few : Int), .int .i64 (P.first.1 : Int), .int .i64 (P.first.2.1 : Int), .int .i64 (P.first.2.2 : Int)], .bool true]) (by simp [results, go_sem, e0, e1, e2, e3, e4]) rfl ?_
    exact ⟨rfl, HBf⟩
set_option maxRecDepth 100000 in
set_option maxHeartbeats 4000000 in
theorem oneWayNeed_impl (A : Option Addr) (c lo hi : Nat) (zs : List Int) (w : World) (hS : Ins w lo hi A zs) (hn : zs.length ≤ 1048576) :
    Calls Try.prog 38 #[.slice A zs.length c] w fun e w' => e = .returned (.tuple #[.int .i64 ((planLO zs).need : Int), .bool (cOK zs)]) ∧ Below w.heap.size w w' := by
  have HP := Lib.hid (fun W h => oneWayPlanOf_any A c lo hi zs W h hn)
  have HS := Lib.hid hS
  clear hS
  generalize planLO zs = P at HP ⊢
  generalize cOK zs = b at HP ⊢
  go_enter Try.func38, Try.ntmps38
  go_wp2_with fail
  refine (HP.out w HS.out).mono ?_
  rintro e w1 ⟨rfl, hb⟩
  have HB := Lib.hid (hb.alloc hb.size (.cells #[.int .i64 (P.need : Int), .int .i64 (P.few : Int), .int .i64 (P.first.1 : Int), .int .i64 (P.first.2.1 : Int), .int .i64 (P.first.2.2 : Int)] 77))
  clear hb
  go_wp2
  go_ret2
  exact ⟨rfl, HB.out⟩
set_option maxRecDepth 100000 in
set_option maxHeartbeats 4000000 in
theorem oneWayPaths_impl (A : Option Addr) (c lo hi : Nat) (zs : List Int) (w : World) (hS : Ins w lo hi A zs) (hn : zs.length ≤ 1048576) :
    Calls Try.prog 46 #[.slice A zs.length c] w fun e w' => e = .returned (.tuple #[.int .i64 ((planLO zs).few : Int), .int .i64 ((planLO zs).need : Int), .bool (cOK zs)]) ∧ Below w.heap.size w w' := by
  have HP := Lib.hid (fun W h => oneWayPlanOf_any A c lo hi zs W h hn)
  have HS := Lib.hid hS
  clear hS
  generalize planLO zs = P at HP ⊢
  generalize cOK zs = b at HP ⊢
  go_enter Try.func46, Try.ntmps46
  go_wp2_with fail
  refine (HP.out w HS.out).mono ?_
  rintro e w1 ⟨rfl, hb⟩
  have HT := Lib.hid (FiveO.new w1 (.int .i64 (P.need : Int)) (.int .i64 (P.few : Int)) (.int .i64 (P.first.1 : Int)) (.int .i64 (P.first.2.1 : Int)) (.int .i64 (P.first.2.2 : Int)) w1.heap.size rfl)
  have HB := Lib.hid (hb.alloc hb.size (.cells #[.int .i64 (P.need : Int), .int .i64 (P.few : Int), .int .i64 (P.first.1 : Int), .int .i64 (P.first.2.1 : Int), .int .i64 (P.first.2.2 : Int)] 77))
  clear hb
  go_upto_region 2 with fail
  generalize w1.alloc (.cells #[.int .i64 (P.need : Int), .int .i64 (P.few : Int), .int .i64 (P.first.1 : Int), .int .i64 (P.first.2.1 : Int), .int .i64 (P.first.2.2 : Int)] 77) = w2 at HT HB ⊢
  have c0 := HT.out.c0
  have c1 := HT.out.c1
  go_quiet (fail)
  go_wp2
  go_ret3
  exact ⟨rfl, by first | exact below_drewN HB.out _ | exact HB.out.drew | exact HB.out⟩
/-- The first split, where counts are not told. -/
def askO (zs : List Int) : Bool := cOK zs && !(decide (rsum (rowL zs) ≤ 1))
theorem askO_zero {zs : List Int} (h : askO zs = false) : planLO zs = ⟨0, 0, (0, 0, 0)⟩ := by
  cases hc : cOK zs with
  | false => exact planLO_no hc
  | true =>
    unfold askO at h
    rw [hc] at h
    simp only [Bool.true_and, Bool.not_eq_false', decide_eq_true_eq] at h
    unfold planLO
    rw [hc]
    exact planO_told h
theorem askO_row {zs : List Int} (h : askO zs = true) : ∃ r, zs = lstR zs.length r ∧ Wide zs.length r ∧ rsum r ≤ 8 ∧ 1 < rsum r ∧ planLO zs = planO r := by
  unfold askO at h
  rw [Bool.and_eq_true] at h
  obtain ⟨r, hr, hw, h8⟩ := cOK_row h.1
  have e := rowL_eq hr hw
  have h2 := h.2
  rw [e] at h2
  simp at h2
  exact ⟨r, hr, hw, h8, by omega, planLO_yes (p := 0) h.1 hr hw⟩
set_option maxRecDepth 100000 in
set_option maxHeartbeats 4000000 in
theorem oneWaySplit_impl_no (A : Option Addr) (c lo hi : Nat) (zs : List Int) (w : World) (hS : Ins w lo hi A zs) (hn : zs.length ≤ 1048576) (h : askO zs = false) :
    Calls Try.prog 40 #[.slice A zs.length c] w fun e w' => ∃ B c', e = .returned (.tuple #[.slice B 0 c', .bool false]) ∧ Res w' w.heap.size w'.heap.size B [] ∧ Below w.heap.size w w' := by
  have HP := fun W h => oneWayPlanOf_any A c lo hi zs W h hn
  rw [askO_zero h] at HP
  have HP := Lib.hid HP
  have HS := Lib.hid hS
  have heq : ∀ W : World, (Op.equalIn 10000 77 (.agg #[.int .i64 0, .int .i64 0, .int .i64 0, .int .i64 0, .int .i64 0]) (.agg #[.int .i64 0, .int .i64 0, .int .i64 0, .int .i64 0, .int .i64 0])).run Try.prog W = .ok true W := fun W => by rw [eq_planO]; rfl
  clear hS h
  generalize cOK zs = b at HP
  go_enter Try.func40, Try.ntmps40
  go_wp2_with fail
  refine (HP.out w HS.out).mono ?_
  rintro e w1 ⟨rfl, hb⟩
  have HT := Lib.hid (FiveO.new w1 (.int .i64 0) (.int .i64 0) (.int .i64 0) (.int .i64 0) (.int .i64 0) w1.heap.size rfl)
  have HB := Lib.hid (hb.alloc hb.size (.cells #[.int .i64 0, .int .i64 0, .int .i64 0, .int .i64 0, .int .i64 0] 77))
  clear hb
  go_upto_region 2 with fail
  generalize w1.alloc (.cells #[.int .i64 0, .int .i64 0, .int .i64 0, .int .i64 0, .int .i64 0] 77) = w2 at HT HB ⊢
  have c0 := HT.out.c0
  have c1 := HT.out.c1
  have c2 := HT.out.c2
  have c3 := HT.out.c3
  have c4 := HT.out.c4
  go_wp2
  go_ret2
  exact ⟨_, 0, rfl, empty_res _ _ HB.out.size, HB.out.alloc HB.out.size _⟩
set_option maxRecDepth 100000 in
set_option maxHeartbeats 4000000 in
theorem oneWaySplit_impl_yes (A : Option Addr) (c lo hi : Nat) (zs : List Int) (w : World) (hS : Ins w lo hi A zs) (hn : zs.length ≤ 1048576) (h : askO zs = true) :
    Calls Try.prog 40 #[.slice A zs.length c] w fun e w' => ∃ B c', e = .returned (.tuple #[.slice B zs.length c', .bool true]) ∧ Res w' w.heap.size w'.heap.size B (lstR zs.length (planLO zs).first) ∧ Below w.heap.size w w' := by
  have HP := fun W h => oneWayPlanOf_any A c lo hi zs W h hn
  obtain ⟨r, hr, hw, h8, h1, hpl⟩ := askO_row h
  rw [hpl] at HP ⊢
  have HP := Lib.hid HP
  have HS := Lib.hid hS
  have hp := hw.le
  have hpos := needO_pos h1 h8
  have hnd := planO_need h8
  have HLo := Lib.hid (fun W => listOf_any zs.length (planO r).first W (fits_wide hw (planO_fits h8)))
  have heq : ∀ W : World, (Op.equalIn 10000 77 (.agg #[.int .i64 ((planO r).need : Int), .int .i64 ((planO r).few : Int), .int .i64 ((planO r).first.1 : Int), .int .i64 ((planO r).first.2.1 : Int), .int .i64 ((planO r).first.2.2 : Int)]) (.agg #[.int .i64 0, .int .i64 0, .int .i64 0, .int .i64 0, .int .i64 0])).run Try.prog W = .ok false W := fun W => by
    rw [eq_planO, decide_eq_false (by omega)]
    rfl
  clear hS h hr hpl hnd hpos hw
  generalize planO r = P at HP HLo heq ⊢
  generalize zs.length = n at HP HLo hp hn ⊢
  generalize cOK zs = b at HP
  go_enter Try.func40, Try.ntmps40
  go_wp2_with fail
  refine (HP.out w HS.out).mono ?_
  rintro e w1 ⟨rfl, hb⟩
  have HT := Lib.hid (FiveO.new w1 (.int .i64 (P.need : Int)) (.int .i64 (P.few : Int)) (.int .i64 (P.first.1 : Int)) (.int .i64 (P.first.2.1 : Int)) (.int .i64 (P.first.2.2 : Int)) w1.heap.size rfl)
  have HB := Lib.hid (hb.alloc hb.size (.cells #[.int .i64 (P.need : Int), .int .i64 (P.few : Int), .int .i64 (P.first.1 : Int), .int .i64 (P.first.2.1 : Int), .int .i64 (P.first.2.2 : Int)] 77))
  clear hb
  go_upto_region 2 with fail
  generalize w1.alloc (.cells #[.int .i64 (P.need : Int), .int .i64 (P.few : Int), .int .i64 (P.first.1 : Int), .int .i64 (P.first.2.1 : Int), .int .i64 (P.first.2.2 : Int)] 77) = w2 at HT HB ⊢
  have c0 := HT.out.c0
  have c1 := HT.out.c1
  have c2 := HT.out.c2
  have c3 := HT.out.c3
  have c4 := HT.out.c4
  go_wp2_with fail
  refine (HLo.out w2).mono ?_
  rintro e w3 ⟨g, rfl, hg, hrow, hb⟩
  have hsz := HB.out.size
  have HR := Lib.hid hrow
  replace HB := Lib.hid (below_trans HB.out hb)
  clear hb hrow
  go_wp2
  go_ret2
  exact ⟨some ⟨g, 0, none⟩, n, rfl, ⟨.inr ⟨g, _, rfl, by omega, row_ltI HR.out, HR.out, by simp, fun j x hx => by simp [hx]⟩, Nat.le_refl _⟩, HB.out⟩
end Go.Proofs.Ytdkffkgoalgjmaa
