/- What the law FnOneWayNeeds asks of its calls' answers. -/
import Derived.Test.YtdkffkgoalgjmacL10M
import Derived.Test.YtdkffkgoalgjmacL10Q
import Derived.Test.YtdkffkgoalgjmacConv
import Derived.Test.YtdkffkgoalgjmacNeedB
import Derived.Test.YtdkffkgoalgjmacL10Y
import Derived.Test.YtdkffkgoalgjmacTold
import Derived.Test.YtdkffkgoalgjmacFresh
import Derived.Test.YtdkffkgoalgjmacBest4
import Derived.Test.YtdkffkgoalgjmacUpd
import Derived.Test.YtdkffkgoalgjmacNums
import Derived.Test.YtdkffkgoalgjmacYesNo
import Derived.Test.YtdkffkgoalgjmacRows2
import Derived.Test.YtdkffkgoalgjmacAfter2
import Derived.Test.YtdkffkgoalgjmacCopy
import Derived.Test.YtdkffkgoalgjmacCnt4
import Derived.Test.YtdkffkgoalgjmacStates
namespace Go.Proofs.Ytdkffkgoalgjmac
open Go.RowKit Go.ChangeShapes Go.WideShapes Go.Maps
set_option linter.unusedVariables false

theorem eq_rowO (a b c x y z : Int) (w : World) : (Op.equalIn 9999 102 (.agg #[.int .i64 a, .int .i64 b, .int .i64 c]) (.agg #[.int .i64 x, .int .i64 y, .int .i64 z])).run Try.prog w = .ok (decide (a = x) && (decide (b = y) && decide (c = z))) w := by
  obtain ⟨i0, hi0, hz0, hz1, hz2⟩ := info_parts infoI3
  rw [show (9999 : Nat) = 9998 + 1 from rfl, run_equalIn_array w 9998 _ _ under_row hi0]
  have hc : Try.prog.cellsOf 3 = 1 := by kernel_rfl
  have he : Try.prog.plainKey 3 = true := by kernel_rfl
  have hu : Try.prog.underlying 3 = some (.int .i64) := by kernel_rfl
  have p1 := run_part_plain (P := Try.prog) w he (xs := #[.int .i64 a, .int .i64 b, .int .i64 c]) (off := 0) (v := .int .i64 a) rfl
  have p2 := run_part_plain (P := Try.prog) w he (xs := #[.int .i64 a, .int .i64 b, .int .i64 c]) (off := 1) (v := .int .i64 b) rfl
  have p3 := run_part_plain (P := Try.prog) w he (xs := #[.int .i64 a, .int .i64 b, .int .i64 c]) (off := 2) (v := .int .i64 c) rfl
  have p4 := run_part_plain (P := Try.prog) w he (xs := #[.int .i64 x, .int .i64 y, .int .i64 z]) (off := 0) (v := .int .i64 x) rfl
  have p5 := run_part_plain (P := Try.prog) w he (xs := #[.int .i64 x, .int .i64 y, .int .i64 z]) (off := 1) (v := .int .i64 y) rfl
  have p6 := run_part_plain (P := Try.prog) w he (xs := #[.int .i64 x, .int .i64 y, .int .i64 z]) (off := 2) (v := .int .i64 z) rfl
  have q1 := run_equalIn_int (P := Try.prog) w 9997 3 .i64 .i64 a x hu
  have q2 := run_equalIn_int (P := Try.prog) w 9997 3 .i64 .i64 b y hu
  have q3 := run_equalIn_int (P := Try.prog) w 9997 3 .i64 .i64 c z hu
  rw [show (9997 + 1 : Nat) = 9998 from rfl] at q1 q2 q3
  simp [Op.eqItems, List.range, List.range.loop, hc, p1, p2, p3, p4, p5, p6, q1, q2, q3]
  by_cases h1 : a = x <;> by_cases h2 : b = y <;> by_cases h3 : c = z <;> simp [h1, h2, h3]
theorem part_rowO (a b x y z : Int) (w : World) : (part 102 #[.int .i64 a, .int .i64 b, .int .i64 x, .int .i64 y, .int .i64 z] 2).run Try.prog w = .ok (.agg #[.int .i64 x, .int .i64 y, .int .i64 z]) w := by kernel_rfl
theorem eq_planO (a b x y z : Int) (w : World) : (Op.equalIn 10000 104 (.agg #[.int .i64 a, .int .i64 b, .int .i64 x, .int .i64 y, .int .i64 z]) (.agg #[.int .i64 0, .int .i64 0, .int .i64 0, .int .i64 0, .int .i64 0])).run Try.prog w = .ok (decide (a = 0) && (decide (b = 0) && (decide (x = 0) && (decide (y = 0) && decide (z = 0))))) w := by
  have u3 := Try.underlying3
  have a3 := Try.isAgg3
  have z3 := Try.sizeOf3
  have hS : Try.prog.underlying 104 = some (.struct (Try.prog.fieldsOf 104)) := by kernel_rfl
  have hp : Try.prog.stoodInHeld 104 = false := by kernel_rfl
  have p1 := part_rowO a b x y z
  have p2 := part_rowO 0 0 0 0 0
  have r1 := fun w => eq_rowO x y z 0 0 0 w
  rw [show (10000 : Nat) = 9999 + 1 from rfl, run_equalIn_agg w 9999 104 _ _ hS hp]
  simp only [Program.fieldsOf, Try.underlying104]
  go_simp
  by_cases h1 : a = 0 <;> by_cases h2 : b = 0 <;> by_cases h3 : x = 0 <;> by_cases h4 : y = 0 <;> by_cases h5 : z = 0 <;> simp [h1, h2, h3, h4, h5]
end Go.Proofs.Ytdkffkgoalgjmac
namespace Go.Proofs.Ytdkffkgoalgjmac
open Go.RowKit Go.ChangeShapes Go.WideShapes Go.Maps
set_option linter.unusedVariables false

def planLO (zs : List Int) : PlanO := if cOK zs then planO (rowL zs) else ⟨0, 0, (0, 0, 0)⟩
theorem planLO_no {zs : List Int} (h : cOK zs = false) : planLO zs = ⟨0, 0, (0, 0, 0)⟩ := by unfold planLO; rw [h]; rfl
theorem planLO_yes {zs : List Int} {p : Nat} {r : Row} (h : cOK zs = true) (hr : zs = lstR zs.length r) (hw : Wide zs.length r) : planLO zs = planO r := by unfold planLO; rw [h, rowL_eq hr hw]; rfl
theorem planLO_bd (zs : List Int) : (planLO zs).need ≤ 20 ∧ (planLO zs).few ≤ 20 := by
  cases h : cOK zs with
  | false => rw [planLO_no h]; simp
  | true =>
    obtain ⟨r, hr, hw, h8⟩ := cOK_row h
    rw [planLO_yes (p := 0) h hr hw, planO_need h8, planO_few h8]
    have := needO_le h8
    have := fewO_le h8
    omega
set_option maxRecDepth 100000 in
set_option maxHeartbeats 4000000 in
theorem oneWayPlanOf_any (A : Option Addr) (c lo hi : Nat) (zs : List Int) (w : World) (hS : Ins w lo hi A zs) (hn : zs.length ≤ 1048576) :
    Calls Try.prog 91 #[.slice A zs.length c] w fun e w' => e = .returned (.tuple #[.agg #[.int .i64 ((planLO zs).need : Int), .int .i64 ((planLO zs).few : Int), .int .i64 ((planLO zs).first.1 : Int), .int .i64 ((planLO zs).first.2.1 : Int), .int .i64 ((planLO zs).first.2.2 : Int)], .bool (cOK zs)]) ∧ Below w.heap.size w w' := by
  have HC := Lib.hid (fun W h => areCounts_impl A c lo hi zs W h hn)
  have HF0 := Lib.hid (FiveO.new w (.int .i64 0) (.int .i64 0) (.int .i64 0) (.int .i64 0) (.int .i64 0) w.heap.size rfl)
  have B0 := (Below.refl w.heap.size w).alloc (Nat.le_refl _) (.cells #[.int .i64 0, .int .i64 0, .int .i64 0, .int .i64 0, .int .i64 0] 104)
  have HB0 := Lib.hid B0
  have HS := Lib.hid (hS.step B0)
  clear hS B0
  cases hok : cOK zs with
  | false =>
    rw [hok] at HC
    rw [planLO_no hok]
    go_enter Try.func91, Try.ntmps91
    go_wp2_with fail
    generalize w.alloc (.cells #[.int .i64 0, .int .i64 0, .int .i64 0, .int .i64 0, .int .i64 0] 104) = wa at HF0 HB0 HS ⊢
    refine (HC.out wa HS.out).mono ?_
    rintro e w1 ⟨rfl, rfl⟩
    have c0 := HF0.out.c0
    have f0 := HF0.out.f 0
    have c1 := HF0.out.c1
    have f1 := HF0.out.f 1
    have c2 := HF0.out.c2
    have f2 := HF0.out.f 2
    have c3 := HF0.out.c3
    have f3 := HF0.out.f 3
    have c4 := HF0.out.c4
    have f4 := HF0.out.f 4
    go_wp2
    all_goals
      have HFn := HF0.out.set (.int .i64 0) (.int .i64 0) (.int .i64 0) (.int .i64 0) (.int .i64 0)
      have HBf := below_set5 HB0.out (Nat.le_refl _) (.int .i64 0) (.int .i64 0) (.int .i64 0) (.int .i64 0) (.int .i64 0)
      unfold set5 at HFn HBf
      generalize (((((w1.setCell ⟨w.heap.size, 0, none⟩ (.int .i64 0)).setCell ⟨w.heap.size, 1, none⟩ (.int .i64 0)).setCell ⟨w.heap.size, 2, none⟩ (.int .i64 0)).setCell ⟨w.heap.size, 3, none⟩ (.int .i64 0)).setCell ⟨w.heap.size, 4, none⟩ (.int .i64 0)) = wf at HFn HBf ⊢
      have e0 := HFn.c0
      have e1 := HFn.c1
      have e2 := HFn.c2
      have e3 := HFn.c3
      have e4 := HFn.c4
      refine bodyPost_ret (v := .tuple #[.agg #[.int .i64 0, .int .i64 0, .int .i64 0, .int .i64 0, .int .i64 0], .bool false]) (by simp [results, go_sem, e0, e1, e2, e3, e4]) rfl ?_
      exact ⟨rfl, HBf⟩
  | true =>
    rw [hok] at HC
    obtain ⟨r, hr, hw, h8⟩ := cOK_row hok
    rw [planLO_yes (p := 0) hok hr hw]
    have HPl := Lib.hid (fun W M h => planOfO_any r h8 W M h)
    have HR := Lib.hid (fun W h => rowOf_any A c lo hi zs.length r W h hw)
    rw [← hr] at HR
    have hmk := makePlansO
    clear hok hr
    generalize planO r = P at HPl ⊢
    go_enter Try.func91, Try.ntmps91
    go_wp2_with fail
    generalize w.alloc (.cells #[.int .i64 0, .int .i64 0, .int .i64 0, .int .i64 0, .int .i64 0] 104) = wa at HF0 HB0 HS ⊢
    refine (HC.out wa HS.out).mono ?_
    rintro e w1 ⟨rfl, rfl⟩
    clear HC
    have B1 := (Below.refl w1.heap.size w1).alloc (Nat.le_refl _) (.map #[] 0)
    have HM1 := Lib.hid (PlanMO.made w1)
    have HF1 := Lib.hid (HF0.out.step B1)
    have HS1 := Lib.hid (HS.out.step B1)
    have HB1 := Lib.hid (below_trans HB0.out B1)
    have hw1 : w.heap.size < w1.heap.size := HF0.out.lt
    clear B1
    go_wp2_with fail
    clear hmk
    generalize w1.alloc (.map #[] 0) = wb at HM1 HF1 HS1 HB1 ⊢
    refine (HR.out wb HS1.out).mono ?_
    rintro e w2 ⟨rfl, hb2⟩
    have HM2 := Lib.hid (HM1.out.step hb2)
    have HF2 := Lib.hid (HF1.out.step hb2)
    have HB2 := Lib.hid (below_trans HB1.out hb2)
    clear hb2
    go_wp2_with fail
    refine (HPl.out w2 w1.heap.size HM2.out).mono ?_
    rintro e w3 ⟨rfl, hpm3, hw3⟩
    have HF3 := Lib.hid (HF2.out.within hw3 (.inl hw1))
    have HB3 := Lib.hid (HB2.out.trans (hw3.below (Nat.le_of_lt hw1) HB2.out.size))
    clear hpm3 hw3
    simp only [planVO]
    have c0 := HF3.out.c0
    have f0 := HF3.out.f 0
    have c1 := HF3.out.c1
    have f1 := HF3.out.f 1
    have c2 := HF3.out.c2
    have f2 := HF3.out.f 2
    have c3 := HF3.out.c3
    have f3 := HF3.out.f 3
    have c4 := HF3.out.c4
    have f4 := HF3.out.f 4
    go_wp2
    have HFn := HF3.out.set (.int .i64 (P.need : Int)) (.int .i64 (P.few : Int)) (.int .i64 (P.first.1 : Int)) (.int .i64 (P.first.2.1 : Int)) (.int .i64 (P.first.2.2 : Int))
    have HBf := below_set5 HB3.out (Nat.le_refl _) (.int .i64 (P.need : Int)) (.int .i64 (P.few : Int)) (.int .i64 (P.first.1 : Int)) (.int .i64 (P.first.2.1 : Int)) (.int .i64 (P.first.2.2 : Int))
    unfold set5 at HFn HBf
    generalize (((((w3.setCell ⟨w.heap.size, 0, none⟩ (.int .i64 (P.need : Int))).setCell ⟨w.heap.size, 1, none⟩ (.int .i64 (P.few : Int))).setCell ⟨w.heap.size, 2, none⟩ (.int .i64 (P.first.1 : Int))).setCell ⟨w.heap.size, 3, none⟩ (.int .i64 (P.first.2.1 : Int))).setCell ⟨w.heap.size, 4, none⟩ (.int .i64 (P.first.2.2 : Int))) = wf at HFn HBf ⊢
    have e0 := HFn.c0
    have e1 := HFn.c1
    have e2 := HFn.c2
    have e3 := HFn.c3
    have e4 := HFn.c4
    refine bodyPost_ret (v := .tuple #[.agg #[.int .i64 (P.need : Int), .int .i64 (P.few : Int), .int .i64 (P.first.1 : Int), .int .i64 (P.first.2.1 : Int), .int .i64 (P.first.2.2 : Int)], .bool true]) (by simp [results, go_sem, e0, e1, e2, e3, e4]) rfl ?_
    exact ⟨rfl, HBf⟩
set_option maxRecDepth 100000 in
set_option maxHeartbeats 4000000 in
theorem oneWayNeed_impl (A : Option Addr) (c lo hi : Nat) (zs : List Int) (w : World) (hS : Ins w lo hi A zs) (hn : zs.length ≤ 1048576) :
    Calls Try.prog 34 #[.slice A zs.length c] w fun e w' => e = .returned (.tuple #[.int .i64 ((planLO zs).need : Int), .bool (cOK zs)]) ∧ Below w.heap.size w w' := by
  have HP := Lib.hid (fun W h => oneWayPlanOf_any A c lo hi zs W h hn)
  have HS := Lib.hid hS
  clear hS
  generalize planLO zs = P at HP ⊢
  generalize cOK zs = b at HP ⊢
  go_enter Try.func34, Try.ntmps34
  go_wp2_with fail
  refine (HP.out w HS.out).mono ?_
  rintro e w1 ⟨rfl, hb⟩
  have HB := Lib.hid (hb.alloc hb.size (.cells #[.int .i64 (P.need : Int), .int .i64 (P.few : Int), .int .i64 (P.first.1 : Int), .int .i64 (P.first.2.1 : Int), .int .i64 (P.first.2.2 : Int)] 104))
  clear hb
  go_wp2
  go_ret2
  exact ⟨rfl, HB.out⟩
set_option maxRecDepth 100000 in
set_option maxHeartbeats 4000000 in
theorem oneWayPaths_impl (A : Option Addr) (c lo hi : Nat) (zs : List Int) (w : World) (hS : Ins w lo hi A zs) (hn : zs.length ≤ 1048576) :
    Calls Try.prog 42 #[.slice A zs.length c] w fun e w' => e = .returned (.tuple #[.int .i64 ((planLO zs).few : Int), .int .i64 ((planLO zs).need : Int), .bool (cOK zs)]) ∧ Below w.heap.size w w' := by
  have HP := Lib.hid (fun W h => oneWayPlanOf_any A c lo hi zs W h hn)
  have HS := Lib.hid hS
  clear hS
  generalize planLO zs = P at HP ⊢
  generalize cOK zs = b at HP ⊢
  go_enter Try.func42, Try.ntmps42
  go_wp2_with fail
  refine (HP.out w HS.out).mono ?_
  rintro e w1 ⟨rfl, hb⟩
  have HT := Lib.hid (FiveO.new w1 (.int .i64 (P.need : Int)) (.int .i64 (P.few : Int)) (.int .i64 (P.first.1 : Int)) (.int .i64 (P.first.2.1 : Int)) (.int .i64 (P.first.2.2 : Int)) w1.heap.size rfl)
  have HB := Lib.hid (hb.alloc hb.size (.cells #[.int .i64 (P.need : Int), .int .i64 (P.few : Int), .int .i64 (P.first.1 : Int), .int .i64 (P.first.2.1 : Int), .int .i64 (P.first.2.2 : Int)] 104))
  clear hb
  go_upto_region 2 with fail
  generalize w1.alloc (.cells #[.int .i64 (P.need : Int), .int .i64 (P.few : Int), .int .i64 (P.first.1 : Int), .int .i64 (P.first.2.1 : Int), .int .i64 (P.first.2.2 : Int)] 104) = w2 at HT HB ⊢
  have c0 := HT.out.c0
  have c1 := HT.out.c1
  go_quiet (fail)
  go_wp2
  go_ret3
  exact ⟨rfl, by first | exact below_drewN HB.out _ | exact HB.out.drew | exact HB.out⟩
/-- The first split, where counts are not told. -/
def askO (zs : List Int) : Bool := cOK zs && !(decide (rsum (rowL zs) ≤ 1))
theorem askO_zero {zs : List Int} (h : askO zs = false) : planLO zs = ⟨0, 0, (0, 0, 0)⟩ := by
  cases hc : cOK zs with
  | false => exact planLO_no hc
  | true =>
    unfold askO at h
    rw [hc] at h
    simp only [Bool.true_and, Bool.not_eq_false', decide_eq_true_eq] at h
    unfold planLO
    rw [hc]
    exact planO_told h
theorem askO_row {zs : List Int} (h : askO zs = true) : ∃ r, zs = lstR zs.length r ∧ Wide zs.length r ∧ rsum r ≤ 8 ∧ 1 < rsum r ∧ planLO zs = planO r := by
  unfold askO at h
  rw [Bool.and_eq_true] at h
  obtain ⟨r, hr, hw, h8⟩ := cOK_row h.1
  have e := rowL_eq hr hw
  have h2 := h.2
  rw [e] at h2
  simp at h2
  exact ⟨r, hr, hw, h8, by omega, planLO_yes (p := 0) h.1 hr hw⟩
set_option maxRecDepth 100000 in
set_option maxHeartbeats 4000000 in
theorem oneWaySplit_impl_no (A : Option Addr) (c lo hi : Nat) (zs : List Int) (w : World) (hS : Ins w lo hi A zs) (hn : zs.length ≤ 1048576) (h : askO zs = false) :
    Calls Try.prog 37 #[.slice A zs.length c] w fun e w' => ∃ B c', e = .returned (.tuple #[.slice B 0 c', .bool false]) ∧ Res w' w.heap.size w'.heap.size B [] ∧ Below w.heap.size w w' := by
  have HP := fun W h => oneWayPlanOf_any A c lo hi zs W h hn
  rw [askO_zero h] at HP
  have HP := Lib.hid HP
  have HS := Lib.hid hS
  have heq : ∀ W : World, (Op.equalIn 10000 104 (.agg #[.int .i64 0, .int .i64 0, .int .i64 0, .int .i64 0, .int .i64 0]) (.agg #[.int .i64 0, .int .i64 0, .int .i64 0, .int .i64 0, .int .i64 0])).run Try.prog W = .ok true W := fun W => by rw [eq_planO]; rfl
  clear hS h
  generalize cOK zs = b at HP
  go_enter Try.func37, Try.ntmps37
  go_wp2_with fail
  refine (HP.out w HS.out).mono ?_
  rintro e w1 ⟨rfl, hb⟩
  have HT := Lib.hid (FiveO.new w1 (.int .i64 0) (.int .i64 0) (.int .i64 0) (.int .i64 0) (.int .i64 0) w1.heap.size rfl)
  have HB := Lib.hid (hb.alloc hb.size (.cells #[.int .i64 0, .int .i64 0, .int .i64 0, .int .i64 0, .int .i64 0] 104))
  clear hb
  go_upto_region 2 with fail
  generalize w1.alloc (.cells #[.int .i64 0, .int .i64 0, .int .i64 0, .int .i64 0, .int .i64 0] 104) = w2 at HT HB ⊢
  have c0 := HT.out.c0
  have c1 := HT.out.c1
  have c2 := HT.out.c2
  have c3 := HT.out.c3
  have c4 := HT.out.c4
  go_wp2
  go_ret2
  exact ⟨_, 0, rfl, empty_res _ _ HB.out.size, HB.out.alloc HB.out.size _⟩
set_option maxRecDepth 100000 in
set_option maxHeartbeats 4000000 in
theorem oneWaySplit_impl_yes (A : Option Addr) (c lo hi : Nat) (zs : List Int) (w : World) (hS : Ins w lo hi A zs) (hn : zs.length ≤ 1048576) (h : askO zs = true) :
    Calls Try.prog 37 #[.slice A zs.length c] w fun e w' => ∃ B c', e = .returned (.tuple #[.slice B zs.length c', .bool true]) ∧ Res w' w.heap.size w'.heap.size B (lstR zs.length (planLO zs).first) ∧ Below w.heap.size w w' := by
  have HP := fun W h => oneWayPlanOf_any A c lo hi zs W h hn
  obtain ⟨r, hr, hw, h8, h1, hpl⟩ := askO_row h
  rw [hpl] at HP ⊢
  have HP := Lib.hid HP
  have HS := Lib.hid hS
  have hp := hw.le
  have hpos := needO_pos h1 h8
  have hnd := planO_need h8
  have HLo := Lib.hid (fun W => listOf_any zs.length (planO r).first W (fits_wide hw (planO_fits h8)))
  have heq : ∀ W : World, (Op.equalIn 10000 104 (.agg #[.int .i64 ((planO r).need : Int), .int .i64 ((planO r).few : Int), .int .i64 ((planO r).first.1 : Int), .int .i64 ((planO r).first.2.1 : Int), .int .i64 ((planO r).first.2.2 : Int)]) (.agg #[.int .i64 0, .int .i64 0, .int .i64 0, .int .i64 0, .int .i64 0])).run Try.prog W = .ok false W := fun W => by
    rw [eq_planO, decide_eq_false (by omega)]
    rfl
  clear hS h hr hpl hnd hpos hw
  generalize planO r = P at HP HLo heq ⊢
  generalize zs.length = n at HP HLo hp hn ⊢
  generalize cOK zs = b at HP
  go_enter Try.func37, Try.ntmps37
  go_wp2_with fail
  refine (HP.out w HS.out).mono ?_
  rintro e w1 ⟨rfl, hb⟩
  have HT := Lib.hid (FiveO.new w1 (.int .i64 (P.need : Int)) (.int .i64 (P.few : Int)) (.int .i64 (P.first.1 : Int)) (.int .i64 (P.first.2.1 : Int)) (.int .i64 (P.first.2.2 : Int)) w1.heap.size rfl)
  have HB := Lib.hid (hb.alloc hb.size (.cells #[.int .i64 (P.need : Int), .int .i64 (P.few : Int), .int .i64 (P.first.1 : Int), .int .i64 (P.first.2.1 : Int), .int .i64 (P.first.2.2 : Int)] 104))
  clear hb
  go_upto_region 2 with fail
  generalize w1.alloc (.cells #[.int .i64 (P.need : Int), .int .i64 (P.few : Int), .int .i64 (P.first.1 : Int), .int .i64 (P.first.2.1 : Int), .int .i64 (P.first.2.2 : Int)] 104) = w2 at HT HB ⊢
  have c0 := HT.out.c0
  have c1 := HT.out.c1
  have c2 := HT.out.c2
  have c3 := HT.out.c3
  have c4 := HT.out.c4
  go_wp2_with fail
  refine (HLo.out w2).mono ?_
  rintro e w3 ⟨g, rfl, hg, hrow, hb⟩
  have hsz := HB.out.size
  have HR := Lib.hid hrow
  replace HB := Lib.hid (below_trans HB.out hb)
  clear hb hrow
  go_wp2
  go_ret2
  exact ⟨some ⟨g, 0, none⟩, n, rfl, ⟨.inr ⟨g, _, rfl, by omega, row_ltI HR.out, HR.out, by simp, fun j x hx => by simp [hx]⟩, Nat.le_refl _⟩, HB.out⟩
end Go.Proofs.Ytdkffkgoalgjmac
namespace Go.Proofs.Ytdkffkgoalgjmac
open Go.RowKit Go.ChangeShapes Go.WideShapes Go.Maps
set_option linter.unusedVariables false

theorem l1LeastO_any (x y : Int) (w : World) :
    Calls Try.prog 145 #[.int .i64 x, .int .i64 y] w fun e w' => e = .returned (.int .i64 (if x ≤ y then x else y)) ∧ w' = w := by
  by_cases h : x < y
  · rw [if_pos (by omega)]
    go_enter Try.func145, Try.ntmps145
    go_wp2
    go_ret
    exact ⟨rfl, rfl⟩
  · by_cases h2 : x = y
    · subst h2
      rw [if_pos (by omega)]
      go_enter Try.func145, Try.ntmps145
      go_wp2
      go_ret
      exact ⟨rfl, rfl⟩
    · have h3 : y < x := by omega
      rw [if_neg (by omega)]
      go_enter Try.func145, Try.ntmps145
      go_wp2
      go_ret
      exact ⟨rfl, rfl⟩
theorem l10First_any (A : Option Addr) (c lo hi_ : Nat) (A2 : Option Addr) (c2 lo2 hi2 : Nat) (p : Nat) (r : Row) (w : World) (hS : Ins w lo hi_ A (lstR p r)) (hS2 : Ins w lo2 hi2 A2 (foundLO p 10)) (hw : Wide p r) (h8 : rsum r ≤ 8) (h1 : 1 < rsum r) :
    Calls Try.prog 98 #[.slice A p c, .slice A2 (9 ^ p) c2, .int .i64 ((needO r : Nat) : Int)] w fun e w' => ∃ g cap, e = .returned (.slice (some ⟨g, 0, none⟩) p cap) ∧ w.heap.size ≤ g ∧ Own w' g (g + 1) (some ⟨g, 0, none⟩) (lstR p (planO r).first) ∧ Below w.heap.size w w' := by
  have hm : min 10 (needO r) = needO r := by have := needO_le h8; omega
  have h := l10Best_any A c lo hi_ A2 c2 lo2 hi2 p 10 (needO r) r w hS hS2 hw h8
  rw [hm] at h
  refine h.mono ?_
  rintro e w' ⟨hb, v, rfl, hv⟩
  obtain ⟨f1, f2, f3, f4⟩ := first_at h8 h1
  rcases hv with ⟨i, g, cap, hi, hl, hno, rfl, hg, ho⟩ | ⟨hno, _⟩
  · have e : i = firstI r := by
      rcases Nat.lt_trichotomy i (firstI r) with h2 | h2 | h2
      · rw [f4 i h2] at hl; cases hl
      · exact h2
      · have h3 := hno _ h2
        rw [f2, f3] at h3
        cases h3
    subst e
    rw [f2] at ho
    exact ⟨g, cap, rfl, hg, ho, hb⟩
  · have h3 := hno _ f1
    rw [f2, f3] at h3
    cases h3
/-- What a row of the needs holds. -/
theorem foundO_cell {w : World} {lo hi : Nat} {A : Option Addr} {p : Nat} {r : Row} (hS : Ins w lo hi A (foundLO p 10)) (hw : Wide p r) (h8 : rsum r ≤ 8) : ∃ b o, A = some ⟨b, o, none⟩ ∧ b < w.heap.size ∧ w.cell? ⟨b, o + keyR r, none⟩ = some (.int .i64 ((needO r : Nat) : Int)) := by
  have hkl := key_lt hw h8
  obtain ⟨b, o, e, _, hb, hc⟩ := hS.ints.at_ (k := keyR r) (by rw [foundL_lenO]; exact hkl)
  rw [foundL_atO, foundO_all h8] at hc
  have := hS.top
  exact ⟨b, o, e, by omega, hc⟩
def PathsLess (m : Nat) : Prop := ∀ (p : Nat) (r : Row), massR r < m → Wide p r → rsum r ≤ 8 → ∀ (A : Option Addr) (c lo hi : Nat) (A2 : Option Addr) (c2 lo2 hi2 : Nat) (w : World), Ins w lo hi A (lstR p r) → Ins w lo2 hi2 A2 (foundLO p 10) →
  Calls Try.prog 100 #[.slice A p c, .slice A2 (9 ^ p) c2] w fun e w' => e = .returned (.tuple #[.int .i64 ((fewO r : Nat) : Int), .int .i64 ((needO r : Nat) : Int)]) ∧ Below w.heap.size w w'
set_option maxRecDepth 100000 in
set_option maxHeartbeats 4000000 in
theorem paths_step (m : Nat) (HP : PathsLess m) (p : Nat) (r : Row) (hr : massR r < m + 1) (hw : Wide p r) (h8 : rsum r ≤ 8) (A : Option Addr) (c lo hi : Nat) (A2 : Option Addr) (c2 lo2 hi2 : Nat) (w : World) (hS : Ins w lo hi A (lstR p r)) (hS2 : Ins w lo2 hi2 A2 (foundLO p 10)) :
    Calls Try.prog 100 #[.slice A p c, .slice A2 (9 ^ p) c2] w fun e w' => e = .returned (.tuple #[.int .i64 ((fewO r : Nat) : Int), .int .i64 ((needO r : Nat) : Int)]) ∧ Below w.heap.size w w' := by
  have hp := hw.le
  have hp9 := pow9 hp
  have HTd := Lib.hid (fun W h => l4Told_any A c lo hi p r W h hw (fun i => comp_le h8 i))
  have HS := Lib.hid hS
  have HS2 := Lib.hid hS2
  by_cases hT : rsum r ≤ 1
  · rw [decide_eq_true hT] at HTd
    have e1 := needO_told hT
    have e2 : fewO r = 0 := by rw [← planO_few h8, planO_told hT]
    rw [e1, e2]
    clear hS hS2 HP
    go_enter Try.func100, Try.ntmps100
    go_wp2_with fail
    refine (HTd.out w HS.out).mono ?_
    rintro e w1 ⟨rfl, rfl⟩
    go_wp2
    go_ret2
    exact ⟨rfl, Below.refl _ _⟩
  · rw [decide_eq_false hT] at HTd
    have h1 : 1 < rsum r := by omega
    obtain ⟨n1, n2⟩ := first_ne h8 h1
    have hf := planO_fits h8
    have hm1 := massO_yes hf n2
    have hm2 := massO_no hf n1
    have hws := fits_wide hw hf
    have hwn := (yes_wide hw hf).2
    have hs8 := fit_sum h8 hf
    have hn8 := (yes_sum h8 hf).2
    have HK := Lib.hid (fun W h => l4Key_any A c lo hi p r W h hw h8)
    have HB := Lib.hid (fun W h h2 => l10First_any A c lo hi A2 c2 lo2 hi2 p r W h h2 hw h8 h1)
    have HPs := Lib.hid (fun B cB lB hB W h h2 => HP p (planO r).first (by omega) hws hs8 B cB lB hB A2 c2 lo2 hi2 W h h2)
    have HPn := Lib.hid (fun B cB lB hB W h h2 => HP p (noR r (planO r).first) (by omega) hwn hn8 B cB lB hB A2 c2 lo2 hi2 W h h2)
    have HN := Lib.hid (fun B cB lB hB W h h2 => l4No_any A c lo hi B cB lB hB p r (planO r).first W h h2 hw h8 hf)
    obtain ⟨v1, v2⟩ := first_val h8 h1
    have V1 : Hid (needO r = 1 + max (needO (planO r).first) (needO (noR r (planO r).first))) := Lib.hid v1
    have V2 : Hid (fewO r = 1 + min (fewO (planO r).first) (fewO (noR r (planO r).first))) := Lib.hid v2
    have b1 := needO_le hs8
    have b2 := needO_le hn8
    have b3 := fewO_le hs8
    have b4 := fewO_le hn8
    have hkl := key_lt hw h8
    obtain ⟨bq, oq, hAq, hbq, hcq⟩ := foundO_cell hS2 hw h8
    subst hAq
    have HLe := Lib.hid (fun x y W => l1LeastO_any x y W)
    have HMo := Lib.hid (fun x y W => l1Most_any x y W)
    clear hS hS2 HP v1 v2 hm1 hm2 hws hwn hs8 hn8 n1 n2
    generalize keyR r = ky at HK hkl hcq
    generalize needO r = nd at hcq V1 HB ⊢
    generalize fewO r = fw at V2 ⊢
    generalize noR r (planO r).first = N at HPn HN V1 V2 b2 b4
    generalize (planO r).first = F at HPs HN HB V1 V2 b1 b3
    generalize needO F = nf at V1 b1 HPs
    generalize needO N = nn at V1 b2 HPn
    generalize fewO F = ff at V2 b3 HPs
    generalize fewO N = fn at V2 b4 HPn
    generalize 9 ^ p = top at hkl hp9 HB HPs HPn ⊢
    have hkI : (ky : Int) < (top : Int) := by omega
    go_enter Try.func100, Try.ntmps100
    go_wp2_with fail
    refine (HTd.out w HS.out).mono ?_
    rintro e w1 ⟨rfl, rfl⟩
    go_wp2_with fail
    refine (HK.out w1 HS.out).mono ?_
    rintro e w2 ⟨rfl, rfl⟩
    go_wp2_with fail
    refine (HB.out w2 HS.out HS2.out).mono ?_
    rintro e w3 ⟨gs, cs, rfl, hgs, hos, hb3⟩
    have HB3 := Lib.hid hb3
    have HO3 := Lib.hid hos
    have HS3 := Lib.hid (HS.out.step hb3)
    have HS23 := Lib.hid (HS2.out.step hb3)
    clear hb3 hos hcq HK HB HTd
    go_wp2_with fail
    refine (HPs.out (some ⟨gs, 0, none⟩) cs gs (gs + 1) w3 ⟨HO3.out.ints, own_lt HO3.out⟩ HS23.out).mono ?_
    rintro e w4 ⟨rfl, hb4⟩
    have HB4 := Lib.hid (below_trans HB3.out hb4)
    have HO4 := Lib.hid (own_same HO3.out (hb4.block gs (own_lt HO3.out)))
    have HS4 := Lib.hid (HS3.out.step hb4)
    have HS24 := Lib.hid (HS23.out.step hb4)
    clear hb4 HPs
    go_wp2_with fail
    refine (HN.out (some ⟨gs, 0, none⟩) cs gs (gs + 1) w4 HS4.out ⟨HO4.out.ints, own_lt HO4.out⟩).mono ?_
    rintro e w5 ⟨gn, cn, rfl, hgn, hon, hb5⟩
    have HB5 := Lib.hid (below_trans HB4.out hb5)
    have HO5 := Lib.hid hon
    have HS25 := Lib.hid (HS24.out.step hb5)
    clear hb5 hon HN
    go_wp2_with fail
    refine (HPn.out (some ⟨gn, 0, none⟩) cn gn (gn + 1) w5 ⟨HO5.out.ints, own_lt HO5.out⟩ HS25.out).mono ?_
    rintro e w6 ⟨rfl, hb6⟩
    have HB6 := Lib.hid (below_trans HB5.out hb6)
    clear hb6 HPn
    go_wp2_with fail
    refine (HLe.out _ _ w6).mono ?_
    rintro e w7 ⟨rfl, rfl⟩
    rw [show (if (ff : Int) ≤ (fn : Int) then (ff : Int) else (fn : Int)) = ((min ff fn : Nat) : Int) from by split <;> omega]
    have e1 : 1 + ((min ff fn : Nat) : Int) = (fw : Int) := by have := V2.out; omega
    generalize min ff fn = mn at e1 ⊢
    have hmn : mn ≤ 20 := by have := V2.out; omega
    have E1 := Lib.hid e1
    clear e1
    go_wp2_with fail
    refine (HMo.out _ _ w7).mono ?_
    rintro e w8 ⟨rfl, rfl⟩
    rw [show (if (nn : Int) ≤ (nf : Int) then (nf : Int) else (nn : Int)) = ((max nf nn : Nat) : Int) from by split <;> omega]
    have e2 : 1 + ((max nf nn : Nat) : Int) = (nd : Int) := by have := V1.out; omega
    generalize max nf nn = mx at e2 ⊢
    have hmx : mx ≤ 20 := by have := V1.out; omega
    have E2 := Lib.hid e2
    clear e2
    go_wp2
    go_ret2
    exact ⟨by simp [E1.out, E2.out], HB6.out⟩
theorem pathsLess : ∀ m, PathsLess m
  | 0 => fun p r h => absurd h (by omega)
  | m + 1 => fun p r h hw h8 A c lo hi A2 c2 lo2 hi2 w hS hS2 => paths_step m (pathsLess m) p r h hw h8 A c lo hi A2 c2 lo2 hi2 w hS hS2
end Go.Proofs.Ytdkffkgoalgjmac
namespace Go.Proofs.Ytdkffkgoalgjmac
open Go.RowKit Go.ChangeShapes Go.WideShapes
set_option linter.unusedVariables false

def ndG (f : Nat → Int) (k : Nat) : List Int := (List.range k).map f
theorem ndG_len (f : Nat → Int) (k : Nat) : (ndG f k).length = k := by simp [ndG]
theorem row_res4 {w : World} {l : List Int} {lo g : Nat} (h : lo ≤ g) (hr : w.heap[g]? = some (.cells (l.map (Value.int .i64)).toArray 3 (0, 0))) : Res w lo w.heap.size (some ⟨g, 0, none⟩) l :=
  ⟨.inr ⟨g, _, rfl, h, row_ltI hr, hr, by simp, fun j x hx => by simp [hx]⟩, Nat.le_refl _⟩
theorem res_low {w : World} {lo lo' hi : Nat} {A : Option Addr} {l : List Int} (h : Res w lo hi A l) (hl : lo' ≤ lo) : Res w lo' hi A l :=
  ⟨h.own.imp id fun ⟨g, cur, a, b, r⟩ => ⟨g, cur, a, Nat.le_trans hl b, r⟩, h.top⟩
theorem within_one {lo hi g : Nat} {a w : World} (h : Within lo hi a w) (hg : a.heap.size ≤ g) (i : Nat) (u : Value) : Within lo hi a (w.setCell ⟨g, i, none⟩ u) :=
  ⟨h.os, h.tape, h.output, by simpa [World.setCell] using h.size, fun j hj hn => (Below.heap_setCell w ⟨g, i, none⟩ u j (fun e => by have e' : j = g := e; omega)).trans (h.block j hj hn)⟩
theorem makeTabG (f : Nat → Int) (w : World) : (Instr.makeSlice 26 (.int .i64 8) (.int .i64 8)).run Try.prog w = .ok (.slice (some ⟨w.heap.size, 0, none⟩) 8 8) (w.alloc (.cells ((upd f 8 0).map (Value.int .i64)).toArray 3)) := by
  rw [upd_zero]
  simpa using makeInts 8 (by omega) w
set_option maxRecDepth 100000 in
set_option maxHeartbeats 2000000 in
theorem freshNeeds_any (m f M : Nat) (nf : Nat → Int) (PM : World → Prop) (w : World) (hm : m ≤ 2)
    (hcf : ∀ args W, (callFunc f args).run Try.prog W = .ok (.enter f args) W)
    (hheap : ∀ W W' : World, PM W → W'.heap[M]? = W.heap[M]? → PM W') (hlt : ∀ W : World, PM W → M < W.heap.size)
    (hcall : ∀ (k : Nat), k < 8 → ∀ W : World, PM W → Calls Try.prog f #[.map (some M), .agg #[.int .i64 ((freshR m (k + 1)).1 : Int), .int .i64 ((freshR m (k + 1)).2.1 : Int), .int .i64 ((freshR m (k + 1)).2.2 : Int)]] W fun e w' => e = .returned (.int .i64 (nf k)) ∧ PM w' ∧ Within M (M + 1) W w')
    (hpm : PM w) :
    Calls Try.prog 108 #[.int .i64 (m : Int), .func (.func f) #[.map (some M)] #[]] w fun e w' => ∃ B c', e = .returned (.tuple #[.slice B (ndG nf 8).length c', .bool true]) ∧ Res w' w.heap.size w'.heap.size B (ndG nf 8) ∧ Within M (M + 1) w w' := by
  have HC := Lib.hid (fun W => isMost_any (m : Int) W)
  rw [inB_t (by omega) (by omega)] at HC
  have hms := makeTabG nf
  have HCF := Lib.hid hcf
  have HHp := Lib.hid hheap
  have HLt := Lib.hid hlt
  have HCall := Lib.hid hcall
  have HM0 := Lib.hid hpm
  have HFin : Hid ((upd nf 8 8) = ndG nf 8) := Lib.hid (upd_all nf 8)
  clear hcf hheap hlt hcall hpm
  rw [ndG_len]
  go_enter Try.func108, Try.ntmps108
  go_wp2_with fail
  refine (HC.out w).mono ?_
  rintro e w1 ⟨rfl, rfl⟩
  clear HC
  generalize hRW : ((upd nf 8 0).map (Value.int .i64)).toArray = RW at hms
  have HRW := Lib.hid hRW
  clear hRW
  have hMl := HLt.out w1 HM0.out
  go_upto_region 4 with fail
  clear hms
  have HA := (Below.refl w1.heap.size w1).alloc (Nat.le_refl _) (.cells RW 3)
  have HR := Lib.hid (alloc_row' w1 RW 3 w1.heap.size rfl)
  have HM := Lib.hid (HHp.out w1 _ HM0.out (HA.block M hMl))
  have HW : Hid (Within M (M + 1) w1 (w1.alloc (.cells RW 3))) := Lib.hid (Within.of_below HA)
  generalize w1.alloc (.cells RW 3) = wa at HR HM HW ⊢
  clear HA HM0
  rw [← HRW.out] at HR
  clear HRW
  go_wp2_with fail
  go_loopw [15] (fun i wr => ∃ (k : Nat), k ≤ 8 ∧ i = .int .i64 (k : Int) ∧ Hid (wr.heap[w1.heap.size]? = some (.cells ((upd nf 8 k).map (Value.int .i64)).toArray 3 (0, 0))) ∧ Hid (PM wr) ∧ Hid (Within M (M + 1) w1 wr)) (fun i _ => 8 - (intOf i).toNat)
  case atStart => exact ⟨0, by omega, rfl, HR, HM, HW⟩
  case round =>
    clear HR HM HW
    obtain ⟨k, hk, rfl, HR, HM, HW⟩ := hrel
    rename World => w3
    by_cases hk8 : k < 8
    · have HFk := fun W => freshCounts_any m (k + 1) W hm
      rw [show ((k + 1 : Nat) : Int) = (k : Int) + 1 from by omega] at HFk
      have HFk := Lib.hid HFk
      have HPk := Lib.hid (HCall.out k hk8)
      have hrow := HR.out
      have hcell := getD_cell hrow (i := k) (by rw [upd_len]; exact hk8)
      have HF := Lib.hid (upd_set nf 8 k)
      generalize freshR m (k + 1) = r at *
      generalize nf k = x at HF HPk
      have hgl := row_ltI hrow
      have hsB := HW.out.size
      generalize (upd nf 8 k).getD k 0 = z at hcell
      go_wp2_with fail
      refine (HFk.out w3).mono ?_
      rintro e w4 ⟨rfl, hb4⟩
      have HM4 := Lib.hid (HHp.out w3 w4 HM.out (hb4.block M (HLt.out w3 HM.out)))
      have HW4 := Lib.hid (HW.out.trans (Within.of_below hb4))
      have hrow4 := (hb4.block _ hgl).trans hrow
      have hcell4 := (hb4.cell (p := ⟨w1.heap.size, k, none⟩) hgl).trans hcell
      have hs4 := hb4.size
      clear hb4 hcell hrow HM HW HR HFk
      go_wp2_with fail
      rw [HCF.out, Oper.upon_enter]
      refine (HPk.out w4 HM4.out).mono ?_
      rintro e w5 ⟨rfl, hpm5, hw5⟩
      have hrow5 := (hw5.block w1.heap.size (by omega) (by omega)).trans hrow4
      have hcell5 := (World.cell?_of_block (a := ⟨w1.heap.size, k, none⟩) (hw5.block w1.heap.size (by omega) (by omega))).trans hcell4
      have HW5 := Lib.hid (HW4.out.trans hw5)
      have hfr := row_freeI hrow5 k
      have HR6 := Lib.hid (row_setI hrow5 k (.int .i64 x))
      rw [map_set, HF.out] at HR6
      have hne : M ≠ w1.heap.size := by omega
      have HM6 := Lib.hid (HHp.out w5 _ hpm5 (Below.heap_setCell w5 ⟨w1.heap.size, k, none⟩ (.int .i64 x) M hne))
      have HW6 := Lib.hid (within_one HW5.out (Nat.le_refl _) k (.int .i64 x))
      clear hrow5 hrow4 hcell4 HM4 HW4 HPk HF hpm5 hw5 HW5
      go_wp2
      go_roundw
      case rel => exact ⟨k + 1, by omega, by go_num, HR6, HM6, HW6⟩
      case measure => simp [intOf]; omega
    · obtain rfl : k = 8 := by omega
      rw [HFin.out] at HR
      have HRes := Lib.hid (row_res4 (Nat.le_refl w1.heap.size) HR.out)
      go_wp2
      go_ret2
      exact ⟨_, 8, rfl, HRes.out, HW.out⟩
theorem freshNeeds_no (m : Int) (f M : Nat) (w : World) (h : inB m 0 2 = false) :
    Calls Try.prog 108 #[.int .i64 m, .func (.func f) #[.map (some M)] #[]] w fun e w' => ∃ B c', e = .returned (.tuple #[.slice B 0 c', .bool false]) ∧ Res w' w.heap.size w'.heap.size B [] ∧ Below w.heap.size w w' := by
  have HC := Lib.hid (fun W => isMost_any m W)
  rw [h] at HC
  go_enter Try.func108, Try.ntmps108
  go_wp2_with (first | (go_at_call 71; refine (HC.out _).mono ?_; rintro e w1 ⟨rfl, rfl⟩))
  go_ret2
  exact ⟨_, 0, rfl, empty_res _ _ (Nat.le_refl _), (Below.refl _ _).alloc (Nat.le_refl _) _⟩

/-- The last place of the table that q questions reach, from 1; 0 where none. -/
def mbG (f : Nat → Int) (q : Int) : Nat → Int
  | 0 => 0
  | k + 1 => if f k ≤ q then (k : Int) + 1 else mbG f q k
theorem mbG_bd (f : Nat → Int) (q : Int) : ∀ k, 0 ≤ mbG f q k ∧ mbG f q k ≤ k
  | 0 => by simp [mbG]
  | k + 1 => by
    have := mbG_bd f q k
    unfold mbG
    split <;> omega
theorem mbG_above {f : Nat → Int} {j : Nat} {q : Int} (h : ∀ i, j ≤ i → i < 8 → ¬ f i ≤ q) : ∀ d, j + d ≤ 8 → mbG f q (j + d) = mbG f q j
  | 0, _ => rfl
  | d + 1, hd => by
    show (if f (j + d) ≤ q then _ else _) = _
    rw [if_neg (h (j + d) (by omega) (by omega))]
    exact mbG_above h d (by omega)
theorem mbG_eq {f : Nat → Int} {j : Nat} {q : Int} (hm : ∀ i d, i + d ≤ 7 → f i ≤ f (i + d)) (hj : j ≤ 7) (h1 : f j ≤ q) (h2 : j = 7 ∨ ¬ f (j + 1) ≤ q) : mbG f q 8 = (j : Int) + 1 := by
  have ha : mbG f q (j + 1) = (j : Int) + 1 := if_pos h1
  rw [← ha]
  obtain ⟨d, hd⟩ : ∃ d, 8 = (j + 1) + d := ⟨7 - j, by omega⟩
  have := mbG_above (f := f) (q := q) (j := j + 1) (fun i hi h8 hn => by
    rcases h2 with h2 | h2
    · omega
    · obtain ⟨e, rfl⟩ : ∃ e, i = (j + 1) + e := ⟨i - (j + 1), by omega⟩
      exact h2 (Int.le_trans (hm (j + 1) e (by omega)) hn)) d (by omega)
  rw [hd]
  exact this
set_option maxRecDepth 100000 in
set_option maxHeartbeats 2000000 in
theorem mostWithin_any (f : Nat → Int) (q : Int) (A : Option Addr) (c lo hi : Nat) (w : World) (hS : Ins w lo hi A (ndG f 8)) (hq0 : 0 ≤ q) (hq1 : q ≤ 20) :
    Calls Try.prog 112 #[.slice A (ndG f 8).length c, .int .i64 q] w fun e w' => e = .returned (.tuple #[.int .i64 (mbG f q 8), .bool true]) ∧ w' = w := by
  have HL := Lib.hid (ndG_len f 8)
  have HAt := Lib.hid (fun k (h : k < (ndG f 8).length) => show (ndG f 8)[k] = f k by simp [ndG])
  have HBd := Lib.hid (mbG_bd f q)
  have HR := Lib.hid hS
  clear hS
  rw [HL.out]
  go_enter Try.func112, Try.ntmps112
  go_wp2_with fail
  go_loopw [6, 22] (fun r i wr => ∃ (k : Nat), k ≤ 8 ∧ i = .int .i64 (k : Int) ∧ r = .int .i64 (mbG f q k) ∧ wr = w) (fun _ i _ => 8 - (intOf i).toNat)
  case atStart => exact ⟨0, by omega, rfl, rfl, rfl⟩
  case round =>
    obtain ⟨k, hk, rfl, rfl, hwr⟩ := hrel
    have hwr := hwr.symm
    subst hwr
    by_cases hlt : k < 8
    · obtain ⟨b, o, rfl, _, hb, hc⟩ := HR.out.ints.at_ (k := k) (by rw [HL.out]; exact hlt)
      rw [HAt.out k (by rw [HL.out]; exact hlt)] at hc
      have hbk := HBd.out k
      have hF : mbG f q (k + 1) = if f k ≤ q then (k : Int) + 1 else mbG f q k := rfl
      have HF := Lib.hid hF
      clear hF
      generalize f k = x at hc HF
      generalize mbG f q k = y at hbk HF ⊢
      by_cases hx : x ≤ q
      · rw [if_pos hx] at HF
        go_wp2
        go_roundw
        case rel => exact ⟨k + 1, by omega, by go_num, by rw [HF.out], by first | trivial | rfl⟩
        case measure => simp [intOf]; omega
      · rw [if_neg hx] at HF
        go_wp2
        go_roundw
        case rel => exact ⟨k + 1, by omega, by go_num, by rw [HF.out], by first | trivial | rfl⟩
        case measure => simp [intOf]; omega
    · have hk8 : k = 8 := by omega
      subst hk8
      go_wp2
      go_ret2
      exact ⟨rfl, rfl⟩
theorem mostWithin_no (A : Option Addr) (n c : Nat) (q : Int) (w : World) (hn : n ≤ 1048576) (h : n = 0 ∨ q < 0 ∨ 20 < q) :
    Calls Try.prog 112 #[.slice A n c, .int .i64 q] w fun e w' => e = .returned (.tuple #[.int .i64 0, .bool false]) ∧ w' = w := by
  rcases Nat.eq_zero_or_pos n with h0 | h0
  · subst h0
    go_enter Try.func112, Try.ntmps112
    go_wp2
    all_goals
      go_ret2
      exact ⟨rfl, rfl⟩
  · have h1 : q < 0 ∨ 20 < q := by omega
    clear h
    rcases h1 with h1 | h1
    all_goals
      go_enter Try.func112, Try.ntmps112
      go_wp2
      all_goals
        go_ret2
        exact ⟨rfl, rfl⟩
end Go.Proofs.Ytdkffkgoalgjmac
namespace Go.Proofs.Ytdkffkgoalgjmac
open Go.RowKit Go.ChangeShapes Go.WideShapes Go.Maps
set_option linter.unusedVariables false

theorem planLO_need (zs : List Int) : ((planLO zs).need : Int) = if cOK zs then ((needO (rowL zs) : Nat) : Int) else 0 := by
  cases h : cOK zs with
  | false => rw [planLO_no h]; rfl
  | true =>
    obtain ⟨r, hr, hw, h8⟩ := cOK_row h
    rw [planLO_yes (p := 0) h hr hw, planO_need h8, rowL_eq hr hw]
    rfl
theorem planLO_few (zs : List Int) : ((planLO zs).few : Int) = if cOK zs then ((fewO (rowL zs) : Nat) : Int) else 0 := by
  cases h : cOK zs with
  | false => rw [planLO_no h]; rfl
  | true =>
    obtain ⟨r, hr, hw, h8⟩ := cOK_row h
    rw [planLO_yes (p := 0) h hr hw, planO_few h8, rowL_eq hr hw]
    rfl
set_option maxRecDepth 100000 in
set_option maxHeartbeats 4000000 in
theorem oneWayNeed_spec (A : Option Addr) (c lo hi : Nat) (zs : List Int) (w : World) (hS : Ins w lo hi A zs) (hn : zs.length ≤ 1048576) :
    Calls Try.prog 35 #[.slice A zs.length c] w fun e w' => e = .returned (.tuple #[.int .i64 (if cOK zs then ((needO (rowL zs) : Nat) : Int) else 0), .bool (cOK zs)]) ∧ Below w.heap.size w w' := by
  have HC := Lib.hid (fun W h => l4Counts_any A c lo hi zs W h hn)
  have HS := Lib.hid hS
  clear hS
  cases hok : cOK zs with
  | false =>
    rw [hok] at HC
    go_enter Try.func35, Try.ntmps35
    go_wp2_with fail
    refine (HC.out w HS.out).mono ?_
    rintro e w1 ⟨rfl, rfl⟩
    go_wp2
    go_ret2
    exact ⟨rfl, Below.refl _ _⟩
  | true =>
    rw [hok] at HC
    obtain ⟨r, hr, hw, h8⟩ := cOK_row hok
    rw [if_pos rfl, rowL_eq hr hw]
    have hp := hw.le
    generalize zs.length = p at *
    have HNs := Lib.hid (fun W => l10Needs_any p W hp)
    have HK := Lib.hid (fun W h => l4Key_any A c lo hi p r W h hw h8)
    rw [← hr] at HK
    have hkl := key_lt hw h8
    have HFA := Lib.hid (foundO_all h8)
    have HFL := Lib.hid (foundL_lenO p 10)
    clear hok hr
    generalize keyR r = ky at HK hkl HFA
    have hkyI : (ky : Int) < ((9 ^ p : Nat) : Int) := by omega
    go_enter Try.func35, Try.ntmps35
    go_wp2_with fail
    refine (HC.out w HS.out).mono ?_
    rintro e w1 ⟨rfl, rfl⟩
    clear HC
    go_wp2_with fail
    refine (HNs.out w1).mono ?_
    rintro e w2 ⟨g, cg, rfl, hg, ho, hb⟩
    have HB := Lib.hid hb
    have HS2 := Lib.hid (HS.out.step hb)
    have hcell := own_cell ho (k := ky) (by rw [HFL.out]; exact hkl)
    rw [show (foundLO p 10).getD ky 0 = ((needO r : Nat) : Int) from by rw [← HFA.out]; simp [foundLO, List.getD, hkl]] at hcell
    clear hb ho HNs
    go_wp2_with fail
    refine (HK.out w2 HS2.out).mono ?_
    rintro e w3 ⟨rfl, rfl⟩
    go_wp2
    go_ret2
    exact ⟨rfl, HB.out⟩
theorem oneWayNeed_both (zs : List Int) (h : zs.length ≤ 1048576) : ∃ (r0 : Int) (r1 : Bool),
    (∀ (w : World) (B : Option Addr) (c lo hi : Nat), Ins w lo hi B zs → Calls Try.prog 34 #[.slice B zs.length c] w fun e w' => e = .returned (.tuple #[.int .i64 r0, .bool r1]) ∧ Below w.heap.size w w') ∧
    (∀ (w : World) (B : Option Addr) (c lo hi : Nat), Ins w lo hi B zs → Calls Try.prog 35 #[.slice B zs.length c] w fun e w' => e = .returned (.tuple #[.int .i64 r0, .bool r1]) ∧ Below w.heap.size w w') := by
  refine ⟨_, _, fun w B c lo hi hS => ?_, fun w B c lo hi hS => oneWayNeed_spec B c lo hi zs w hS h⟩
  rw [← planLO_need]
  exact oneWayNeed_impl B c lo hi zs w hS h
set_option maxRecDepth 100000 in
set_option maxHeartbeats 4000000 in
theorem oneWayPaths_spec (A : Option Addr) (c lo hi : Nat) (zs : List Int) (w : World) (hS : Ins w lo hi A zs) (hn : zs.length ≤ 1048576) :
    Calls Try.prog 43 #[.slice A zs.length c] w fun e w' => e = .returned (.tuple #[.int .i64 (if cOK zs then ((fewO (rowL zs) : Nat) : Int) else 0), .int .i64 (if cOK zs then ((needO (rowL zs) : Nat) : Int) else 0), .bool (cOK zs)]) ∧ Below w.heap.size w w' := by
  have HC := Lib.hid (fun W h => l4Counts_any A c lo hi zs W h hn)
  have HS := Lib.hid hS
  clear hS
  cases hok : cOK zs with
  | false =>
    rw [hok] at HC
    go_enter Try.func43, Try.ntmps43
    go_wp2_with fail
    refine (HC.out w HS.out).mono ?_
    rintro e w1 ⟨rfl, rfl⟩
    go_wp2
    go_ret3
    exact ⟨rfl, Below.refl _ _⟩
  | true =>
    rw [hok] at HC
    obtain ⟨r, hr, hw, h8⟩ := cOK_row hok
    rw [if_pos rfl, if_pos rfl, rowL_eq hr hw]
    have hp := hw.le
    generalize zs.length = p at *
    have HNs := Lib.hid (fun W => l10Needs_any p W hp)
    have HPt := Lib.hid (fun g c2 W h h2 => pathsLess (massR r + 1) p r (Nat.lt_succ_self _) hw h8 A c lo hi (some ⟨g, 0, none⟩) c2 g (g + 1) W h h2)
    rw [← hr] at HPt
    clear hok hr
    generalize fewO r = fw at HPt ⊢
    generalize needO r = nd at HPt ⊢
    go_enter Try.func43, Try.ntmps43
    go_wp2_with fail
    refine (HC.out w HS.out).mono ?_
    rintro e w1 ⟨rfl, rfl⟩
    clear HC
    go_wp2_with fail
    refine (HNs.out w1).mono ?_
    rintro e w2 ⟨g, cg, rfl, hg, ho, hb⟩
    have HB := Lib.hid hb
    have HS2 := Lib.hid (HS.out.step hb)
    have HO := Lib.hid (own_insO ho)
    clear hb ho HNs
    go_wp2_with fail
    refine (HPt.out g cg w2 HS2.out HO.out).mono ?_
    rintro e w3 ⟨rfl, hb⟩
    have HB3 := Lib.hid (below_trans HB.out hb)
    clear hb
    go_wp2
    go_ret3
    exact ⟨rfl, HB3.out⟩
theorem oneWayPaths_both (zs : List Int) (h : zs.length ≤ 1048576) : ∃ (r0 r1 : Int) (r2 : Bool),
    (∀ (w : World) (B : Option Addr) (c lo hi : Nat), Ins w lo hi B zs → Calls Try.prog 42 #[.slice B zs.length c] w fun e w' => e = .returned (.tuple #[.int .i64 r0, .int .i64 r1, .bool r2]) ∧ Below w.heap.size w w') ∧
    (∀ (w : World) (B : Option Addr) (c lo hi : Nat), Ins w lo hi B zs → Calls Try.prog 43 #[.slice B zs.length c] w fun e w' => e = .returned (.tuple #[.int .i64 r0, .int .i64 r1, .bool r2]) ∧ Below w.heap.size w w') := by
  refine ⟨_, _, _, fun w B c lo hi hS => ?_, fun w B c lo hi hS => oneWayPaths_spec B c lo hi zs w hS h⟩
  rw [← planLO_need, ← planLO_few]
  exact oneWayPaths_impl B c lo hi zs w hS h
set_option maxRecDepth 100000 in
set_option maxHeartbeats 4000000 in
theorem oneWaySplit_spec_no (A : Option Addr) (c lo hi : Nat) (zs : List Int) (w : World) (hS : Ins w lo hi A zs) (hn : zs.length ≤ 1048576) (h : askO zs = false) :
    Calls Try.prog 38 #[.slice A zs.length c] w fun e w' => ∃ B c', e = .returned (.tuple #[.slice B 0 c', .bool false]) ∧ Res w' w.heap.size w'.heap.size B [] ∧ Below w.heap.size w w' := by
  have HC := Lib.hid (fun W h => l4Counts_any A c lo hi zs W h hn)
  have HS := Lib.hid hS
  clear hS
  cases hok : cOK zs with
  | false =>
    rw [hok] at HC
    go_enter Try.func38, Try.ntmps38
    go_wp2_with fail
    refine (HC.out w HS.out).mono ?_
    rintro e w1 ⟨rfl, rfl⟩
    go_wp2
    all_goals
      go_ret2
      exact ⟨_, 0, rfl, empty_res w1 w1.heap.size (Nat.le_refl _), (Below.refl _ _).alloc (Nat.le_refl _) _⟩
  | true =>
    rw [hok] at HC
    obtain ⟨r, hr, hw, h8⟩ := cOK_row hok
    have hT : rsum r ≤ 1 := by
      unfold askO at h
      rw [hok, rowL_eq hr hw] at h
      simpa using h
    have HTd := Lib.hid (fun W h => l4Told_any A c lo hi zs.length r W h hw (fun i => comp_le h8 i))
    rw [← hr, decide_eq_true hT] at HTd
    clear hok hr h hw
    go_enter Try.func38, Try.ntmps38
    go_wp2_with fail
    refine (HC.out w HS.out).mono ?_
    rintro e w1 ⟨rfl, rfl⟩
    go_wp2_with fail
    refine (HTd.out w1 HS.out).mono ?_
    rintro e w2 ⟨rfl, rfl⟩
    go_wp2
    all_goals
      go_ret2
      exact ⟨_, 0, rfl, empty_res w2 w2.heap.size (Nat.le_refl _), (Below.refl _ _).alloc (Nat.le_refl _) _⟩
set_option maxRecDepth 100000 in
set_option maxHeartbeats 4000000 in
theorem oneWaySplit_spec_yes (A : Option Addr) (c lo hi : Nat) (zs : List Int) (w : World) (hS : Ins w lo hi A zs) (hn : zs.length ≤ 1048576) (h : askO zs = true) :
    Calls Try.prog 38 #[.slice A zs.length c] w fun e w' => ∃ B c', e = .returned (.tuple #[.slice B zs.length c', .bool true]) ∧ Res w' w.heap.size w'.heap.size B (lstR zs.length (planLO zs).first) ∧ Below w.heap.size w w' := by
  have HC := Lib.hid (fun W h => l4Counts_any A c lo hi zs W h hn)
  have hok : cOK zs = true := by unfold askO at h; rw [Bool.and_eq_true] at h; exact h.1
  rw [hok] at HC
  obtain ⟨r, hr, hw, h8, h1, hpl⟩ := askO_row h
  rw [hpl]
  have HS := Lib.hid hS
  have hp := hw.le
  have hp9 := pow9 hp
  have hzl := lstR_len hw
  generalize zs.length = p at *
  have HTd := Lib.hid (fun W h => l4Told_any A c lo hi p r W h hw (fun i => comp_le h8 i))
  rw [← hr, decide_eq_false (by omega)] at HTd
  have HNs := Lib.hid (fun W => l10Needs_any p W hp)
  have HK := Lib.hid (fun W h => l4Key_any A c lo hi p r W h hw h8)
  have HBe := Lib.hid (fun g c2 W h h2 => l10First_any A c lo hi (some ⟨g, 0, none⟩) c2 g (g + 1) p r W h h2 hw h8 h1)
  rw [← hr] at HK HBe
  have HCell := Lib.hid (fun (W : World) (g : Nat) (h : Own W g (g + 1) (some ⟨g, 0, none⟩) (foundLO p 10)) => foundO_cell (own_insO h) hw h8)
  have hkl := key_lt hw h8
  have HFs : Hid ((lstR p (planO r).first).length = p) := Lib.hid (lst_len hp _)
  clear hok h hS hr hpl
  generalize keyR r = ky at HK hkl HCell
  generalize needO r = nd at HBe HCell
  generalize lstR p (planO r).first = L at HBe HFs ⊢
  generalize 9 ^ p = top at hkl hp9 HBe HNs
  have hkI : (ky : Int) < (top : Int) := by omega
  go_enter Try.func38, Try.ntmps38
  go_wp2_with fail
  refine (HC.out w HS.out).mono ?_
  rintro e w1 ⟨rfl, rfl⟩
  go_wp2_with fail
  refine (HTd.out w1 HS.out).mono ?_
  rintro e w2 ⟨rfl, rfl⟩
  clear HC HTd
  go_wp2_with fail
  refine (HNs.out w2).mono ?_
  rintro e w3 ⟨g, cg, rfl, hg, ho, hb⟩
  obtain ⟨b, o, e1, hbl, hcell⟩ := HCell.out w3 g ho
  injection e1 with e1
  injection e1 with e1 e2
  subst e1 e2
  rw [Nat.zero_add] at hcell
  have HB := Lib.hid hb
  have HS3 := Lib.hid (HS.out.step hb)
  have HO := Lib.hid (own_insO ho)
  clear hb ho HNs HCell
  go_wp2_with fail
  refine (HK.out w3 HS3.out).mono ?_
  rintro e w4 ⟨rfl, rfl⟩
  go_wp2_with fail
  refine (HBe.out g cg w4 HS3.out HO.out).mono ?_
  rintro e w5 ⟨gs, cs, rfl, hgs, hos, hb⟩
  have HB5 := Lib.hid (below_trans HB.out hb)
  have HOw := Lib.hid (l1OwnS_any gs cs L w5 hos (by have := HFs.out; omega))
  rw [HFs.out] at HOw
  clear hb hos HBe HK hcell
  go_wp2_with fail
  refine (HOw.out).mono ?_
  rintro e w6 ⟨v6, rfl, hown, hb⟩
  obtain ⟨g6, c6, rfl, hB6, hOw6⟩ := own_rowS hown HFs.out.symm (by omega)
  have hs5 := HB5.out.size
  have HO6 := Lib.hid hOw6
  have HB6 := Lib.hid (below_trans HB5.out hb)
  clear hown hb hOw6
  rw [HFs.out]
  go_wp2
  all_goals
    go_ret2
    exact ⟨_, c6, rfl, ⟨HO6.out.wide (by omega) (own_lt HO6.out), Nat.le_refl _⟩, HB6.out⟩
theorem oneWaySplit_both (zs : List Int) (h : zs.length ≤ 1048576) : ∃ (r0 : List Int) (r1 : Bool), r0.length ≤ 1048576 ∧
    (∀ (w : World) (B : Option Addr) (c lo hi : Nat), Ins w lo hi B zs → Calls Try.prog 37 #[.slice B zs.length c] w fun e w' => ∃ B c', e = .returned (.tuple #[.slice B r0.length c', .bool r1]) ∧ Res w' w.heap.size w'.heap.size B r0 ∧ Below w.heap.size w w') ∧
    (∀ (w : World) (B : Option Addr) (c lo hi : Nat), Ins w lo hi B zs → Calls Try.prog 38 #[.slice B zs.length c] w fun e w' => ∃ B c', e = .returned (.tuple #[.slice B r0.length c', .bool r1]) ∧ Res w' w.heap.size w'.heap.size B r0 ∧ Below w.heap.size w w') := by
  cases ha : askO zs with
  | false => exact ⟨[], false, by simp, fun w B c lo hi hS => oneWaySplit_impl_no B c lo hi zs w hS h ha, fun w B c lo hi hS => oneWaySplit_spec_no B c lo hi zs w hS h ha⟩
  | true =>
    obtain ⟨r, hr, hw, _, _, _⟩ := askO_row ha
    have hl : (lstR zs.length (planLO zs).first).length = zs.length := lst_len hw.le _
    refine ⟨lstR zs.length (planLO zs).first, true, by rw [hl]; exact h, fun w B c lo hi hS => ?_, fun w B c lo hi hS => ?_⟩
    · rw [hl]; exact oneWaySplit_impl_yes B c lo hi zs w hS h ha
    · rw [hl]; exact oneWaySplit_spec_yes B c lo hi zs w hS h ha
set_option maxRecDepth 100000 in
set_option maxHeartbeats 4000000 in
theorem savedOneWay_impl (A : Option Addr) (c lo hi : Nat) (zs : List Int) (w : World) (hS : Ins w lo hi A zs) (hn : zs.length ≤ 1048576) :
    Calls Try.prog 40 #[.slice A zs.length c] w fun e w' => e = .returned (.tuple #[.int .i64 ((if cOK zs then ((needR (rowL zs) : Nat) : Int) else 0) - (if cOK zs then ((needO (rowL zs) : Nat) : Int) else 0)), .bool (cOK zs)]) ∧ Below w.heap.size w w' := by
  have H1 := Lib.hid (fun W h => needOf_impl A c lo hi zs W h hn)
  have H2 := fun W h => oneWayNeed_impl A c lo hi zs W h hn
  simp only [planLO_need] at H2
  have H2 := Lib.hid H2
  have HS := Lib.hid hS
  have b1 : (0 : Int) ≤ (if cOK zs then ((needR (rowL zs) : Nat) : Int) else 0) ∧ (if cOK zs then ((needR (rowL zs) : Nat) : Int) else 0) ≤ 20 := by
    cases hok : cOK zs with
    | false => simp
    | true =>
      obtain ⟨r, hr, hw, h8⟩ := cOK_row hok
      rw [rowL_eq hr hw]
      have := need_le h8
      simp only [if_true]
      omega
  have b2 : (0 : Int) ≤ (if cOK zs then ((needO (rowL zs) : Nat) : Int) else 0) ∧ (if cOK zs then ((needO (rowL zs) : Nat) : Int) else 0) ≤ 20 := by
    cases hok : cOK zs with
    | false => simp
    | true =>
      obtain ⟨r, hr, hw, h8⟩ := cOK_row hok
      rw [rowL_eq hr hw]
      have := needO_le h8
      simp only [if_true]
      omega
  clear hS
  generalize (if cOK zs then ((needR (rowL zs) : Nat) : Int) else 0) = x at H1 b1 ⊢
  generalize (if cOK zs then ((needO (rowL zs) : Nat) : Int) else 0) = y at H2 b2 ⊢
  generalize cOK zs = b at H1 H2 ⊢
  go_enter Try.func40, Try.ntmps40
  go_wp2_with fail
  refine (H1.out w HS.out).mono ?_
  rintro e w1 ⟨rfl, hb⟩
  have HB := Lib.hid hb
  have HS1 := Lib.hid (HS.out.step hb)
  clear hb
  go_wp2_with fail
  refine (H2.out w1 HS1.out).mono ?_
  rintro e w2 ⟨rfl, hb⟩
  have HB2 := Lib.hid (below_trans HB.out hb)
  clear hb
  go_wp2
  go_ret2
  exact ⟨rfl, HB2.out⟩
set_option maxRecDepth 100000 in
set_option maxHeartbeats 4000000 in
theorem savedOneWay_spec (A : Option Addr) (c lo hi : Nat) (zs : List Int) (w : World) (hS : Ins w lo hi A zs) (hn : zs.length ≤ 1048576) :
    Calls Try.prog 41 #[.slice A zs.length c] w fun e w' => e = .returned (.tuple #[.int .i64 ((if cOK zs then ((needR (rowL zs) : Nat) : Int) else 0) - (if cOK zs then ((needO (rowL zs) : Nat) : Int) else 0)), .bool (cOK zs)]) ∧ Below w.heap.size w w' := by
  have HC := Lib.hid (fun W h => l4Counts_any A c lo hi zs W h hn)
  have HS := Lib.hid hS
  clear hS
  cases hok : cOK zs with
  | false =>
    rw [hok] at HC
    go_enter Try.func41, Try.ntmps41
    go_wp2_with fail
    refine (HC.out w HS.out).mono ?_
    rintro e w1 ⟨rfl, rfl⟩
    go_wp2
    go_ret2
    exact ⟨rfl, Below.refl _ _⟩
  | true =>
    rw [hok] at HC
    obtain ⟨r, hr, hw, h8⟩ := cOK_row hok
    rw [if_pos rfl, if_pos rfl, rowL_eq hr hw]
    have hp := hw.le
    have hp9 := pow9 hp
    generalize zs.length = p at *
    have HN4 := Lib.hid (fun W => l4Needs_any p W hp)
    have HN0 := Lib.hid (fun W => l10Needs_any p W hp)
    have HK := Lib.hid (fun W h => l4Key_any A c lo hi p r W h hw h8)
    rw [← hr] at HK
    have hkl := key_lt hw h8
    have HC4 : Hid (∀ (W : World) (g : Nat), Own W g (g + 1) (some ⟨g, 0, none⟩) (foundL p 10) → W.cell? ⟨g, keyR r, none⟩ = some (.int .i64 ((needR r : Nat) : Int))) := Lib.hid (fun W g ho => by
      have hcell := own_cell ho (k := keyR r) (by rw [foundL_len]; exact hkl)
      rw [show (foundL p 10).getD (keyR r) 0 = ((needR r : Nat) : Int) from by rw [← found_all h8]; simp [foundL, List.getD, hkl]] at hcell
      exact hcell)
    have HC0 : Hid (∀ (W : World) (g : Nat), Own W g (g + 1) (some ⟨g, 0, none⟩) (foundLO p 10) → W.cell? ⟨g, keyR r, none⟩ = some (.int .i64 ((needO r : Nat) : Int))) := Lib.hid (fun W g ho => by
      obtain ⟨b, o, e1, hbl, hcell⟩ := foundO_cell (own_insO ho) hw h8
      injection e1 with e1
      injection e1 with e1 e2
      subst e1 e2
      rw [Nat.zero_add] at hcell
      exact hcell)
    have b1 := need_le h8
    have b2 := needO_le h8
    clear hok hr hw h8
    generalize keyR r = ky at HK hkl HC4 HC0
    generalize needR r = n4 at HC4 b1 ⊢
    generalize needO r = n0 at HC0 b2 ⊢
    generalize 9 ^ p = top at hkl hp9 HN4 HN0
    have hkI : (ky : Int) < (top : Int) := by omega
    go_enter Try.func41, Try.ntmps41
    go_wp2_with fail
    refine (HC.out w HS.out).mono ?_
    rintro e w1 ⟨rfl, rfl⟩
    clear HC
    go_wp2_with fail
    refine (HK.out w1 HS.out).mono ?_
    rintro e w2 ⟨rfl, rfl⟩
    clear HK
    go_wp2_with fail
    go_region_with (first
      | (go_at_call 93; refine (HN0.out _).mono ?_; rintro e w5 ⟨g5, c5, rfl, hg5, ho5, hb5⟩; have hc5 := HC0.out _ _ ho5; have hc35 := (hb5.cell (p := ⟨g3, ky, none⟩) hg3l).trans hc3; have HB5 := Lib.hid (below_trans HB3.out hb5); clear ho5 hb5)
      | (go_at_call 99; refine (HN4.out _).mono ?_; rintro e w3 ⟨g3, c3, rfl, hg3, ho3, hb3⟩; have hc3 := HC4.out _ _ ho3; have hg3l := own_lt ho3; have HB3 := Lib.hid (below_trans (Below.refl _ w2).drew hb3); clear ho3 hb3))
    all_goals
      go_wp2
      go_ret2
      exact ⟨by first | rfl | (rw [IntWalk.i64_in _ (by omega)]; rfl) | (simp only [wrap64]; congr 4; omega) | (congr 4; omega), HB5.out⟩
theorem savedOneWay_both (zs : List Int) (h : zs.length ≤ 1048576) : ∃ (r0 : Int) (r1 : Bool),
    (∀ (w : World) (B : Option Addr) (c lo hi : Nat), Ins w lo hi B zs → Calls Try.prog 40 #[.slice B zs.length c] w fun e w' => e = .returned (.tuple #[.int .i64 r0, .bool r1]) ∧ Below w.heap.size w w') ∧
    (∀ (w : World) (B : Option Addr) (c lo hi : Nat), Ins w lo hi B zs → Calls Try.prog 41 #[.slice B zs.length c] w fun e w' => e = .returned (.tuple #[.int .i64 r0, .bool r1]) ∧ Below w.heap.size w w') :=
  ⟨_, _, fun w B c lo hi hS => savedOneWay_impl B c lo hi zs w hS h, fun w B c lo hi hS => savedOneWay_spec B c lo hi zs w hS h⟩
end Go.Proofs.Ytdkffkgoalgjmac
namespace Go.Proofs.Ytdkffkgoalgjmac
open Go.RowKit Go.ChangeShapes Go.WideShapes Go.Maps
set_option linter.unusedVariables false

theorem field_needO (x0 x1 x2 x3 x4 : Int) (w : World) : (Instr.field 104 (.agg #[.int .i64 x0, .int .i64 x1, .int .i64 x2, .int .i64 x3, .int .i64 x4]) 0).run Try.prog w = .ok (.int .i64 x0) w := by kernel_rfl
set_option maxRecDepth 100000 in
set_option maxHeartbeats 4000000 in
theorem needOfO_any (r : Row) (h8 : rsum r ≤ 8) (w : World) (M : Nat) (hpm : PlanMO w M) :
    Calls Try.prog 109 #[.map (some M), .agg #[.int .i64 (r.1 : Int), .int .i64 (r.2.1 : Int), .int .i64 (r.2.2 : Int)]] w fun e w' => e = .returned (.int .i64 ((needO r : Nat) : Int)) ∧ PlanMO w' M ∧ Within M (M + 1) w w' := by
  have HPl := Lib.hid (fun W h => planOfO_any r h8 W M h)
  have HNe := Lib.hid (planO_need h8)
  have B1 := (Below.refl w.heap.size w).alloc (Nat.le_refl _) (.cells #[.int .i64 (r.1 : Int), .int .i64 (r.2.1 : Int), .int .i64 (r.2.2 : Int)] 102)
  have HT := Lib.hid (Three.new w (.int .i64 (r.1 : Int)) (.int .i64 (r.2.1 : Int)) (.int .i64 (r.2.2 : Int)) w.heap.size rfl)
  have HM := Lib.hid (hpm.step B1)
  have HW := Lib.hid (Within.of_below B1 : Within M (M + 1) w _)
  have hfd := field_needO
  clear B1 hpm
  go_enter Try.func109, Try.ntmps109
  have h0 := HT.out.c0
  have h1 := HT.out.c1
  have h2 := HT.out.c2
  go_wp2_with fail
  generalize w.alloc (.cells #[.int .i64 (r.1 : Int), .int .i64 (r.2.1 : Int), .int .i64 (r.2.2 : Int)] 102) = wa at HT HM HW h0 h1 h2 ⊢
  refine (HPl.out wa HM.out).mono ?_
  rintro e w2 ⟨rfl, hpm2, hw2⟩
  have HM2 := Lib.hid hpm2
  have HW2 := Lib.hid (HW.out.trans hw2)
  clear hpm2 hw2 h0 h1 h2
  simp only [planVO]
  rw [HNe.out]
  go_wp2
  go_ret
  exact ⟨rfl, HM2.out, HW2.out⟩
/-- The need of so many numbers without false answers. -/
def ndO (m i : Nat) : Int := ((needO (freshR m (i + 1)) : Nat) : Int)
def ndUO (m k : Nat) : List Int := (List.range k).map (ndO m)
theorem ndU_lenO (m k : Nat) : (ndUO m k).length = k := by simp [ndUO]
theorem ndU_snocO (m k : Nat) : ndUO m (k + 1) = ndUO m k ++ [ndO m k] := by simp [ndUO, List.range_succ]
theorem nd_bdO {m i : Nat} (h : i < 8) : 0 ≤ ndO m i ∧ ndO m i ≤ 9 := by
  have := needO_le (r := freshR m (i + 1)) (by rw [fresh_sum]; omega)
  unfold ndO
  omega
set_option maxRecDepth 100000 in
set_option maxHeartbeats 2000000 in
theorem oneWayTable_spec (m : Nat) (w : World) (hm : m ≤ 2) :
    Calls Try.prog 51 #[.int .i64 (m : Int)] w fun e w' => ∃ B c', e = .returned (.tuple #[.slice B (ndUO m 8).length c', .bool true]) ∧ Res w' w.heap.size w'.heap.size B (ndUO m 8) ∧ Below w.heap.size w w' := by
  obtain ⟨i0, hi0, hz0, hz1, hz2⟩ := info_parts infoI3
  have HC := Lib.hid (fun W => l1In_any (m : Int) 0 2 W)
  rw [inB_t (by omega) (by omega)] at HC
  have HNs := Lib.hid (fun W => l10Needs_any (m + 1) W (by omega))
  have hp9 := pow9 (p := m + 1) (by omega)
  have HFr := Lib.hid (fun n W => l4Fresh_any m n W hm)
  have HK := Lib.hid (fun n (h : n ≤ 8) B cB lo hi W h2 => l4Key_any B cB lo hi (m + 1) (freshR m n) W h2 (fresh_wide hm) (by rw [fresh_sum]; exact h))
  have HKL := Lib.hid (fun n (h : n ≤ 8) => key_lt (fresh_wide (n := n) hm) (by rw [fresh_sum]; exact h))
  have HFA := Lib.hid (fun n (h : n ≤ 8) => foundO_all (r := freshR m n) (by rw [fresh_sum]; exact h))
  have HFL := Lib.hid (foundL_lenO (m + 1) 10)
  have HO0 := Lib.hid (O0_any w w.heap.size (Nat.le_refl _))
  have HB0 := Lib.hid ((Below.refl w.heap.size w).alloc (Nat.le_refl _) (.cells #[] 3))
  go_enter Try.func51, Try.ntmps51
  go_wp2_with fail
  have hsz1 : (w.alloc (.cells #[] 3)).heap.size = w.heap.size + 1 := by simp
  generalize w.alloc (.cells #[] 3) = wa at HO0 HB0 hsz1 ⊢
  refine (HC.out wa).mono ?_
  rintro e w1 ⟨rfl, rfl⟩
  clear HC
  go_wp2_with fail
  refine (HNs.out w1).mono ?_
  rintro e w2 ⟨g, cg, rfl, hg, ho, hb⟩
  have HN := Lib.hid ho
  have HB2 := Lib.hid (below_trans HB0.out hb)
  have HO2 := Lib.hid (ownsRow_past HO0.out (Past.of_below hb))
  have hgl := own_lt ho
  have hsz0 := HB0.out.size
  clear ho hb HNs HO0
  have hs2 := HB2.out.size
  have HK0 : Hid (BK w.heap.size 0 w2 w2 (.slice (some ⟨w.heap.size, 0, none⟩) 0 0)) := Lib.hid ⟨fun i _ _ => rfl, Nat.le_refl _, fun q e => by (have e : w.heap.size = q := (by injection e)); exact ⟨.inl e.symm, by omega⟩, rfl, rfl, rfl⟩
  generalize (Value.slice (some ⟨w.heap.size, 0, none⟩) 0 0) = v0 at HO2 HK0 ⊢
  go_wp2_with fail
  go_loopw [4, 6] (fun v i wr => ∃ (k : Nat), k ≤ 8 ∧ i = .int .i64 ((k : Int) + 1) ∧ Hid (wr.ownsRow w.heap.size 3 1 v (ndUO m k).length ((ndUO m k).map (Value.int .i64))) ∧ Hid (BK w.heap.size 0 w2 wr v)) (fun _ i _ => 9 - (intOf i).toNat)
  case atStart => exact ⟨0, by omega, by go_num, by simpa [ndUO] using HO2, HK0⟩
  case round =>
    clear HO2 HK0
    obtain ⟨k, hk, rfl, HV, HKp⟩ := hrel
    rename World => w3
    have hs3 := HKp.out.size
    have HB3 : Hid (Below w.heap.size w w3) := Lib.hid (⟨HKp.out.os.trans HB2.out.os, HKp.out.tape.trans HB2.out.tape, HKp.out.output.trans HB2.out.output, Nat.le_trans HB2.out.size HKp.out.size, fun i hi => (HKp.out.keep i (by omega) (by omega)).trans (HB2.out.block i hi)⟩)
    by_cases hlt : k < 8
    · have HO3 := Lib.hid (own_same HN.out (HKp.out.keep g (by omega) hgl))
      have HFk := HFr.out (k + 1)
      rw [show ((k + 1 : Nat) : Int) = (k : Int) + 1 from by omega] at HFk
      have HFk := Lib.hid HFk
      have HKk := Lib.hid (HK.out (k + 1) (by omega))
      have hkl := HKL.out (k + 1) (by omega)
      have hkc := own_cell HO3.out (k := keyR (freshR m (k + 1))) (by rw [HFL.out]; exact hkl)
      rw [show (foundLO (m + 1) 10).getD (keyR (freshR m (k + 1))) 0 = ndO m k from by rw [ndO, ← HFA.out (k + 1) (by omega)]; simp [foundLO, List.getD, hkl]] at hkc
      have HSn := Lib.hid (ndU_snocO m k)
      have hbd := nd_bdO (m := m) hlt
      have HUl := Lib.hid (ndU_lenO m k)
      have hul8 : (ndUO m k).length ≤ 8 := by rw [HUl.out]; omega
      have hg3 := own_lt HO3.out
      generalize keyR (freshR m (k + 1)) = ky at hkc hkl HKk
      have hkyI : (ky : Int) < ((9 ^ (m + 1) : Nat) : Int) := by omega
      clear HK HKL HFA HFr
      generalize ndO m k = x at hkc HSn hbd
      generalize ndUO m k = f at HV HSn HUl hul8
      go_wp2_with fail
      refine (HFk.out w3).mono ?_
      rintro e w4 ⟨gF, rfl, hgF, hoF, hb4⟩
      have HV4 := Lib.hid (ownsRow_past HV.out (Past.of_below hb4))
      have HK4 := Lib.hid (HKp.out.below hb4)
      have hkc4 := (hb4.cell (p := ⟨g, ky, none⟩) hg3).trans hkc
      have HIn := Lib.hid (Ins.mk hoF.ints (own_lt hoF))
      have hs4 := HK4.out.size
      clear hb4 hkc HFk HV HKp HO3 hoF
      go_wp2_with fail
      refine (HKk.out (some ⟨gF, 0, none⟩) (m + 1) gF (gF + 1) w4 HIn.out).mono ?_
      rintro e w5 ⟨rfl, rfl⟩
      go_wp2_with (at_builtin; refine wpList_append_lies _ rfl (.tmp 19) (.tmp 27) 26 rfl w.heap.size 3 i0 (.int .i64 0) 1 8 Try.underlying26 hi0 hz0 hz1 hz2 rfl (by decide) _ f.length (f.map (Value.int .i64)) rfl (HV4.out.alloc _) ⟨w5.heap.size, 0, none⟩ 1 1 [.int .i64 x] rfl rfl (cell_one_new _ _ _) (by simp [Value.oneCell']) (by decide) (by unfold maxLen; omega) (by omega) (by simp; omega) _ rfl ?_; intro ga ca wf hown ha hblk hlta; have HVn := Lib.hid (own_snocI hown rfl); have HKn := Lib.hid ((HK4.out.below ((Below.refl _ w5).alloc (Nat.le_refl _) (.cells #[.int .i64 x] 3))).grown (n := f.length + 1) (c := ca) ha hblk rfl hlta); clear hown ha hblk hlta)
      go_wp2
      go_roundw
      case rel => exact ⟨k + 1, by omega, by go_num, by rw [HSn.out]; exact HVn, HKn⟩
      case measure => simp [intOf]; omega
    · obtain rfl : k = 8 := by omega
      go_wp2
      go_ret2
      exact own_ans0 rfl HV.out HB3.out
set_option maxRecDepth 100000 in
set_option maxHeartbeats 2000000 in
theorem oneWayTable_impl (m : Nat) (w : World) (hm : m ≤ 2) :
    Calls Try.prog 50 #[.int .i64 (m : Int)] w fun e w' => ∃ B c', e = .returned (.tuple #[.slice B (ndUO m 8).length c', .bool true]) ∧ Res w' w.heap.size w'.heap.size B (ndUO m 8) ∧ Below w.heap.size w w' := by
  have hmk := makePlansO
  have HMa := Lib.hid (PlanMO.made w)
  have HB := Lib.hid ((Below.refl w.heap.size w).alloc (Nat.le_refl _) (.map #[] 0))
  have HFn := Lib.hid (fun W h => freshNeeds_any m 109 w.heap.size (ndO m) (fun W => PlanMO W w.heap.size) W hm (fun _ _ => rfl) (fun W W' h e => h.heap e) (fun W h => h.lt) (fun k hk W h => needOfO_any (freshR m (k + 1)) (by rw [fresh_sum]; omega) W w.heap.size h) h)
  have HU : Hid (ndG (ndO m) 8 = ndUO m 8) := Lib.hid rfl
  rw [← HU.out]
  generalize ndG (ndO m) 8 = L at HFn ⊢
  clear HU
  go_enter Try.func50, Try.ntmps50
  go_wp2_with fail
  clear hmk
  have hs : w.heap.size ≤ (w.alloc (.map #[] 0)).heap.size := HB.out.size
  generalize w.alloc (.map #[] 0) = wa at HMa HB hs ⊢
  refine (HFn.out wa HMa.out).mono ?_
  rintro e w2 ⟨B, c', rfl, hr, hw⟩
  have HR := Lib.hid (res_low hr hs)
  have HW := Lib.hid (HB.out.trans (hw.below (Nat.le_refl _) hs))
  clear hr hw HFn
  go_wp2
  go_ret2
  exact ⟨B, c', rfl, HR.out, HW.out⟩
set_option maxRecDepth 100000 in
theorem oneWayTable_no2 (m : Int) (w : World) (h : inB m 0 2 = false) :
    Calls Try.prog 50 #[.int .i64 m] w fun e w' => ∃ B c', e = .returned (.tuple #[.slice B 0 c', .bool false]) ∧ Res w' w.heap.size w'.heap.size B [] ∧ Below w.heap.size w w' := by
  have hmk := makePlansO
  have HB := Lib.hid ((Below.refl w.heap.size w).alloc (Nat.le_refl _) (.map #[] 0))
  have HFn := Lib.hid (fun W => freshNeeds_no m 109 w.heap.size W h)
  clear h
  go_enter Try.func50, Try.ntmps50
  go_wp2_with fail
  clear hmk
  have hs : w.heap.size ≤ (w.alloc (.map #[] 0)).heap.size := HB.out.size
  generalize w.alloc (.map #[] 0) = wa at HB hs ⊢
  refine (HFn.out wa).mono ?_
  rintro e w2 ⟨B, c', rfl, hr, hb⟩
  have HR := Lib.hid (res_low hr hs)
  have HB2 := Lib.hid (below_trans HB.out hb)
  clear hr hb HFn
  go_wp2
  go_ret2
  exact ⟨B, c', rfl, HR.out, HB2.out⟩
/-- What NeedTable answers. -/
theorem oneWayTable_both2 (m : Int) : ∃ (r0 : List Int) (r1 : Bool), r0.length ≤ 1048576 ∧ (r1 = true → ∃ a : Nat, m = (a : Int) ∧ a ≤ 2 ∧ r0 = ndUO a 8) ∧
    (∀ (w : World), Calls Try.prog 50 #[.int .i64 m] w fun e w' => ∃ B c', e = .returned (.tuple #[.slice B r0.length c', .bool r1]) ∧ Res w' w.heap.size w'.heap.size B r0 ∧ Below w.heap.size w w') ∧
    (∀ (w : World), Calls Try.prog 51 #[.int .i64 m] w fun e w' => ∃ B c', e = .returned (.tuple #[.slice B r0.length c', .bool r1]) ∧ Res w' w.heap.size w'.heap.size B r0 ∧ Below w.heap.size w w') := by
  by_cases h : inB m 0 2 = true
  · have b1 := inB_iff.1 h
    obtain ⟨a, rfl⟩ : ∃ a : Nat, m = (a : Int) := ⟨m.toNat, by omega⟩
    exact ⟨ndUO a 8, true, by rw [ndU_lenO]; omega, (fun _ => ⟨a, rfl, by omega, rfl⟩), fun w => oneWayTable_impl a w (by omega), fun w => oneWayTable_spec a w (by omega)⟩
  · have h : inB m 0 2 = false := by simpa using h
    have HF := Lib.hid (fun W => l1In_any m 0 2 W)
    rw [h] at HF
    refine ⟨[], false, by simp, (fun h => by cases h), fun w => ?_, fun w => ?_⟩
    · exact oneWayTable_no2 m w h
    · go_enter Try.func51, Try.ntmps51
      go_wp2_with (first | (go_at_call 58; refine (HF.out _).mono ?_; rintro e w1 ⟨rfl, rfl⟩))
      go_ret2
      exact ⟨_, 0, rfl, empty_res _ _ (Nat.le_refl _), (Below.refl _ _).alloc (Nat.le_refl _) _⟩
theorem oneWayTable_both (m : Int) : ∃ (r0 : List Int) (r1 : Bool), r0.length ≤ 1048576 ∧
    (∀ (w : World), Calls Try.prog 50 #[.int .i64 m] w fun e w' => ∃ B c', e = .returned (.tuple #[.slice B r0.length c', .bool r1]) ∧ Res w' w.heap.size w'.heap.size B r0 ∧ Below w.heap.size w w') ∧
    (∀ (w : World), Calls Try.prog 51 #[.int .i64 m] w fun e w' => ∃ B c', e = .returned (.tuple #[.slice B r0.length c', .bool r1]) ∧ Res w' w.heap.size w'.heap.size B r0 ∧ Below w.heap.size w w') := by
  obtain ⟨r0, r1, h0, _, h1, h2⟩ := oneWayTable_both2 m
  exact ⟨r0, r1, h0, h1, h2⟩
/-- The last place of the table that q questions reach, from 1; 0 where none. -/
abbrev mbToO (m : Nat) (q : Int) : Nat → Int := mbG (ndO m) q
theorem nd_upO : ∀ m : Fin 3, ∀ i : Fin 7, ndO m i ≤ ndO m (i + 1 : Nat) := by decide +kernel
theorem nd_zeroO : ∀ m : Fin 3, ndO m 0 = 0 := by decide +kernel
theorem nd_monoO {m i : Nat} (hm : m ≤ 2) : ∀ d, i + d ≤ 7 → ndO m i ≤ ndO m (i + d)
  | 0, _ => Int.le_refl _
  | d + 1, h => Int.le_trans (nd_monoO hm d (by omega)) (nd_upO ⟨m, by omega⟩ ⟨i + d, by omega⟩)
theorem mb_eqO {m j : Nat} {q : Int} (hm : m ≤ 2) (hj : j ≤ 7) (h1 : ndO m j ≤ q) (h2 : j = 7 ∨ ¬ ndO m (j + 1) ≤ q) : mbToO m q 8 = (j : Int) + 1 :=
  mbG_eq (fun i d h => nd_monoO hm d h) hj h1 h2
set_option maxRecDepth 100000 in
set_option maxHeartbeats 2000000 in
theorem oneWayMost_impl (m : Nat) (q : Int) (w : World) (hm : m ≤ 2) (hq0 : 0 ≤ q) (hq1 : q ≤ 20) :
    Calls Try.prog 53 #[.int .i64 q, .int .i64 (m : Int)] w fun e w' => e = .returned (.tuple #[.int .i64 (mbToO m q 8), .bool true]) ∧ Below w.heap.size w w' := by
  have HT := Lib.hid (fun W => oneWayTable_impl m W hm)
  have HMW := Lib.hid (fun A c lo hi W h => mostWithin_any (ndO m) q A c lo hi W h hq0 hq1)
  have HU : Hid (ndG (ndO m) 8 = ndUO m 8) := Lib.hid rfl
  rw [HU.out] at HMW
  generalize ndUO m 8 = L at HT HMW
  clear HU
  go_enter Try.func53, Try.ntmps53
  go_wp2_with fail
  refine (HT.out w).mono ?_
  rintro e w1 ⟨B, c1, rfl, hr, hb⟩
  have HR := Lib.hid hr.ins
  have HB := Lib.hid hb
  clear hr hb HT
  go_wp2_with fail
  refine (HMW.out B c1 _ _ w1 HR.out).mono ?_
  rintro e w2 ⟨rfl, hw2⟩
  subst hw2
  go_wp2
  go_ret2
  exact ⟨rfl, HB.out⟩
set_option maxRecDepth 100000 in
set_option maxHeartbeats 2000000 in
theorem oneWayMost_no (q m : Int) (w : World) (h : inB m 0 2 = false ∨ inB q 0 20 = false) :
    Calls Try.prog 53 #[.int .i64 q, .int .i64 m] w fun e w' => e = .returned (.tuple #[.int .i64 0, .bool false]) ∧ Below w.heap.size w w' := by
  have HT : Hid (∀ W : World, Calls Try.prog 50 #[.int .i64 m] W fun e w' => ∃ B n c' b, e = .returned (.tuple #[.slice B n c', .bool b]) ∧ n ≤ 1048576 ∧ (n = 0 ∨ q < 0 ∨ 20 < q) ∧ Below W.heap.size W w') := Lib.hid (by
    intro W
    cases hm : inB m 0 2 with
    | false =>
      refine (oneWayTable_no2 m W hm).mono ?_
      rintro e w' ⟨B, c', rfl, _, hb⟩
      exact ⟨B, 0, c', false, rfl, by omega, .inl rfl, hb⟩
    | true =>
      have b1 := inB_iff.1 hm
      obtain ⟨a, rfl⟩ : ∃ a : Nat, m = (a : Int) := ⟨m.toNat, by omega⟩
      refine (oneWayTable_impl a W (by omega)).mono ?_
      rintro e w' ⟨B, c', rfl, _, hb⟩
      have hq : ¬ (0 ≤ q ∧ q ≤ 20) := by
        rcases h with h | h
        · rw [h] at hm; cases hm
        · rw [← inB_iff, h]; simp
      exact ⟨B, _, c', true, rfl, by rw [ndU_lenO]; omega, .inr (by omega), hb⟩)
  have HMW := Lib.hid (fun A n c W h1 h2 => mostWithin_no A n c q W h1 h2)
  clear h
  go_enter Try.func53, Try.ntmps53
  go_wp2_with fail
  refine (HT.out w).mono ?_
  rintro e w1 ⟨B, n, c1, b, rfl, hn, hq, hb⟩
  have HB := Lib.hid hb
  have HQ := Lib.hid hq
  clear hq hb HT
  go_wp2_with fail
  refine (HMW.out B n c1 w1 hn HQ.out).mono ?_
  rintro e w2 ⟨rfl, hw2⟩
  subst hw2
  go_wp2
  go_ret2
  exact ⟨rfl, HB.out⟩
set_option maxRecDepth 100000 in
set_option maxHeartbeats 2000000 in
theorem oneWayMost_spec (m : Nat) (q : Int) (w : World) (hm : m ≤ 2) (hq0 : 0 ≤ q) (hq1 : q ≤ 20) :
    Calls Try.prog 54 #[.int .i64 q, .int .i64 (m : Int)] w fun e w' => e = .returned (.tuple #[.int .i64 (mbToO m q 8), .bool true]) ∧ Below w.heap.size w w' := by
  have HC := Lib.hid (fun W => l1In_any (m : Int) 0 2 W)
  rw [inB_t (by omega) (by omega)] at HC
  have HD := Lib.hid (fun W => l1In_any q 0 20 W)
  rw [inB_t (by omega) (by omega)] at HD
  have HNs := Lib.hid (fun W => l10Needs_any (m + 1) W (by omega))
  have hp9 := pow9 (p := m + 1) (by omega)
  have HFr := Lib.hid (fun n W => l4Fresh_any m n W hm)
  have HK := Lib.hid (fun n (h : n ≤ 8) B cB lo hi W h2 => l4Key_any B cB lo hi (m + 1) (freshR m n) W h2 (fresh_wide hm) (by rw [fresh_sum]; exact h))
  have HKL := Lib.hid (fun n (h : n ≤ 8) => key_lt (fresh_wide (n := n) hm) (by rw [fresh_sum]; exact h))
  have HFA := Lib.hid (fun n (h : n ≤ 8) => foundO_all (r := freshR m n) (by rw [fresh_sum]; exact h))
  have HFL := Lib.hid (foundL_lenO (m + 1) 10)
  have HZ : Hid (ndO m 0 ≤ q) := Lib.hid (by have := nd_zeroO ⟨m, by omega⟩; simp only at this; omega)
  have HEq := Lib.hid (fun j hj h1 h2 => mb_eqO (m := m) (j := j) (q := q) hm hj h1 h2)
  go_enter Try.func54, Try.ntmps54
  go_wp2_with fail
  refine (HD.out w).mono ?_
  rintro e w1 ⟨rfl, rfl⟩
  go_wp2_with fail
  refine (HC.out w1).mono ?_
  rintro e w2 ⟨rfl, rfl⟩
  clear HC HD
  go_wp2_with fail
  refine (HNs.out w2).mono ?_
  rintro e w3 ⟨g, cg, rfl, hg, ho, hb⟩
  have HO := Lib.hid ho
  have HB := Lib.hid hb
  clear ho hb HNs
  go_wp2_with fail
  go_loopw [7] (fun i wr => ∃ (j : Nat), j ≤ 7 ∧ i = .int .i64 ((j : Int) + 1) ∧ Hid (ndO m j ≤ q) ∧ Hid (Own wr g (g + 1) (some ⟨g, 0, none⟩) (foundLO (m + 1) 10)) ∧ Hid (Below w2.heap.size w2 wr)) (fun i _ => 9 - (intOf i).toNat)
  case atStart => exact ⟨0, by omega, by go_num, HZ, HO, HB⟩
  case round =>
    clear HO HB HZ
    obtain ⟨j, hj, rfl, HJ, HO, HB⟩ := hrel
    rename World => w4
    by_cases hlt : j < 7
    · have HFk := HFr.out (j + 2)
      rw [show ((j + 2 : Nat) : Int) = (j : Int) + 1 + 1 from by omega] at HFk
      have HFk := Lib.hid HFk
      have HKk := Lib.hid (HK.out (j + 2) (by omega))
      have hkl := HKL.out (j + 2) (by omega)
      have hkc := own_cell HO.out (k := keyR (freshR m (j + 2))) (by rw [HFL.out]; exact hkl)
      rw [show (foundLO (m + 1) 10).getD (keyR (freshR m (j + 2))) 0 = ndO m (j + 1) from by rw [ndO, ← HFA.out (j + 2) (by omega)]; simp [foundLO, List.getD, hkl]] at hkc
      have hg3 := own_lt HO.out
      have HE := Lib.hid (HEq.out j (by omega) HJ.out)
      generalize keyR (freshR m (j + 2)) = ky at hkc hkl HKk
      have hkyI : (ky : Int) < ((9 ^ (m + 1) : Nat) : Int) := by omega
      have HX : Hid (∃ x, x = ndO m (j + 1)) := Lib.hid ⟨_, rfl⟩
      obtain ⟨x, hx⟩ := HX.out
      rw [← hx] at hkc
      have HXe := Lib.hid hx
      clear HK HKL HFA HFr HX hx HEq
      go_wp2_with fail
      refine (HFk.out w4).mono ?_
      rintro e w5 ⟨gF, rfl, hgF, hoF, hb4⟩
      have HO5 := Lib.hid (own_same HO.out (hb4.block g hg3))
      have HB5 := Lib.hid (below_trans HB.out hb4)
      have hkc4 := (hb4.cell (p := ⟨g, ky, none⟩) hg3).trans hkc
      have HIn := Lib.hid (Ins.mk hoF.ints (own_lt hoF))
      clear hb4 hkc HFk HO HB hoF
      go_wp2_with fail
      refine (HKk.out (some ⟨gF, 0, none⟩) (m + 1) gF (gF + 1) w5 HIn.out).mono ?_
      rintro e w6 ⟨rfl, rfl⟩
      by_cases hq : x ≤ q
      · have HJ2 : Hid (ndO m (j + 1) ≤ q) := Lib.hid (by rw [← HXe.out]; exact hq)
        go_wp2
        go_roundw
        case rel => exact ⟨j + 1, by omega, by go_num, HJ2, HO5, HB5⟩
        case measure => simp [intOf]; omega
      · have HR := Lib.hid (HE.out (.inr (by rw [← HXe.out]; omega)))
        go_wp2
        go_ret2
        rw [HR.out]
        exact ⟨rfl, HB5.out⟩
    · have HR := Lib.hid (HEq.out j (by omega) HJ.out (.inl (by omega)))
      go_wp2
      go_ret2
      rw [HR.out]
      exact ⟨rfl, HB.out⟩
set_option maxHeartbeats 2000000 in
/-- What MostByNeed answers. -/
theorem oneWayMost_both2 (q m : Int) : ∃ (r0 : Int) (r1 : Bool), (r1 = true → ∃ a : Nat, m = (a : Int) ∧ a ≤ 2 ∧ (0 ≤ q ∧ q ≤ 20) ∧ r0 = mbToO a q 8) ∧
    (∀ (w : World), Calls Try.prog 53 #[.int .i64 q, .int .i64 m] w fun e w' => e = .returned (.tuple #[.int .i64 r0, .bool r1]) ∧ Below w.heap.size w w') ∧
    (∀ (w : World), Calls Try.prog 54 #[.int .i64 q, .int .i64 m] w fun e w' => e = .returned (.tuple #[.int .i64 r0, .bool r1]) ∧ Below w.heap.size w w') := by
  have HC := Lib.hid (fun W => l1In_any q 0 20 W)
  have HF := Lib.hid (fun W => l1In_any m 0 2 W)
  by_cases h : inB m 0 2 = true
  · have b1 := inB_iff.1 h
    obtain ⟨a, rfl⟩ : ∃ a : Nat, m = (a : Int) := ⟨m.toNat, by omega⟩
    by_cases h2 : inB q 0 20 = true
    · have b2 := inB_iff.1 h2
      exact ⟨mbToO a q 8, true, (fun _ => ⟨a, rfl, by omega, b2, rfl⟩), fun w => oneWayMost_impl a q w (by omega) b2.1 b2.2, fun w => oneWayMost_spec a q w (by omega) b2.1 b2.2⟩
    · have h3 : inB q 0 20 = false := by simpa using h2
      rw [h3] at HC
      rw [h] at HF
      have h4 : q < 0 ∨ 20 < q := by
        rw [inB_iff] at h2
        omega
      clear h h2
      refine ⟨0, false, (fun h => by cases h), fun w => ?_, fun w => ?_⟩
      · exact oneWayMost_no q a w (.inr h3)
      · go_enter Try.func54, Try.ntmps54
        go_wp2_with fail
        refine (HC.out w).mono ?_
        rintro e w1 ⟨rfl, rfl⟩
        go_wp2
        go_ret2
        exact ⟨rfl, Below.refl _ _⟩
  · have h : inB m 0 2 = false := by simpa using h
    rw [h] at HF
    refine ⟨0, false, (fun h => by cases h), fun w => ?_, fun w => ?_⟩
    · exact oneWayMost_no q m w (.inl h)
    · generalize inB q 0 20 = y at HC
      clear h
      cases y
      all_goals
        go_enter Try.func54, Try.ntmps54
        go_wp2_with fail
        refine (HC.out w).mono ?_
        rintro e w1 ⟨rfl, rfl⟩
        go_wp2_with (first | (go_at_call 58; refine (HF.out _).mono ?_; rintro e w2 ⟨rfl, rfl⟩))
        go_ret2
        exact ⟨rfl, Below.refl _ _⟩
theorem oneWayMost_both (q m : Int) : ∃ (r0 : Int) (r1 : Bool),
    (∀ (w : World), Calls Try.prog 53 #[.int .i64 q, .int .i64 m] w fun e w' => e = .returned (.tuple #[.int .i64 r0, .bool r1]) ∧ Below w.heap.size w w') ∧
    (∀ (w : World), Calls Try.prog 54 #[.int .i64 q, .int .i64 m] w fun e w' => e = .returned (.tuple #[.int .i64 r0, .bool r1]) ∧ Below w.heap.size w w') := by
  obtain ⟨r0, r1, _, h1, h2⟩ := oneWayMost_both2 q m
  exact ⟨r0, r1, h1, h2⟩
end Go.Proofs.Ytdkffkgoalgjmac
namespace Go.Proofs.Ytdkffkgoalgjmac
open Go.RowKit Go.ChangeShapes Go.WideShapes
set_option linter.unusedVariables false

set_option maxRecDepth 100000 in
set_option maxHeartbeats 2000000 in
theorem oneWayNo_impl (A : Option Addr) (c lo hi : Nat) (zs : List Int) (A2 : Option Addr) (c2 lo2 hi2 : Nat) (ss : List Int) (w : World) (hS : Ins w lo hi A zs) (hS2 : Ins w lo2 hi2 A2 ss) (hn : zs.length ≤ 1048576) (hn2 : ss.length ≤ 1048576) :
    Calls Try.prog 47 #[.slice A zs.length c, .slice A2 ss.length c2] w (RowAns w (if cOK zs && fitL ss zs then (fun (p : Nat) (r s : Row) => lstR p (noR r s)) zs.length (rowL zs) (rowL ss) else []) (cOK zs && fitL ss zs)) := by
  have HN := Lib.hid (fun W h h2 => noCounts_impl A c lo hi zs A2 c2 lo2 hi2 ss W h h2 hn hn2)
  have HS := Lib.hid hS
  have HS2 := Lib.hid hS2
  clear hS hS2
  generalize (if cOK zs && fitL ss zs then (fun (p : Nat) (r s : Row) => lstR p (noR r s)) zs.length (rowL zs) (rowL ss) else []) = L at HN ⊢
  generalize (cOK zs && fitL ss zs) = b at HN ⊢
  unfold RowAns at HN ⊢
  go_enter Try.func47, Try.ntmps47
  go_wp2_with fail
  refine (HN.out w HS.out HS2.out).mono ?_
  rintro e w1 ⟨B, c', rfl, hr, hb⟩
  have HR := Lib.hid hr
  have HB := Lib.hid hb
  clear hr hb
  go_wp2
  go_ret2
  exact ⟨B, c', rfl, HR.out, HB.out⟩
set_option maxRecDepth 100000 in
set_option maxHeartbeats 4000000 in
theorem oneWayNo_spec (A : Option Addr) (c lo hi : Nat) (zs : List Int) (A2 : Option Addr) (c2 lo2 hi2 : Nat) (ss : List Int) (w : World) (hS : Ins w lo hi A zs) (hS2 : Ins w lo2 hi2 A2 ss) (hn : zs.length ≤ 1048576) (hn2 : ss.length ≤ 1048576) :
    Calls Try.prog 48 #[.slice A zs.length c, .slice A2 ss.length c2] w (RowAns w (if cOK zs && fitL ss zs then (fun (p : Nat) (r s : Row) => lstR p (noR r s)) zs.length (rowL zs) (rowL ss) else []) (cOK zs && fitL ss zs)) := by
  have HC := Lib.hid (fun W h => l4Counts_any A c lo hi zs W h hn)
  cases hc : cOK zs with
  | false =>
    rw [hc] at HC
    rw [Bool.false_and, if_neg (by simp)]
    unfold RowAns
    go_enter Try.func48, Try.ntmps48
    go_wp2_with fail
    refine (HC.out w hS).mono ?_
    rintro e w1 ⟨rfl, rfl⟩
    go_wp2
    go_ret2
    exact ⟨_, 0, rfl, empty_res w1 w1.heap.size (Nat.le_refl _), (Below.refl _ _).alloc (Nat.le_refl _) _⟩
  | true =>
    rw [hc] at HC
    rw [Bool.true_and]
    obtain ⟨r, hr, hw, h8⟩ := cOK_row hc
    have hp := hw.le
    have HS := Lib.hid hS
    have HS2 := Lib.hid hS2
    have HF := Lib.hid (fun W h h2 => l4Split_any A c lo hi zs A2 c2 lo2 hi2 ss W h h2 hp.2 hn2)
    cases hf : fitL ss zs with
    | false =>
      rw [hf] at HF
      rw [if_neg (by simp)]
      clear hS hS2 hr hw hc hf
      unfold RowAns
      go_enter Try.func48, Try.ntmps48
      go_wp2_with fail
      refine (HC.out w HS.out).mono ?_
      rintro e w1 ⟨rfl, rfl⟩
      go_wp2_with fail
      refine (HF.out w1 HS.out HS2.out).mono ?_
      rintro e w2 ⟨rfl, hb⟩
      have HB := Lib.hid hb
      clear hb
      go_wp2
      go_ret2
      exact ⟨_, 0, rfl, empty_res w2 w1.heap.size HB.out.size, HB.out.alloc HB.out.size _⟩
    | true =>
      rw [hf] at HF
      rw [hr] at hf
      obtain ⟨s, hs, hws, hfs⟩ := fit_row hw hf
      rw [if_pos rfl, rowL_eq hr hw, rowL_eq (p := zs.length) hs hws]
      have hl2 : ss.length = zs.length := by rw [hs, lst_len hp]
      rw [hl2] at HF ⊢
      generalize zs.length = p at *
      have HY := Lib.hid (fun W h h2 => l4No_any A c lo hi A2 c2 lo2 hi2 p r s W h h2 hw h8 hfs)
      rw [← hr, ← hs] at HY
      have HLn := Lib.hid (lst_len hp (noR r s))
      clear hS hS2 hr hs hf
      unfold RowAns
      go_enter Try.func48, Try.ntmps48
      go_wp2_with fail
      refine (HC.out w HS.out).mono ?_
      rintro e w1 ⟨rfl, rfl⟩
      go_wp2_with fail
      refine (HF.out w1 HS.out HS2.out).mono ?_
      rintro e w2 ⟨rfl, hb⟩
      have HB := Lib.hid hb
      have HS1 := Lib.hid (HS.out.step hb)
      have HS21 := Lib.hid (HS2.out.step hb)
      clear hb HF HC
      go_wp2_with fail
      refine (HY.out w2 HS1.out HS21.out).mono ?_
      rintro e w3 ⟨g, c', rfl, hg, ho, hb⟩
      have hsz := HB.out.size
      replace HB := Lib.hid (below_trans HB.out hb)
      have HO := Lib.hid ho
      clear hb ho HY
      go_wp2
      go_ret2
      exact own_ansR HLn.out rfl (by omega) HO.out HB.out
theorem oneWayNo_both (zs : List Int) (h : zs.length ≤ 1048576) (ss : List Int) (h2 : ss.length ≤ 1048576) : ∃ (r0 : List Int) (r1 : Bool), r0.length ≤ 1048576 ∧
    (∀ (w : World) (B : Option Addr) (c lo hi : Nat) (B2 : Option Addr) (c2 lo2 hi2 : Nat), Ins w lo hi B zs → Ins w lo2 hi2 B2 ss → Calls Try.prog 47 #[.slice B zs.length c, .slice B2 ss.length c2] w fun e w' => ∃ B c', e = .returned (.tuple #[.slice B r0.length c', .bool r1]) ∧ Res w' w.heap.size w'.heap.size B r0 ∧ Below w.heap.size w w') ∧
    (∀ (w : World) (B : Option Addr) (c lo hi : Nat) (B2 : Option Addr) (c2 lo2 hi2 : Nat), Ins w lo hi B zs → Ins w lo2 hi2 B2 ss → Calls Try.prog 48 #[.slice B zs.length c, .slice B2 ss.length c2] w fun e w' => ∃ B c', e = .returned (.tuple #[.slice B r0.length c', .bool r1]) ∧ Res w' w.heap.size w'.heap.size B r0 ∧ Below w.heap.size w w') :=
  ⟨_, _, rows_len _ zs ss _ (fun p r s => lst_short _ _), fun w B c lo hi B2 c2 lo2 hi2 hS hS2 => oneWayNo_impl B c lo hi zs B2 c2 lo2 hi2 ss w hS hS2 h h2, fun w B c lo hi B2 c2 lo2 hi2 hS hS2 => oneWayNo_spec B c lo hi zs B2 c2 lo2 hi2 ss w hS hS2 h h2⟩
/-- slices.Clone over integers. -/
theorem oneClone_len (zs : List Int) : (zs.map (Value.int .i64)).length = zs.length := by simp
set_option maxRecDepth 100000 in
set_option maxHeartbeats 2000000 in
theorem cloneInts_any (A : Option Addr) (c lo hi : Nat) (zs : List Int) (w : World) (hS : Ins w lo hi A zs) (h1 : 1 ≤ zs.length) (hn : zs.length ≤ 12) :
    Calls Try.prog 103 #[.slice A zs.length c] w fun e w' => ∃ g c', e = .returned (.slice (some ⟨g, 0, none⟩) zs.length c') ∧ w.heap.size ≤ g ∧ Own w' g (g + 1) (some ⟨g, 0, none⟩) zs ∧ Below w.heap.size w w' := by
  obtain ⟨i0, hi0, hz0, hz1, hz2⟩ := info_parts infoI3
  have hq : ∀ (W : World) (a : Option Addr) (n c n' c' : Nat), (binOp .eql 26 (.slice a n c) (.slice none n' c')).run Try.prog W = .ok (.bool a.isNone) W := fun W a n c n' c' => Lib.run_eql_slice_nil W _ _ a n c n' c' Try.underlying26
  obtain ⟨b, o, rfl, _, hb, hc⟩ := (hS.step ((Below.refl _ _).alloc (Nat.le_refl _) (.cells #[] 3))).ints (by omega)
  have HN := Lib.hid (Ints.add hc)
  have hown := O0_any w w.heap.size (Nat.le_refl _)
  have hO := ones zs
  have HO1 := Lib.hid hO
  have hsome : (some (Addr.mk b o none)).isNone = false := rfl
  clear hS hc hO
  go_enter Try.func103, Try.ntmps103
  go_upto_region 3 with (fail)
  go_wp2_with (at_builtin; refine wpList_append_own _ rfl (.tmp 5) (.tmp 6) 26 rfl w.heap.size 3 i0 (.int .i64 0) 1 8 Try.underlying26 hi0 hz0 hz1 hz2 rfl (by decide) _ _ _ rfl hown ⟨b, o, none⟩ zs.length c (zs.map (Value.int .i64)) rfl (by simp) HN.out HO1.out (by unfold maxLen; omega) (by omega) (by simp) ?_; intro v' w1 hown' hgrow _)
  have HW := Lib.hid (show w1.ownsRow w.heap.size 3 1 v' zs.length (zs.map (Value.int .i64)) from by simpa using hown')
  have HB := Lib.hid (((Below.refl w.heap.size w).alloc (Nat.le_refl _) (.cells #[] 3)).grown hgrow (by simp) (fun q hq => (hown.lt q hq).1))
  clear hown' hgrow hown
  go_wp2
  go_ret
  obtain ⟨g, c1, rfl, hg, ho⟩ := own_rowS HW.out rfl (by omega)
  exact ⟨g, c1, rfl, hg, ho, HB.out⟩
set_option maxRecDepth 100000 in
set_option maxHeartbeats 2000000 in
theorem oneWayYes_impl (A : Option Addr) (c lo hi : Nat) (zs : List Int) (A2 : Option Addr) (c2 lo2 hi2 : Nat) (ss : List Int) (w : World) (hS : Ins w lo hi A zs) (hS2 : Ins w lo2 hi2 A2 ss) (hn : zs.length ≤ 1048576) (hn2 : ss.length ≤ 1048576) :
    Calls Try.prog 45 #[.slice A zs.length c, .slice A2 ss.length c2] w (RowAns w (if cOK zs && fitL ss zs then ss else []) (cOK zs && fitL ss zs)) := by
  have HC := Lib.hid (fun W h h2 => isSplit_any A c lo hi zs A2 c2 lo2 hi2 ss W h h2 hn hn2)
  cases hok : (cOK zs && fitL ss zs) with
  | false =>
    rw [hok] at HC
    rw [if_neg (by simp)]
    unfold RowAns
    go_enter Try.func45, Try.ntmps45
    go_wp2_with fail
    refine (HC.out w hS hS2).mono ?_
    rintro e w1 ⟨rfl, rfl⟩
    go_wp2
    go_ret2
    exact ⟨_, 0, rfl, empty_res w1 w1.heap.size (Nat.le_refl _), (Below.refl _ _).alloc (Nat.le_refl _) _⟩
  | true =>
    rw [hok] at HC
    rw [Bool.and_eq_true] at hok
    obtain ⟨r, hr, hw, h8⟩ := cOK_row hok.1
    have hf := hok.2
    rw [hr] at hf
    obtain ⟨s, hs, hws, hfs⟩ := fit_row hw hf
    have hp := hw.le
    have hl2 : ss.length = zs.length := by rw [hs, lst_len hp]
    rw [if_pos rfl]
    have HCl := Lib.hid (fun W h => cloneInts_any A2 c2 lo2 hi2 ss W h (by omega) (by omega))
    have HS := Lib.hid hS
    have HS2 := Lib.hid hS2
    clear hok hf hr hs hS hS2 hl2
    unfold RowAns
    go_enter Try.func45, Try.ntmps45
    go_wp2_with fail
    refine (HC.out w HS.out HS2.out).mono ?_
    rintro e w1 ⟨rfl, rfl⟩
    go_wp2_with fail
    refine (HCl.out w1 HS2.out).mono ?_
    rintro e w2 ⟨g, c', rfl, hg, ho, hb⟩
    have HO := Lib.hid ho
    have HB := Lib.hid hb
    clear ho hb
    go_wp2
    go_ret2
    exact ⟨_, c', rfl, ⟨HO.out.wide hg (own_lt HO.out), Nat.le_refl _⟩, HB.out⟩
set_option maxRecDepth 100000 in
set_option maxHeartbeats 2000000 in
theorem oneWayYes_spec (A : Option Addr) (c lo hi : Nat) (zs : List Int) (A2 : Option Addr) (c2 lo2 hi2 : Nat) (ss : List Int) (w : World) (hS : Ins w lo hi A zs) (hS2 : Ins w lo2 hi2 A2 ss) (hn : zs.length ≤ 1048576) (hn2 : ss.length ≤ 1048576) :
    Calls Try.prog 46 #[.slice A zs.length c, .slice A2 ss.length c2] w (RowAns w (if cOK zs && fitL ss zs then ss else []) (cOK zs && fitL ss zs)) := by
  have HC := Lib.hid (fun W h => l4Counts_any A c lo hi zs W h hn)
  cases hc : cOK zs with
  | false =>
    rw [hc] at HC
    rw [Bool.false_and, if_neg (by simp)]
    unfold RowAns
    go_enter Try.func46, Try.ntmps46
    go_wp2_with fail
    refine (HC.out w hS).mono ?_
    rintro e w1 ⟨rfl, rfl⟩
    go_wp2
    go_ret2
    exact ⟨_, 0, rfl, empty_res w1 w1.heap.size (Nat.le_refl _), (Below.refl _ _).alloc (Nat.le_refl _) _⟩
  | true =>
    rw [hc] at HC
    rw [Bool.true_and]
    obtain ⟨r, hr, hw, h8⟩ := cOK_row hc
    have hp := hw.le
    have HS := Lib.hid hS
    have HS2 := Lib.hid hS2
    have HF := Lib.hid (fun W h h2 => l4Split_any A c lo hi zs A2 c2 lo2 hi2 ss W h h2 hp.2 hn2)
    cases hf : fitL ss zs with
    | false =>
      rw [hf] at HF
      rw [if_neg (by simp)]
      clear hS hS2 hr hw hc hf
      unfold RowAns
      go_enter Try.func46, Try.ntmps46
      go_wp2_with fail
      refine (HC.out w HS.out).mono ?_
      rintro e w1 ⟨rfl, rfl⟩
      go_wp2_with fail
      refine (HF.out w1 HS.out HS2.out).mono ?_
      rintro e w2 ⟨rfl, hb⟩
      have HB := Lib.hid hb
      clear hb
      go_wp2
      go_ret2
      exact ⟨_, 0, rfl, empty_res w2 w1.heap.size HB.out.size, HB.out.alloc HB.out.size _⟩
    | true =>
      rw [hf] at HF
      rw [hr] at hf
      obtain ⟨s, hs, hws, hfs⟩ := fit_row hw hf
      rw [if_pos rfl]
      have hl2 : ss.length = zs.length := by rw [hs, lst_len hp]
      have HY := Lib.hid (fun W h => l1Own_row A2 c2 lo2 hi2 ss W h (by omega) (by omega))
      clear hl2
      clear hS hS2 hr hs hf
      unfold RowAns
      go_enter Try.func46, Try.ntmps46
      go_wp2_with fail
      refine (HC.out w HS.out).mono ?_
      rintro e w1 ⟨rfl, rfl⟩
      go_wp2_with fail
      refine (HF.out w1 HS.out HS2.out).mono ?_
      rintro e w2 ⟨rfl, hb⟩
      have HB := Lib.hid hb
      have HS1 := Lib.hid (HS.out.step hb)
      have HS21 := Lib.hid (HS2.out.step hb)
      clear hb HF HC
      go_wp2_with fail
      refine (HY.out w2 HS21.out).mono ?_
      rintro e w3 ⟨g, c', rfl, hg, ho, hb⟩
      have hsz := HB.out.size
      replace HB := Lib.hid (below_trans HB.out hb)
      have HO := Lib.hid ho
      clear hb ho HY
      go_wp2
      go_ret2
      exact ⟨_, c', rfl, ⟨HO.out.wide (by omega) (own_lt HO.out), Nat.le_refl _⟩, HB.out⟩
theorem oneWayYes_both (zs : List Int) (h : zs.length ≤ 1048576) (ss : List Int) (h2 : ss.length ≤ 1048576) : ∃ (r0 : List Int) (r1 : Bool), r0.length ≤ 1048576 ∧
    (∀ (w : World) (B : Option Addr) (c lo hi : Nat) (B2 : Option Addr) (c2 lo2 hi2 : Nat), Ins w lo hi B zs → Ins w lo2 hi2 B2 ss → Calls Try.prog 45 #[.slice B zs.length c, .slice B2 ss.length c2] w fun e w' => ∃ B c', e = .returned (.tuple #[.slice B r0.length c', .bool r1]) ∧ Res w' w.heap.size w'.heap.size B r0 ∧ Below w.heap.size w w') ∧
    (∀ (w : World) (B : Option Addr) (c lo hi : Nat) (B2 : Option Addr) (c2 lo2 hi2 : Nat), Ins w lo hi B zs → Ins w lo2 hi2 B2 ss → Calls Try.prog 46 #[.slice B zs.length c, .slice B2 ss.length c2] w fun e w' => ∃ B c', e = .returned (.tuple #[.slice B r0.length c', .bool r1]) ∧ Res w' w.heap.size w'.heap.size B r0 ∧ Below w.heap.size w w') 
  := ⟨(if cOK zs && fitL ss zs then ss else []), (cOK zs && fitL ss zs), (by split <;> simp [h2]), fun w B c lo hi B2 c2 lo2 hi2 hS hS2 => oneWayYes_impl B c lo hi zs B2 c2 lo2 hi2 ss w hS hS2 h h2, fun w B c lo hi B2 c2 lo2 hi2 hS hS2 => oneWayYes_spec B c lo hi zs B2 c2 lo2 hi2 ss w hS hS2 h h2⟩
end Go.Proofs.Ytdkffkgoalgjmac
namespace Go.Proofs.Ytdkffkgoalgjmac
open Go.RowKit Go.ChangeShapes Go.WideShapes
set_option linter.unusedVariables false
end Go.Proofs.Ytdkffkgoalgjmac
namespace Go.Proofs.Ytdkffkgoalgjmac
open Go.RowKit Go.ChangeShapes Go.WideShapes
set_option linter.unusedVariables false

set_option maxHeartbeats 1000000 in
theorem rInts_same (A A' : Option Addr) (c c' lo hi lo' hi' : Nat) (zs : List Int) (w : World) (hS : Ins w lo hi A zs) (hS' : Ins w lo' hi' A' zs) (hn : zs.length ≤ 1048576) :
    Calls Try.prog 39 #[.slice A zs.length c, .slice A' zs.length c'] w fun e w' => e = .returned (.bool true) ∧ Below w.heap.size w w' := by
  have HS := Lib.hid hS.ints
  have HS' := Lib.hid hS'.ints
  clear hS hS'
  go_enter Try.func39, Try.ntmps39
  go_wp2
  go_loopw [5] (fun i wr => ∃ k q : Nat, k ≤ zs.length ∧ i = .int .i64 k ∧ wr = w.drewN q) (fun i _ => zs.length - (intOf i).toNat)
  case atStart => exact ⟨0, 0, Nat.zero_le _, rfl, rfl⟩
  case round =>
    obtain ⟨k, q, hk, rfl, rfl⟩ := hrel
    by_cases hlt : k < zs.length
    · obtain ⟨b, o, rfl, _, _, hc⟩ := HS.out.at_ hlt
      obtain ⟨b', o', rfl, _, _, hc'⟩ := HS'.out.at_ hlt
      have hz : (k : Int) < (zs.length : Int) := by omega
      generalize zs[k] = x at hc hc'
      go_wp2
      go_quiet (fail)
      go_wp2
      go_roundw
      case rel => exact ⟨k + 1, _, by omega, by go_num, rfl⟩
      case measure => simp [intOf]; omega
    · go_wp2
      go_ret
      exact ⟨rfl, below_drewN (Below.refl _ _) _⟩
theorem rBig_any (A : Option Addr) (n c : Nat) (w : World) (hn : n ≤ maxLen) :
    Calls Try.prog 21 #[.slice A n c] w fun e w' => e = .returned (.bool (decide (65536 < n))) ∧ w' = w := by
  unfold maxLen at hn
  by_cases h : 65536 < n
  · rw [decide_eq_true h]
    go_enter Try.func21, Try.ntmps21
    go_wp2
    go_ret
    exact ⟨by simp; omega, rfl⟩
  · rw [decide_eq_false h]
    go_enter Try.func21, Try.ntmps21
    go_wp2
    go_ret
    exact ⟨by simp; omega, rfl⟩
end Go.Proofs.Ytdkffkgoalgjmac
namespace Go.Proofs.Ytdkffkgoalgjmac
open Go.RowKit Go.ChangeShapes Go.WideShapes
set_option linter.unusedVariables false
set_option linter.unusedSimpArgs false

def OCall1 (f : FuncId) (zs : List Int) (Q : World → Ending → World → Prop) : Prop := ∀ (W : World) (A : Option Addr) (c lo hi : Nat), Ins W lo hi A zs → Calls Try.prog f #[.slice A zs.length c] W (Q W)
def OCall2 (f : FuncId) (zs ss : List Int) (Q : World → Ending → World → Prop) : Prop := ∀ (W : World) (A : Option Addr) (c lo hi : Nat) (A2 : Option Addr) (c2 lo2 hi2 : Nat), Ins W lo hi A zs → Ins W lo2 hi2 A2 ss → Calls Try.prog f #[.slice A zs.length c, .slice A2 ss.length c2] W (Q W)
def OIB (x : Int) (b : Bool) (W : World) (e : Ending) (w' : World) : Prop := e = .returned (.tuple #[.int .i64 x, .bool b]) ∧ Below W.heap.size W w'
def OIIB (x y : Int) (b : Bool) (W : World) (e : Ending) (w' : World) : Prop := e = .returned (.tuple #[.int .i64 x, .int .i64 y, .bool b]) ∧ Below W.heap.size W w'
def OBB (b : Bool) (W : World) (e : Ending) (w' : World) : Prop := e = .returned (.bool b) ∧ Below W.heap.size W w'
def ORow (l : List Int) (b : Bool) (W : World) (e : Ending) (w' : World) : Prop := ∃ B c', e = .returned (.tuple #[.slice B l.length c', .bool b]) ∧ Res w' W.heap.size w'.heap.size B l ∧ Below W.heap.size W w'
structure OF (zs : List Int) (nd sv fw nb : Int) (ok one : Bool) (sp : List Int) : Prop where
  hsp : sp.length ≤ 1048576
  ni : OCall1 34 zs (OIB nd ok)
  ns : OCall1 35 zs (OIB nd ok)
  ac : OCall1 36 zs (OBB ok)
  pi : OCall1 37 zs (ORow sp one)
  ps : OCall1 38 zs (ORow sp one)
  si : OCall1 40 zs (OIB sv ok)
  ss : OCall1 41 zs (OIB sv ok)
  qi : OCall1 42 zs (OIIB fw nd ok)
  qs : OCall1 43 zs (OIIB fw nd ok)
  oi : OCall1 55 zs (OIB nb ok)
  bd : 0 ≤ nd ∧ nd ≤ 9 ∧ 0 ≤ nb ∧ nb ≤ 9 ∧ 0 ≤ sv ∧ nb - nd = sv ∧ fw ≤ nd ∧ 0 ≤ fw
  o1 : one = true → ok = true
  okk : one = true → ∃ (ls rs : List Int) (x y : Int), OCall2 45 zs sp (ORow ls true) ∧ OCall2 47 zs sp (ORow rs true) ∧ OCall1 34 ls (OIB x true) ∧ OCall1 34 rs (OIB y true) ∧ 0 ≤ x ∧ 0 ≤ y ∧ x < nd ∧ y < nd ∧ (x = nd - 1 ∨ y = nd - 1)
theorem oneWayNeed_row {p : Nat} {r : Row} (hw : Wide p r) (h8 : rsum r ≤ 8) : OCall1 34 (lstR p r) (OIB ((needO r : Nat) : Int) true) := fun W A c lo hi h => by
  have h2 := oneWayNeed_impl A c lo hi (lstR p r) W h (Nat.le_trans (lst_short _ _) (by omega))
  rw [planLO_need, row_cOK hw h8, if_pos rfl, rowL_lst hw] at h2
  exact h2
theorem one_less {r : Row} (h8 : rsum r ≤ 8) : needO r ≤ needR r := by
  have : allR (fun r => decide (needO r ≤ needR r)) = true := by decide +kernel
  simpa using allR_at this h8
theorem few_less {r : Row} (h8 : rsum r ≤ 8) : fewO r ≤ needO r := by
  have : allR (fun r => decide (fewO r ≤ needO r)) = true := by decide +kernel
  simpa using allR_at this h8
theorem onw_facts (zs : List Int) (hz8 : zs.length ≤ 8) : ∃ (nd sv fw nb : Int) (ok one : Bool) (sp : List Int), OF zs nd sv fw nb ok one sp := by
  have hz : zs.length ≤ 1048576 := by omega
  have hsplit : ∃ sp : List Int, sp.length ≤ 1048576 ∧ OCall1 37 zs (ORow sp (askO zs)) ∧ OCall1 38 zs (ORow sp (askO zs)) ∧ (askO zs = true → sp = lstR zs.length (planLO zs).first) := by
    cases ha : askO zs with
    | false => exact ⟨[], by simp, fun W A c lo hi h => oneWaySplit_impl_no A c lo hi zs W h hz ha, fun W A c lo hi h => oneWaySplit_spec_no A c lo hi zs W h hz ha, fun h => by cases h⟩
    | true =>
      obtain ⟨r, hr, hw, _, _, _⟩ := askO_row ha
      have hl : (lstR zs.length (planLO zs).first).length = zs.length := lst_len hw.le _
      refine ⟨lstR zs.length (planLO zs).first, by rw [hl]; exact hz, fun W A c lo hi h => ?_, fun W A c lo hi h => ?_, fun _ => rfl⟩
      · unfold ORow; rw [hl]; exact oneWaySplit_impl_yes A c lo hi zs W h hz ha
      · unfold ORow; rw [hl]; exact oneWaySplit_spec_yes A c lo hi zs W h hz ha
  obtain ⟨sp, hsp, hpi, hps, hspe⟩ := hsplit
  refine ⟨_, _, _, _, cOK zs, askO zs, sp, {
    hsp := hsp,
    ni := fun W A c lo hi h => by have h2 := oneWayNeed_impl A c lo hi zs W h hz; rw [planLO_need] at h2; exact h2,
    ns := fun W A c lo hi h => oneWayNeed_spec A c lo hi zs W h hz,
    ac := fun W A c lo hi h => (areCounts_impl A c lo hi zs W h hz).mono (by rintro e w' ⟨rfl, rfl⟩; exact ⟨rfl, Below.refl _ _⟩),
    pi := hpi, ps := hps,
    si := fun W A c lo hi h => savedOneWay_impl A c lo hi zs W h hz,
    ss := fun W A c lo hi h => savedOneWay_spec A c lo hi zs W h hz,
    qi := fun W A c lo hi h => by have h2 := oneWayPaths_impl A c lo hi zs W h hz; rw [planLO_need, planLO_few] at h2; exact h2,
    qs := fun W A c lo hi h => oneWayPaths_spec A c lo hi zs W h hz,
    oi := fun W A c lo hi h => needOf_impl A c lo hi zs W h hz,
    bd := ?_, o1 := ?_, okk := ?_ }⟩
  · cases hok : cOK zs with
    | false => simp
    | true =>
      obtain ⟨r, hr, hw, h8⟩ := cOK_row hok
      simp only [if_true]
      rw [rowL_eq hr hw]
      have h1 := need_le h8
      have h2 := needO_le h8
      have h3 := one_less h8
      have h4 := few_less h8
      refine ⟨?_, ?_, ?_, ?_, ?_, ?_, ?_, ?_⟩
      all_goals first | trivial | omega
  · intro h
    unfold askO at h
    rw [Bool.and_eq_true] at h
    exact h.1
  · intro h
    obtain ⟨r, hr, hw, h8, h1, hpl⟩ := askO_row h
    have hc : cOK zs = true := by unfold askO at h; rw [Bool.and_eq_true] at h; exact h.1
    have he := hspe h
    rw [hpl] at he
    have hf := planO_fits h8
    have hws := fits_wide hw hf
    have hsl := lstR_len hws
    have hft : fitL sp zs = true := by
      have h2 := row_fit hw hws hf
      rw [← hr, ← he] at h2
      exact h2
    have hval := (first_val h8 h1).1
    have hpos := needO_pos h1 h8
    have hspl : sp.length ≤ 1048576 := hsp
    refine ⟨sp, lstR zs.length (noR r (planO r).first), ((needO (planO r).first : Nat) : Int), ((needO (noR r (planO r).first) : Nat) : Int), fun W A c lo hi A2 c2 lo2 hi2 i1 i2 => ?_, fun W A c lo hi A2 c2 lo2 hi2 i1 i2 => ?_, ?_, oneWayNeed_row (yes_wide hw hf).2 (yes_sum h8 hf).2, by omega, by omega, ?_, ?_, ?_⟩
    · have h2 := oneWayYes_impl A c lo hi zs A2 c2 lo2 hi2 sp W i1 i2 hz hspl
      rw [hc, hft] at h2
      exact h2
    · have h2 := oneWayNo_impl A c lo hi zs A2 c2 lo2 hi2 sp W i1 i2 hz hspl
      rw [hc, hft, rowL_eq hr hw, rowL_eq he hws] at h2
      exact h2
    · rw [he]
      exact oneWayNeed_row hws (fit_sum h8 hf)
    all_goals
      rw [if_pos hc, rowL_eq hr hw]
      unfold valO at hval
      omega
structure TF (xs ys : List Int) (four : Bool) (la lb : List Int) : Prop where
  ha : la.length ≤ 1048576
  hb : lb.length ≤ 1048576
  yi : OCall2 45 xs ys (ORow la four)
  ys_ : OCall2 46 xs ys (ORow la four)
  ni : OCall2 47 xs ys (ORow lb four)
  ns : OCall2 48 xs ys (ORow lb four)
theorem two_facts (xs ys : List Int) (hx : xs.length ≤ 8) (hy : ys.length ≤ 8) : ∃ (four : Bool) (la lb : List Int), TF xs ys four la lb := by
  have h1 : xs.length ≤ 1048576 := by omega
  have h2 : ys.length ≤ 1048576 := by omega
  exact ⟨cOK xs && fitL ys xs, _, _, {
    ha := by
      show (if cOK xs && fitL ys xs then ys else []).length ≤ 1048576
      split <;> simp [h2]
    hb := rows_len (cOK xs && fitL ys xs) xs ys (fun (p : Nat) (r s : Row) => lstR p (noR r s)) (fun p r s => lst_short _ _)
    yi := fun W A c lo hi A2 c2 lo2 hi2 i1 i2 => oneWayYes_impl A c lo hi xs A2 c2 lo2 hi2 ys W i1 i2 h1 h2
    ys_ := fun W A c lo hi A2 c2 lo2 hi2 i1 i2 => oneWayYes_spec A c lo hi xs A2 c2 lo2 hi2 ys W i1 i2 h1 h2
    ni := fun W A c lo hi A2 c2 lo2 hi2 i1 i2 => oneWayNo_impl A c lo hi xs A2 c2 lo2 hi2 ys W i1 i2 h1 h2
    ns := fun W A c lo hi A2 c2 lo2 hi2 i1 i2 => oneWayNo_spec A c lo hi xs A2 c2 lo2 hi2 ys W i1 i2 h1 h2 }⟩
/-- The place of the greatest number within q questions. -/
theorem mb_place (f : Nat → Int) (q : Int) (h0 : f 0 ≤ q) : ∀ n, 1 ≤ n → ∃ j : Nat, j < n ∧ mbG f q n = (j : Int) + 1 ∧ f j ≤ q ∧ (j + 1 < n → ¬ f (j + 1) ≤ q ∨ True) := fun n => by
  intro hn
  induction n with
  | zero => omega
  | succ n ih =>
    by_cases h : f n ≤ q
    · exact ⟨n, by omega, if_pos h, h, fun _ => .inr trivial⟩
    · rcases Nat.eq_zero_or_pos n with hz | hz
      · subst hz; exact absurd h0 h
      · obtain ⟨j, h1, h2, h3, _⟩ := ih hz
        exact ⟨j, by omega, by rw [← h2]; exact if_neg h, h3, fun _ => .inr trivial⟩
theorem mb_next {f : Nat → Int} {q : Int} : ∀ n, ∀ j, j < n → mbG f q n = (j : Int) + 1 → ∀ i, j < i → i < n → ¬ f i ≤ q
  | 0, j, h, _, _, _, _ => absurd h (by omega)
  | n + 1, j, hj, hm, i, hi, hin => fun hf => by
    by_cases h : f n ≤ q
    · have e : mbG f q (n + 1) = (n : Int) + 1 := if_pos h
      omega
    · have e : mbG f q (n + 1) = mbG f q n := if_neg h
      rw [e] at hm
      rcases Nat.lt_or_ge i n with h2 | h2
      · by_cases hjn : j < n
        · exact mb_next n j hjn hm i hi h2 hf
        · omega
      · have : i = n := by omega
        subst this
        exact h hf
end Go.Proofs.Ytdkffkgoalgjmac
