/- Logs made durable, and recovered: both sides. -/
import Derived.Test.YtpjoljaamakagabDoorLogL
namespace Go.Proofs.YtpjoljaamakagabDoor
open Go.RowKit Go.ChangeShapes Go.WideShapes
set_option linter.unusedVariables false
set_option linter.unusedSimpArgs false

set_option maxRecDepth 100000 in
set_option maxHeartbeats 4000000 in
theorem eqLogL_same (d q : ByteArray) (l : Int) (W : World) :
    Calls Tryd.prog 22 #[.agg (lgA d q l), .agg (lgA d q l)] W fun e w' => e = .returned (.bool true) ∧ Below W.heap.size W w' := by
  unfold lgA
  have HX := Lib.hid (Rw.new W #[.string d, .string q, .int .i64 l] 34 (W.heap.size) rfl)
  have HB := Lib.hid ((Below.refl W.heap.size W).alloc (Nat.le_refl _) (.cells #[.string d, .string q, .int .i64 l] 34))
  have HY := Lib.hid (Rw.new (W.alloc (.cells #[.string d, .string q, .int .i64 l] 34)) #[.string d, .string q, .int .i64 l] 34 (W.heap.size + 1) (by simp))
  replace HX := Lib.hid (HX.out.step ((Below.refl _ _).alloc (Nat.le_refl _) (.cells #[.string d, .string q, .int .i64 l] 34)))
  replace HB := Lib.hid (HB.out.alloc HB.out.size (.cells #[.string d, .string q, .int .i64 l] 34))
  go_enter Tryd.func22, Tryd.ntmps22
  go_upto_region 1 with fail
  generalize (W.alloc (.cells #[.string d, .string q, .int .i64 l] 34)).alloc (.cells #[.string d, .string q, .int .i64 l] 34) = w0 at HB HX HY ⊢
  have hx_0 := HX.out.cell (i := 0) (v := .string d) rfl
  have hx_1 := HX.out.cell (i := 1) (v := .string q) rfl
  have hx_2 := HX.out.cell (i := 2) (v := .int .i64 l) rfl
  have hy_0 := HY.out.cell (i := 0) (v := .string d) rfl
  have hy_1 := HY.out.cell (i := 1) (v := .string q) rfl
  have hy_2 := HY.out.cell (i := 2) (v := .int .i64 l) rfl
  go_wp2
  go_ret
  exact ⟨rfl, HB.out⟩

set_option maxRecDepth 100000 in
set_option maxHeartbeats 4000000 in
theorem syncLog_impl_yes (d p : ByteArray) (n : Int) (W : World) (hs : d.size + p.size ≤ 1048576) (h : logOK d p n = true) (hP : Pow W) (hM : MaxL W) :
    Calls Tryd.prog 24 #[.agg (lgA d p n)] W fun e w' => e = .returned (.tuple #[.agg (lgA (d ++ p) ⟨#[]⟩ (n)), .bool true]) ∧ Below W.heap.size W w' := by
  have HC := Lib.hid (fun w hp hm => isValidLog_impl d p n w hs hp hm)
  rw [h] at HC
  have hadd : ∀ W, (Op.stringOp .add d p).run Tryd.prog W = .ok (.string (d ++ p)) W := fun W => by
    rw [run_string_add_sum W _ _ (by omega)]
  clear h
  have HX := Lib.hid (Rw.new W #[.string d, .string p, .int .i64 n] 34 (W.heap.size) rfl)
  have HB := Lib.hid ((Below.refl W.heap.size W).alloc (Nat.le_refl _) (.cells #[.string d, .string p, .int .i64 n] 34))
  have HZ := Lib.hid (Rw.new (W.alloc (.cells #[.string d, .string p, .int .i64 n] 34)) #[.string ⟨#[]⟩, .string ⟨#[]⟩, .int .i64 0] 34 (W.heap.size + 1) (by simp))
  replace HX := Lib.hid (HX.out.step ((Below.refl _ _).alloc (Nat.le_refl _) (.cells #[.string ⟨#[]⟩, .string ⟨#[]⟩, .int .i64 0] 34)))
  replace HB := Lib.hid (HB.out.alloc HB.out.size (.cells #[.string ⟨#[]⟩, .string ⟨#[]⟩, .int .i64 0] 34))
  have HP := Lib.hid (hP.below HB.out)
  have HM := Lib.hid (hM.below HB.out)
  clear hP hM
  unfold lgA at HC ⊢
  go_enter Tryd.func24, Tryd.ntmps24
  go_upto_region 1 with fail
  generalize (W.alloc (.cells #[.string d, .string p, .int .i64 n] 34)).alloc (.cells #[.string ⟨#[]⟩, .string ⟨#[]⟩, .int .i64 0] 34) = w0 at HB HX HZ HP HM ⊢
  have x0 := HX.out.cell (i := 0) (v := .string d) rfl
  have x1 := HX.out.cell (i := 1) (v := .string p) rfl
  have x2 := HX.out.cell (i := 2) (v := .int .i64 n) rfl
  go_wp2_with fail
  refine (HC.out _ HP.out HM.out).mono ?_
  rintro e w1 ⟨rfl, hb⟩
  clear x0 x1 x2 HC
  replace HP := Lib.hid (HP.out.below hb)
  replace HM := Lib.hid (HM.out.below hb)
  replace HX := Lib.hid (HX.out.step hb)
  replace HZ := Lib.hid (HZ.out.step hb)
  replace HB := Lib.hid (below_trans HB.out hb)
  clear hb
  have x0 := HX.out.cell (i := 0) (v := .string d) rfl
  have x1 := HX.out.cell (i := 1) (v := .string p) rfl
  have x2 := HX.out.cell (i := 2) (v := .int .i64 n) rfl
  have hz_0 := HZ.out.cell (i := 0) (v := .string ⟨#[]⟩) rfl
  have hz_1 := HZ.out.cell (i := 1) (v := .string ⟨#[]⟩) rfl
  have hz_2 := HZ.out.cell (i := 2) (v := .int .i64 0) rfl
  have f0 := HZ.out.free 0
  have f1 := HZ.out.free 1
  have f2 := HZ.out.free 2
  have HS := Lib.hid (((HZ.out.set (k := 0) (.string (d ++ p))).set (k := 1) (.string ⟨#[]⟩)).set (k := 2) (.int .i64 (n)))
  have HBF := Lib.hid (below_setR (below_setR (below_setR HB.out (Nat.le_succ _) 0 (.string (d ++ p))) (Nat.le_succ _) 1 (.string ⟨#[]⟩)) (Nat.le_succ _) 2 (.int .i64 (n)))
  clear HZ HB
  go_wp2
  generalize (((w1.setCell ⟨W.heap.size + 1, 0, none⟩ (.string (d ++ p))).setCell ⟨W.heap.size + 1, 1, none⟩ (.string ⟨#[]⟩)).setCell ⟨W.heap.size + 1, 2, none⟩ (.int .i64 (n))) = wf at HS HBF ⊢
  have e0 := HS.out.cell (i := 0) (v := .string (d ++ p)) rfl
  have e1 := HS.out.cell (i := 1) (v := .string ⟨#[]⟩) rfl
  have e2 := HS.out.cell (i := 2) (v := .int .i64 (n)) rfl
  refine bodyPost_ret (v := .tuple #[.agg #[.string (d ++ p), .string ⟨#[]⟩, .int .i64 (n)], .bool true]) (by simp [results, go_sem, e0, e1, e2]) rfl ?_
  exact ⟨rfl, HBF.out⟩

set_option maxRecDepth 100000 in
set_option maxHeartbeats 4000000 in
theorem syncLog_impl_no (d p : ByteArray) (n : Int) (W : World) (hs : d.size + p.size ≤ 1048576) (h : logOK d p n = false) (hP : Pow W) (hM : MaxL W) :
    Calls Tryd.prog 24 #[.agg (lgA d p n)] W fun e w' => e = .returned (.tuple #[.agg (lgA ⟨#[]⟩ ⟨#[]⟩ (0)), .bool false]) ∧ Below W.heap.size W w' := by
  have HC := Lib.hid (fun w hp hm => isValidLog_impl d p n w hs hp hm)
  rw [h] at HC
  have hadd : ∀ W, (Op.stringOp .add d p).run Tryd.prog W = .ok (.string (d ++ p)) W := fun W => by
    rw [run_string_add_sum W _ _ (by omega)]
  clear h
  have HX := Lib.hid (Rw.new W #[.string d, .string p, .int .i64 n] 34 (W.heap.size) rfl)
  have HB := Lib.hid ((Below.refl W.heap.size W).alloc (Nat.le_refl _) (.cells #[.string d, .string p, .int .i64 n] 34))
  have HZ := Lib.hid (Rw.new (W.alloc (.cells #[.string d, .string p, .int .i64 n] 34)) #[.string ⟨#[]⟩, .string ⟨#[]⟩, .int .i64 0] 34 (W.heap.size + 1) (by simp))
  replace HX := Lib.hid (HX.out.step ((Below.refl _ _).alloc (Nat.le_refl _) (.cells #[.string ⟨#[]⟩, .string ⟨#[]⟩, .int .i64 0] 34)))
  replace HB := Lib.hid (HB.out.alloc HB.out.size (.cells #[.string ⟨#[]⟩, .string ⟨#[]⟩, .int .i64 0] 34))
  have HP := Lib.hid (hP.below HB.out)
  have HM := Lib.hid (hM.below HB.out)
  clear hP hM
  unfold lgA at HC ⊢
  go_enter Tryd.func24, Tryd.ntmps24
  go_upto_region 1 with fail
  generalize (W.alloc (.cells #[.string d, .string p, .int .i64 n] 34)).alloc (.cells #[.string ⟨#[]⟩, .string ⟨#[]⟩, .int .i64 0] 34) = w0 at HB HX HZ HP HM ⊢
  have x0 := HX.out.cell (i := 0) (v := .string d) rfl
  have x1 := HX.out.cell (i := 1) (v := .string p) rfl
  have x2 := HX.out.cell (i := 2) (v := .int .i64 n) rfl
  go_wp2_with fail
  refine (HC.out _ HP.out HM.out).mono ?_
  rintro e w1 ⟨rfl, hb⟩
  clear x0 x1 x2 HC
  replace HP := Lib.hid (HP.out.below hb)
  replace HM := Lib.hid (HM.out.below hb)
  replace HX := Lib.hid (HX.out.step hb)
  replace HZ := Lib.hid (HZ.out.step hb)
  replace HB := Lib.hid (below_trans HB.out hb)
  clear hb
  have x0 := HX.out.cell (i := 0) (v := .string d) rfl
  have x1 := HX.out.cell (i := 1) (v := .string p) rfl
  have x2 := HX.out.cell (i := 2) (v := .int .i64 n) rfl
  have hz_0 := HZ.out.cell (i := 0) (v := .string ⟨#[]⟩) rfl
  have hz_1 := HZ.out.cell (i := 1) (v := .string ⟨#[]⟩) rfl
  have hz_2 := HZ.out.cell (i := 2) (v := .int .i64 0) rfl
  have f0 := HZ.out.free 0
  have f1 := HZ.out.free 1
  have f2 := HZ.out.free 2
  have HS := Lib.hid (((HZ.out.set (k := 0) (.string ⟨#[]⟩)).set (k := 1) (.string ⟨#[]⟩)).set (k := 2) (.int .i64 (0)))
  have HBF := Lib.hid (below_setR (below_setR (below_setR HB.out (Nat.le_succ _) 0 (.string ⟨#[]⟩)) (Nat.le_succ _) 1 (.string ⟨#[]⟩)) (Nat.le_succ _) 2 (.int .i64 (0)))
  clear HZ HB
  go_wp2
  generalize (((w1.setCell ⟨W.heap.size + 1, 0, none⟩ (.string ⟨#[]⟩)).setCell ⟨W.heap.size + 1, 1, none⟩ (.string ⟨#[]⟩)).setCell ⟨W.heap.size + 1, 2, none⟩ (.int .i64 (0))) = wf at HS HBF ⊢
  have e0 := HS.out.cell (i := 0) (v := .string ⟨#[]⟩) rfl
  have e1 := HS.out.cell (i := 1) (v := .string ⟨#[]⟩) rfl
  have e2 := HS.out.cell (i := 2) (v := .int .i64 (0)) rfl
  refine bodyPost_ret (v := .tuple #[.agg #[.string ⟨#[]⟩, .string ⟨#[]⟩, .int .i64 (0)], .bool false]) (by simp [results, go_sem, e0, e1, e2]) rfl ?_
  exact ⟨rfl, HBF.out⟩

set_option maxRecDepth 100000 in
set_option maxHeartbeats 4000000 in
theorem syncLog_spec_yes (d p : ByteArray) (n : Int) (W : World) (hs : d.size + p.size ≤ 1048576) (h : logOK d p n = true) :
    Calls Tryd.prog 23 #[.agg (lgA d p n)] W fun e w' => e = .returned (.tuple #[.agg (lgA (d ++ p) ⟨#[]⟩ (n)), .bool true]) ∧ Below W.heap.size W w' := by
  have HC := Lib.hid (fun w => l12Valid_any d p n w hs)
  rw [h] at HC
  have hadd : ∀ W, (Op.stringOp .add d p).run Tryd.prog W = .ok (.string (d ++ p)) W := fun W => by
    rw [run_string_add_sum W _ _ (by omega)]
  clear h
  have HX := Lib.hid (Rw.new W #[.string d, .string p, .int .i64 n] 34 (W.heap.size) rfl)
  have HB := Lib.hid ((Below.refl W.heap.size W).alloc (Nat.le_refl _) (.cells #[.string d, .string p, .int .i64 n] 34))
  have HZ := Lib.hid (Rw.new (W.alloc (.cells #[.string d, .string p, .int .i64 n] 34)) #[.string ⟨#[]⟩, .string ⟨#[]⟩, .int .i64 0] 34 (W.heap.size + 1) (by simp))
  replace HX := Lib.hid (HX.out.step ((Below.refl _ _).alloc (Nat.le_refl _) (.cells #[.string ⟨#[]⟩, .string ⟨#[]⟩, .int .i64 0] 34)))
  replace HB := Lib.hid (HB.out.alloc HB.out.size (.cells #[.string ⟨#[]⟩, .string ⟨#[]⟩, .int .i64 0] 34))
  unfold lgA at HC ⊢
  go_enter Tryd.func23, Tryd.ntmps23
  go_upto_region 1 with fail
  generalize (W.alloc (.cells #[.string d, .string p, .int .i64 n] 34)).alloc (.cells #[.string ⟨#[]⟩, .string ⟨#[]⟩, .int .i64 0] 34) = w0 at HB HX HZ ⊢
  have x0 := HX.out.cell (i := 0) (v := .string d) rfl
  have x1 := HX.out.cell (i := 1) (v := .string p) rfl
  have x2 := HX.out.cell (i := 2) (v := .int .i64 n) rfl
  go_wp2_with fail
  refine (HC.out _).mono ?_
  rintro e w1 ⟨rfl, hb⟩
  clear x0 x1 x2 HC
  replace HX := Lib.hid (HX.out.step hb)
  replace HZ := Lib.hid (HZ.out.step hb)
  replace HB := Lib.hid (below_trans HB.out hb)
  clear hb
  have x0 := HX.out.cell (i := 0) (v := .string d) rfl
  have x1 := HX.out.cell (i := 1) (v := .string p) rfl
  have x2 := HX.out.cell (i := 2) (v := .int .i64 n) rfl
  have hz_0 := HZ.out.cell (i := 0) (v := .string ⟨#[]⟩) rfl
  have hz_1 := HZ.out.cell (i := 1) (v := .string ⟨#[]⟩) rfl
  have hz_2 := HZ.out.cell (i := 2) (v := .int .i64 0) rfl
  have f0 := HZ.out.free 0
  have f1 := HZ.out.free 1
  have f2 := HZ.out.free 2
  have HS := Lib.hid (((HZ.out.set (k := 0) (.string (d ++ p))).set (k := 1) (.string ⟨#[]⟩)).set (k := 2) (.int .i64 (n)))
  have HBF := Lib.hid (below_setR (below_setR (below_setR HB.out (Nat.le_succ _) 0 (.string (d ++ p))) (Nat.le_succ _) 1 (.string ⟨#[]⟩)) (Nat.le_succ _) 2 (.int .i64 (n)))
  clear HZ HB
  go_wp2
  generalize (((w1.setCell ⟨W.heap.size + 1, 0, none⟩ (.string (d ++ p))).setCell ⟨W.heap.size + 1, 1, none⟩ (.string ⟨#[]⟩)).setCell ⟨W.heap.size + 1, 2, none⟩ (.int .i64 (n))) = wf at HS HBF ⊢
  have e0 := HS.out.cell (i := 0) (v := .string (d ++ p)) rfl
  have e1 := HS.out.cell (i := 1) (v := .string ⟨#[]⟩) rfl
  have e2 := HS.out.cell (i := 2) (v := .int .i64 (n)) rfl
  refine bodyPost_ret (v := .tuple #[.agg #[.string (d ++ p), .string ⟨#[]⟩, .int .i64 (n)], .bool true]) (by simp [results, go_sem, e0, e1, e2]) rfl ?_
  exact ⟨rfl, HBF.out⟩

set_option maxRecDepth 100000 in
set_option maxHeartbeats 4000000 in
theorem syncLog_spec_no (d p : ByteArray) (n : Int) (W : World) (hs : d.size + p.size ≤ 1048576) (h : logOK d p n = false) :
    Calls Tryd.prog 23 #[.agg (lgA d p n)] W fun e w' => e = .returned (.tuple #[.agg (lgA ⟨#[]⟩ ⟨#[]⟩ (0)), .bool false]) ∧ Below W.heap.size W w' := by
  have HC := Lib.hid (fun w => l12Valid_any d p n w hs)
  rw [h] at HC
  have hadd : ∀ W, (Op.stringOp .add d p).run Tryd.prog W = .ok (.string (d ++ p)) W := fun W => by
    rw [run_string_add_sum W _ _ (by omega)]
  clear h
  have HX := Lib.hid (Rw.new W #[.string d, .string p, .int .i64 n] 34 (W.heap.size) rfl)
  have HB := Lib.hid ((Below.refl W.heap.size W).alloc (Nat.le_refl _) (.cells #[.string d, .string p, .int .i64 n] 34))
  have HZ := Lib.hid (Rw.new (W.alloc (.cells #[.string d, .string p, .int .i64 n] 34)) #[.string ⟨#[]⟩, .string ⟨#[]⟩, .int .i64 0] 34 (W.heap.size + 1) (by simp))
  replace HX := Lib.hid (HX.out.step ((Below.refl _ _).alloc (Nat.le_refl _) (.cells #[.string ⟨#[]⟩, .string ⟨#[]⟩, .int .i64 0] 34)))
  replace HB := Lib.hid (HB.out.alloc HB.out.size (.cells #[.string ⟨#[]⟩, .string ⟨#[]⟩, .int .i64 0] 34))
  unfold lgA at HC ⊢
  go_enter Tryd.func23, Tryd.ntmps23
  go_upto_region 1 with fail
  generalize (W.alloc (.cells #[.string d, .string p, .int .i64 n] 34)).alloc (.cells #[.string ⟨#[]⟩, .string ⟨#[]⟩, .int .i64 0] 34) = w0 at HB HX HZ ⊢
  have x0 := HX.out.cell (i := 0) (v := .string d) rfl
  have x1 := HX.out.cell (i := 1) (v := .string p) rfl
  have x2 := HX.out.cell (i := 2) (v := .int .i64 n) rfl
  go_wp2_with fail
  refine (HC.out _).mono ?_
  rintro e w1 ⟨rfl, hb⟩
  clear x0 x1 x2 HC
  replace HX := Lib.hid (HX.out.step hb)
  replace HZ := Lib.hid (HZ.out.step hb)
  replace HB := Lib.hid (below_trans HB.out hb)
  clear hb
  have x0 := HX.out.cell (i := 0) (v := .string d) rfl
  have x1 := HX.out.cell (i := 1) (v := .string p) rfl
  have x2 := HX.out.cell (i := 2) (v := .int .i64 n) rfl
  have hz_0 := HZ.out.cell (i := 0) (v := .string ⟨#[]⟩) rfl
  have hz_1 := HZ.out.cell (i := 1) (v := .string ⟨#[]⟩) rfl
  have hz_2 := HZ.out.cell (i := 2) (v := .int .i64 0) rfl
  have f0 := HZ.out.free 0
  have f1 := HZ.out.free 1
  have f2 := HZ.out.free 2
  have HS := Lib.hid (((HZ.out.set (k := 0) (.string ⟨#[]⟩)).set (k := 1) (.string ⟨#[]⟩)).set (k := 2) (.int .i64 (0)))
  have HBF := Lib.hid (below_setR (below_setR (below_setR HB.out (Nat.le_succ _) 0 (.string ⟨#[]⟩)) (Nat.le_succ _) 1 (.string ⟨#[]⟩)) (Nat.le_succ _) 2 (.int .i64 (0)))
  clear HZ HB
  go_wp2
  generalize (((w1.setCell ⟨W.heap.size + 1, 0, none⟩ (.string ⟨#[]⟩)).setCell ⟨W.heap.size + 1, 1, none⟩ (.string ⟨#[]⟩)).setCell ⟨W.heap.size + 1, 2, none⟩ (.int .i64 (0))) = wf at HS HBF ⊢
  have e0 := HS.out.cell (i := 0) (v := .string ⟨#[]⟩) rfl
  have e1 := HS.out.cell (i := 1) (v := .string ⟨#[]⟩) rfl
  have e2 := HS.out.cell (i := 2) (v := .int .i64 (0)) rfl
  refine bodyPost_ret (v := .tuple #[.agg #[.string ⟨#[]⟩, .string ⟨#[]⟩, .int .i64 (0)], .bool false]) (by simp [results, go_sem, e0, e1, e2]) rfl ?_
  exact ⟨rfl, HBF.out⟩
theorem syncLog_both (d p : ByteArray) (n : Int) (hs : d.size + p.size ≤ 1048576) : ∃ (x y : ByteArray) (l : Int) (r : Bool),
    (∀ (w : World), Pow w → MaxL w → Calls Tryd.prog 24 #[.agg (lgA d p n)] w fun e w' => e = .returned (.tuple #[.agg (lgA x y l), .bool r]) ∧ Below w.heap.size w w') ∧
    (∀ (w : World), Calls Tryd.prog 23 #[.agg (lgA d p n)] w fun e w' => e = .returned (.tuple #[.agg (lgA x y l), .bool r]) ∧ Below w.heap.size w w') := by
  cases h : logOK d p n with
  | true => exact ⟨d ++ p, ⟨#[]⟩, n, true, fun w hp hm => syncLog_impl_yes d p n w hs h hp hm, fun w => syncLog_spec_yes d p n w hs h⟩
  | false => exact ⟨⟨#[]⟩, ⟨#[]⟩, 0, false, fun w hp hm => syncLog_impl_no d p n w hs h hp hm, fun w => syncLog_spec_no d p n w hs h⟩

set_option maxRecDepth 100000 in
set_option maxHeartbeats 4000000 in
theorem recoverLog_impl_no (s : ByteArray) (W : World) (hs : 30000 < s.size ∧ s.size ≤ 1048576) :
    Calls Tryd.prog 28 #[.string s] W fun e w' => e = .returned (.tuple #[.agg (lgA ⟨#[]⟩ ⟨#[]⟩ (0)), .int .i64 (0), .bool false]) ∧ Below W.heap.size W w' := by
  obtain ⟨h1, h2⟩ := hs
  unfold lgA
  have HZ := Lib.hid (Rw.new W #[.string ⟨#[]⟩, .string ⟨#[]⟩, .int .i64 0] 34 (W.heap.size) rfl)
  have HB := Lib.hid ((Below.refl W.heap.size W).alloc (Nat.le_refl _) (.cells #[.string ⟨#[]⟩, .string ⟨#[]⟩, .int .i64 0] 34))
  go_enter Tryd.func28, Tryd.ntmps28
  go_upto_region 1 with fail
  generalize W.alloc (.cells #[.string ⟨#[]⟩, .string ⟨#[]⟩, .int .i64 0] 34) = w0 at HB HZ ⊢
  have hz_0 := HZ.out.cell (i := 0) (v := .string ⟨#[]⟩) rfl
  have hz_1 := HZ.out.cell (i := 1) (v := .string ⟨#[]⟩) rfl
  have hz_2 := HZ.out.cell (i := 2) (v := .int .i64 0) rfl
  have f0 := HZ.out.free 0
  have f1 := HZ.out.free 1
  have f2 := HZ.out.free 2
  have HS := Lib.hid (((HZ.out.set (k := 0) (.string ⟨#[]⟩)).set (k := 1) (.string ⟨#[]⟩)).set (k := 2) (.int .i64 (0)))
  have HBF := Lib.hid (below_setR (below_setR (below_setR HB.out (Nat.le_refl _) 0 (.string ⟨#[]⟩)) (Nat.le_refl _) 1 (.string ⟨#[]⟩)) (Nat.le_refl _) 2 (.int .i64 (0)))
  clear HZ HB
  go_wp2
  generalize (((w0.setCell ⟨W.heap.size, 0, none⟩ (.string ⟨#[]⟩)).setCell ⟨W.heap.size, 1, none⟩ (.string ⟨#[]⟩)).setCell ⟨W.heap.size, 2, none⟩ (.int .i64 (0))) = wf at HS HBF ⊢
  have e0 := HS.out.cell (i := 0) (v := .string ⟨#[]⟩) rfl
  have e1 := HS.out.cell (i := 1) (v := .string ⟨#[]⟩) rfl
  have e2 := HS.out.cell (i := 2) (v := .int .i64 (0)) rfl
  refine bodyPost_ret (v := .tuple #[.agg #[.string ⟨#[]⟩, .string ⟨#[]⟩, .int .i64 (0)], .int .i64 0, .bool false]) (by simp [results, go_sem, e0, e1, e2]) rfl ?_
  exact ⟨rfl, HBF.out⟩

set_option maxRecDepth 100000 in
set_option maxHeartbeats 4000000 in
theorem recoverLog_impl_yes (s : ByteArray) (W : World) (hs : s.size ≤ 30000) (hP : Pow W) (hM : MaxL W) :
    Calls Tryd.prog 28 #[.string s] W fun e w' => e = .returned (.tuple #[.agg (lgA (s.extract 0 (recs12 s.data.toList).2) ⟨#[]⟩ (((recs12 s.data.toList).1.length : Int))), .int .i64 (((recs12 s.data.toList).2 : Int)), .bool true]) ∧ Below W.heap.size W w' := by
  have HC := Lib.hid (fun w hp hm => firstRecords_any s w (by omega) hp hm)
  have hbd := (recs12_bd s.data.toList).2
  rw [data_size] at hbd
  have hbl := (recs12_bd s.data.toList).1
  generalize recs12 s.data.toList = RR at HC hbd hbl ⊢
  obtain ⟨L, N⟩ := RR
  dsimp only at HC hbd hbl ⊢
  unfold lgA
  have HZ := Lib.hid (Rw.new W #[.string ⟨#[]⟩, .string ⟨#[]⟩, .int .i64 0] 34 (W.heap.size) rfl)
  have HB := Lib.hid ((Below.refl W.heap.size W).alloc (Nat.le_refl _) (.cells #[.string ⟨#[]⟩, .string ⟨#[]⟩, .int .i64 0] 34))
  have HP := Lib.hid (hP.below HB.out)
  have HM := Lib.hid (hM.below HB.out)
  clear hP hM
  go_enter Tryd.func28, Tryd.ntmps28
  go_upto_region 1 with fail
  generalize W.alloc (.cells #[.string ⟨#[]⟩, .string ⟨#[]⟩, .int .i64 0] 34) = w0 at HB HZ HP HM ⊢
  go_wp2_with fail
  refine (HC.out _ HP.out HM.out).mono ?_
  rintro e w1 ⟨v1, rfl, hrow, hb⟩
  obtain ⟨A, c, rfl⟩ := row_sliceR hrow
  clear HC hrow
  replace HZ := Lib.hid (HZ.out.step hb)
  replace HB := Lib.hid (below_trans HB.out hb)
  clear hb
  have hz_0 := HZ.out.cell (i := 0) (v := .string ⟨#[]⟩) rfl
  have hz_1 := HZ.out.cell (i := 1) (v := .string ⟨#[]⟩) rfl
  have hz_2 := HZ.out.cell (i := 2) (v := .int .i64 0) rfl
  have f0 := HZ.out.free 0
  have f1 := HZ.out.free 1
  have f2 := HZ.out.free 2
  have HS := Lib.hid (((HZ.out.set (k := 0) (.string (s.extract 0 N))).set (k := 1) (.string ⟨#[]⟩)).set (k := 2) (.int .i64 ((L.length : Int))))
  have HBF := Lib.hid (below_setR (below_setR (below_setR HB.out (Nat.le_refl _) 0 (.string (s.extract 0 N))) (Nat.le_refl _) 1 (.string ⟨#[]⟩)) (Nat.le_refl _) 2 (.int .i64 ((L.length : Int))))
  clear HZ HB
  go_wp2
  generalize (((w1.setCell ⟨W.heap.size, 0, none⟩ (.string (s.extract 0 N))).setCell ⟨W.heap.size, 1, none⟩ (.string ⟨#[]⟩)).setCell ⟨W.heap.size, 2, none⟩ (.int .i64 ((L.length : Int)))) = wf at HS HBF ⊢
  have e0 := HS.out.cell (i := 0) (v := .string (s.extract 0 N)) rfl
  have e1 := HS.out.cell (i := 1) (v := .string ⟨#[]⟩) rfl
  have e2 := HS.out.cell (i := 2) (v := .int .i64 ((L.length : Int))) rfl
  refine bodyPost_ret (v := .tuple #[.agg #[.string (s.extract 0 N), .string ⟨#[]⟩, .int .i64 ((L.length : Int))], .int .i64 (N : Int), .bool true]) (by simp [results, go_sem, e0, e1, e2]) rfl ?_
  exact ⟨rfl, HBF.out⟩

set_option maxRecDepth 100000 in
set_option maxHeartbeats 4000000 in
theorem recoverLog_spec_no (s : ByteArray) (W : World) (hs : 30000 < s.size ∧ s.size ≤ 1048576) :
    Calls Tryd.prog 27 #[.string s] W fun e w' => e = .returned (.tuple #[.agg (lgA ⟨#[]⟩ ⟨#[]⟩ (0)), .int .i64 (0), .bool false]) ∧ Below W.heap.size W w' := by
  obtain ⟨h1, h2⟩ := hs
  unfold lgA
  have HZ := Lib.hid (Rw.new W #[.string ⟨#[]⟩, .string ⟨#[]⟩, .int .i64 0] 34 (W.heap.size) rfl)
  have HB := Lib.hid ((Below.refl W.heap.size W).alloc (Nat.le_refl _) (.cells #[.string ⟨#[]⟩, .string ⟨#[]⟩, .int .i64 0] 34))
  go_enter Tryd.func27, Tryd.ntmps27
  go_upto_region 1 with fail
  generalize W.alloc (.cells #[.string ⟨#[]⟩, .string ⟨#[]⟩, .int .i64 0] 34) = w0 at HB HZ ⊢
  have hz_0 := HZ.out.cell (i := 0) (v := .string ⟨#[]⟩) rfl
  have hz_1 := HZ.out.cell (i := 1) (v := .string ⟨#[]⟩) rfl
  have hz_2 := HZ.out.cell (i := 2) (v := .int .i64 0) rfl
  have f0 := HZ.out.free 0
  have f1 := HZ.out.free 1
  have f2 := HZ.out.free 2
  have HS := Lib.hid (((HZ.out.set (k := 0) (.string ⟨#[]⟩)).set (k := 1) (.string ⟨#[]⟩)).set (k := 2) (.int .i64 (0)))
  have HBF := Lib.hid (below_setR (below_setR (below_setR HB.out (Nat.le_refl _) 0 (.string ⟨#[]⟩)) (Nat.le_refl _) 1 (.string ⟨#[]⟩)) (Nat.le_refl _) 2 (.int .i64 (0)))
  clear HZ HB
  go_wp2
  generalize (((w0.setCell ⟨W.heap.size, 0, none⟩ (.string ⟨#[]⟩)).setCell ⟨W.heap.size, 1, none⟩ (.string ⟨#[]⟩)).setCell ⟨W.heap.size, 2, none⟩ (.int .i64 (0))) = wf at HS HBF ⊢
  have e0 := HS.out.cell (i := 0) (v := .string ⟨#[]⟩) rfl
  have e1 := HS.out.cell (i := 1) (v := .string ⟨#[]⟩) rfl
  have e2 := HS.out.cell (i := 2) (v := .int .i64 (0)) rfl
  refine bodyPost_ret (v := .tuple #[.agg #[.string ⟨#[]⟩, .string ⟨#[]⟩, .int .i64 (0)], .int .i64 0, .bool false]) (by simp [results, go_sem, e0, e1, e2]) rfl ?_
  exact ⟨rfl, HBF.out⟩

set_option maxRecDepth 100000 in
set_option maxHeartbeats 4000000 in
theorem recoverLog_spec_yes (s : ByteArray) (W : World) (hs : s.size ≤ 30000) :
    Calls Tryd.prog 27 #[.string s] W fun e w' => e = .returned (.tuple #[.agg (lgA (s.extract 0 (recs12 s.data.toList).2) ⟨#[]⟩ (((recs12 s.data.toList).1.length : Int))), .int .i64 (((recs12 s.data.toList).2 : Int)), .bool true]) ∧ Below W.heap.size W w' := by
  have HC := Lib.hid (fun w => l12Open_any s w (by omega))
  have hbd := (recs12_bd s.data.toList).2
  rw [data_size] at hbd
  have hbl := (recs12_bd s.data.toList).1
  generalize recs12 s.data.toList = RR at HC hbd hbl ⊢
  obtain ⟨L, N⟩ := RR
  dsimp only at HC hbd hbl ⊢
  unfold lgA
  have HZ := Lib.hid (Rw.new W #[.string ⟨#[]⟩, .string ⟨#[]⟩, .int .i64 0] 34 (W.heap.size) rfl)
  have HB := Lib.hid ((Below.refl W.heap.size W).alloc (Nat.le_refl _) (.cells #[.string ⟨#[]⟩, .string ⟨#[]⟩, .int .i64 0] 34))
  go_enter Tryd.func27, Tryd.ntmps27
  go_upto_region 1 with fail
  generalize W.alloc (.cells #[.string ⟨#[]⟩, .string ⟨#[]⟩, .int .i64 0] 34) = w0 at HB HZ ⊢
  go_wp2_with fail
  refine (HC.out _).mono ?_
  rintro e w1 ⟨v1, rfl, hrow, hb⟩
  obtain ⟨A, c, rfl⟩ := row_sliceR hrow
  clear HC hrow
  replace HZ := Lib.hid (HZ.out.step hb)
  replace HB := Lib.hid (below_trans HB.out hb)
  clear hb
  have hz_0 := HZ.out.cell (i := 0) (v := .string ⟨#[]⟩) rfl
  have hz_1 := HZ.out.cell (i := 1) (v := .string ⟨#[]⟩) rfl
  have hz_2 := HZ.out.cell (i := 2) (v := .int .i64 0) rfl
  have f0 := HZ.out.free 0
  have f1 := HZ.out.free 1
  have f2 := HZ.out.free 2
  have HS := Lib.hid (((HZ.out.set (k := 0) (.string (s.extract 0 N))).set (k := 1) (.string ⟨#[]⟩)).set (k := 2) (.int .i64 ((L.length : Int))))
  have HBF := Lib.hid (below_setR (below_setR (below_setR HB.out (Nat.le_refl _) 0 (.string (s.extract 0 N))) (Nat.le_refl _) 1 (.string ⟨#[]⟩)) (Nat.le_refl _) 2 (.int .i64 ((L.length : Int))))
  clear HZ HB
  go_wp2
  generalize (((w1.setCell ⟨W.heap.size, 0, none⟩ (.string (s.extract 0 N))).setCell ⟨W.heap.size, 1, none⟩ (.string ⟨#[]⟩)).setCell ⟨W.heap.size, 2, none⟩ (.int .i64 ((L.length : Int)))) = wf at HS HBF ⊢
  have e0 := HS.out.cell (i := 0) (v := .string (s.extract 0 N)) rfl
  have e1 := HS.out.cell (i := 1) (v := .string ⟨#[]⟩) rfl
  have e2 := HS.out.cell (i := 2) (v := .int .i64 ((L.length : Int))) rfl
  refine bodyPost_ret (v := .tuple #[.agg #[.string (s.extract 0 N), .string ⟨#[]⟩, .int .i64 ((L.length : Int))], .int .i64 (N : Int), .bool true]) (by simp [results, go_sem, e0, e1, e2]) rfl ?_
  exact ⟨rfl, HBF.out⟩
theorem recoverLog_both (s : ByteArray) (hs : s.size ≤ 1048576) : ∃ (x y : ByteArray) (l k : Int) (r : Bool),
    (∀ (w : World), Pow w → MaxL w → Calls Tryd.prog 28 #[.string s] w fun e w' => e = .returned (.tuple #[.agg (lgA x y l), .int .i64 k, .bool r]) ∧ Below w.heap.size w w') ∧
    (∀ (w : World), Calls Tryd.prog 27 #[.string s] w fun e w' => e = .returned (.tuple #[.agg (lgA x y l), .int .i64 k, .bool r]) ∧ Below w.heap.size w w') := by
  rcases Nat.lt_or_ge 30000 s.size with h | h
  · exact ⟨⟨#[]⟩, ⟨#[]⟩, 0, 0, false, fun w _ _ => recoverLog_impl_no s w ⟨h, hs⟩, fun w => recoverLog_spec_no s w ⟨h, hs⟩⟩
  · exact ⟨_, ⟨#[]⟩, _, _, true, fun w hp hm => recoverLog_impl_yes s w h hp hm, fun w => recoverLog_spec_yes s w h⟩
end Go.Proofs.YtpjoljaamakagabDoor
