/- Which logs are valid: both sides. -/
import Derived.Test.YtpjoljaamakagabDoorL12K
namespace Go.Proofs.YtpjoljaamakagabDoor
open Go.RowKit Go.ChangeShapes Go.WideShapes
set_option linter.unusedVariables false
set_option linter.unusedSimpArgs false

/-- A log's cells. -/
def lgA (d p : ByteArray) (n : Int) : Array Value := #[.string d, .string p, .int .i64 n]
/-- What its records are. -/
def logL (d p : ByteArray) (n : Int) : List Rec := if logOK d p n then (recs12 (d.data.toList ++ p.data.toList)).1 else []
theorem app_list (d p : ByteArray) : (d ++ p).data.toList = d.data.toList ++ p.data.toList := by simp [ByteArray.data_append]
theorem row_baseR {sz : Nat} {w : World} {B B' n : Nat} {v : Value} {e : TypeId} {xs : List Value} (h : w.ownsRow B e sz v n xs) (hB : B' ≤ B) : w.ownsRow B' e sz v n xs :=
  ⟨h.1, h.2.imp id fun ⟨g, cap, cur, a, b, r⟩ => ⟨g, cap, cur, a, Nat.le_trans hB b, r⟩⟩

set_option maxRecDepth 100000 in
set_option maxHeartbeats 8000000 in
theorem logRecords_impl (d p : ByteArray) (n : Int) (W : World) (hs : d.size + p.size ≤ 1048576) (hP : Pow W) (hM : MaxL W) :
    Calls Tryd.prog 30 #[.agg (lgA d p n)] W fun e w' => ∃ v, e = .returned (.tuple #[v, .bool (logOK d p n)]) ∧ w'.ownsRow W.heap.size 27 2 v (logL d p n).length (cellsR (logL d p n)) ∧ Below W.heap.size W w' := by
  have HF1 := Lib.hid (fun w hp hm => firstRecords_any d w (by omega) hp hm)
  have HF2 := Lib.hid (fun w hp hm => firstRecords_any (d ++ p) w (by rw [ByteArray.size_append]; omega) hp hm)
  have hadd : ∀ W, (Op.stringOp .add d p).run Tryd.prog W = .ok (.string (d ++ p)) W := fun W => by
    rw [run_string_add_sum W _ _ (by omega)]
  rw [app_list] at HF2
  have hb1 := (recs12_bd d.data.toList).2
  have hb2 := (recs12_bd (d.data.toList ++ p.data.toList)).2
  have hb3 := (recs12_bd (d.data.toList ++ p.data.toList)).1
  rw [data_size] at hb1
  rw [List.length_append, data_size, data_size] at hb2
  have HR0 := fun (w : World) (hw : W.heap.size ≤ w.heap.size) => R0_any w W.heap.size hw
  have HP := Lib.hid hP
  have HM := Lib.hid hM
  clear hP hM
  unfold logL logOK
  generalize recs12 (d.data.toList ++ p.data.toList) = RR at HF2 hb2 hb3 ⊢
  obtain ⟨L2, N2⟩ := RR
  generalize recs12 d.data.toList = R1 at HF1 hb1 ⊢
  obtain ⟨L1, N1⟩ := R1
  dsimp only at HF1 HF2 hb1 hb2 hb3 ⊢
  generalize d ++ p = dp at HF2 hadd
  have HX := Lib.hid (Rw.new W (lgA d p n) 34 (W.heap.size) rfl)
  have HB := Lib.hid ((Below.refl W.heap.size W).alloc (Nat.le_refl _) (.cells (lgA d p n) 34))
  replace HP := Lib.hid (HP.out.below HB.out)
  replace HM := Lib.hid (HM.out.below HB.out)
  unfold lgA at HX HB HP HM ⊢
  rcases Nat.lt_or_ge 30000 (d.size + p.size) with h0 | h0
  · rw [decide_eq_false (show ¬ d.size + p.size ≤ 30000 by omega)]
    simp only [Bool.false_and, Bool.false_eq_true, if_false, List.length_nil, cellsR]
    clear HF1 HF2
    go_enter Tryd.func30, Tryd.ntmps30
    go_upto_region 1 with fail
    generalize W.alloc (.cells #[.string d, .string p, .int .i64 n] 34) = w0 at HB HP HM HX ⊢
    have x0 := HX.out.cell (i := 0) (v := .string d) rfl
    have x1 := HX.out.cell (i := 1) (v := .string p) rfl
    have x2 := HX.out.cell (i := 2) (v := .int .i64 n) rfl
    have HR := Lib.hid (HR0 w0 HB.out.size)
    have HBF := Lib.hid (HB.out.alloc HB.out.size (.cells #[] 27))
    go_wp2
    go_ret2
    exact ⟨_, rfl, HR.out, HBF.out⟩
  rw [decide_eq_true h0, Bool.true_and]
  rcases Nat.lt_or_ge N1 d.size with h1 | h1
  · rw [decide_eq_false (show ¬ N1 = d.size by omega), Bool.and_false, Bool.false_and]
    simp only [Bool.false_eq_true, if_false, List.length_nil, cellsR]
    go_enter Tryd.func30, Tryd.ntmps30
    go_upto_region 1 with fail
    generalize W.alloc (.cells #[.string d, .string p, .int .i64 n] 34) = w0 at HB HP HM HX ⊢
    have x0 := HX.out.cell (i := 0) (v := .string d) rfl
    have x1 := HX.out.cell (i := 1) (v := .string p) rfl
    have x2 := HX.out.cell (i := 2) (v := .int .i64 n) rfl
    go_wp2_with fail
    refine (HF1.out _ HP.out HM.out).mono ?_
    rintro e w1 ⟨vw1, rfl, _, hb⟩
    clear x0 x1 x2 HF1
    replace HP := Lib.hid (HP.out.below hb)
    replace HM := Lib.hid (HM.out.below hb)
    replace HX := Lib.hid (HX.out.step hb)
    replace HB := Lib.hid (below_trans HB.out hb)
    clear hb
    have x0 := HX.out.cell (i := 0) (v := .string d) rfl
    have x1 := HX.out.cell (i := 1) (v := .string p) rfl
    have x2 := HX.out.cell (i := 2) (v := .int .i64 n) rfl
    have hlo := HB.out.size
    go_wp2_with fail
    refine (HF2.out _ HP.out HM.out).mono ?_
    rintro e w2 ⟨vw2, rfl, hrow, hb⟩
    clear x0 x1 x2 HF2
    replace HP := Lib.hid (HP.out.below hb)
    replace HM := Lib.hid (HM.out.below hb)
    replace HX := Lib.hid (HX.out.step hb)
    replace HB := Lib.hid (below_trans HB.out hb)
    clear hb
    have x0 := HX.out.cell (i := 0) (v := .string d) rfl
    have x1 := HX.out.cell (i := 1) (v := .string p) rfl
    have x2 := HX.out.cell (i := 2) (v := .int .i64 n) rfl
    obtain ⟨A2, c2, rfl⟩ := row_sliceR hrow
    have HRow := Lib.hid (row_baseR hrow hlo)
    clear hrow hlo
    have HR := Lib.hid (HR0 w2 HB.out.size)
    have HBF := Lib.hid (HB.out.alloc HB.out.size (.cells #[] 27))
    go_wp2
    go_ret2
    exact ⟨_, rfl, HR.out, HBF.out⟩
  obtain rfl : N1 = d.size := by omega
  rcases Nat.lt_or_ge N2 (d.size + p.size) with h2 | h2
  · rw [decide_eq_false (show ¬ N2 = d.size + p.size by omega), Bool.false_and, Bool.false_and]
    simp only [Bool.false_eq_true, if_false, List.length_nil, cellsR]
    go_enter Tryd.func30, Tryd.ntmps30
    go_upto_region 1 with fail
    generalize W.alloc (.cells #[.string d, .string p, .int .i64 n] 34) = w0 at HB HP HM HX ⊢
    have x0 := HX.out.cell (i := 0) (v := .string d) rfl
    have x1 := HX.out.cell (i := 1) (v := .string p) rfl
    have x2 := HX.out.cell (i := 2) (v := .int .i64 n) rfl
    go_wp2_with fail
    refine (HF1.out _ HP.out HM.out).mono ?_
    rintro e w1 ⟨vw1, rfl, _, hb⟩
    clear x0 x1 x2 HF1
    replace HP := Lib.hid (HP.out.below hb)
    replace HM := Lib.hid (HM.out.below hb)
    replace HX := Lib.hid (HX.out.step hb)
    replace HB := Lib.hid (below_trans HB.out hb)
    clear hb
    have x0 := HX.out.cell (i := 0) (v := .string d) rfl
    have x1 := HX.out.cell (i := 1) (v := .string p) rfl
    have x2 := HX.out.cell (i := 2) (v := .int .i64 n) rfl
    have hlo := HB.out.size
    go_wp2_with fail
    refine (HF2.out _ HP.out HM.out).mono ?_
    rintro e w2 ⟨vw2, rfl, hrow, hb⟩
    clear x0 x1 x2 HF2
    replace HP := Lib.hid (HP.out.below hb)
    replace HM := Lib.hid (HM.out.below hb)
    replace HX := Lib.hid (HX.out.step hb)
    replace HB := Lib.hid (below_trans HB.out hb)
    clear hb
    have x0 := HX.out.cell (i := 0) (v := .string d) rfl
    have x1 := HX.out.cell (i := 1) (v := .string p) rfl
    have x2 := HX.out.cell (i := 2) (v := .int .i64 n) rfl
    obtain ⟨A2, c2, rfl⟩ := row_sliceR hrow
    have HRow := Lib.hid (row_baseR hrow hlo)
    clear hrow hlo
    have HR := Lib.hid (HR0 w2 HB.out.size)
    have HBF := Lib.hid (HB.out.alloc HB.out.size (.cells #[] 27))
    go_wp2
    go_ret2
    exact ⟨_, rfl, HR.out, HBF.out⟩
  obtain rfl : N2 = d.size + p.size := by omega
  by_cases h3 : ((L2.length : Nat) : Int) = n
  · rw [decide_eq_true h3]
    simp only [decide_true, Bool.and_self, if_true]
    go_enter Tryd.func30, Tryd.ntmps30
    go_upto_region 1 with fail
    generalize W.alloc (.cells #[.string d, .string p, .int .i64 n] 34) = w0 at HB HP HM HX ⊢
    have x0 := HX.out.cell (i := 0) (v := .string d) rfl
    have x1 := HX.out.cell (i := 1) (v := .string p) rfl
    have x2 := HX.out.cell (i := 2) (v := .int .i64 n) rfl
    go_wp2_with fail
    refine (HF1.out _ HP.out HM.out).mono ?_
    rintro e w1 ⟨vw1, rfl, _, hb⟩
    clear x0 x1 x2 HF1
    replace HP := Lib.hid (HP.out.below hb)
    replace HM := Lib.hid (HM.out.below hb)
    replace HX := Lib.hid (HX.out.step hb)
    replace HB := Lib.hid (below_trans HB.out hb)
    clear hb
    have x0 := HX.out.cell (i := 0) (v := .string d) rfl
    have x1 := HX.out.cell (i := 1) (v := .string p) rfl
    have x2 := HX.out.cell (i := 2) (v := .int .i64 n) rfl
    have hlo := HB.out.size
    go_wp2_with fail
    refine (HF2.out _ HP.out HM.out).mono ?_
    rintro e w2 ⟨vw2, rfl, hrow, hb⟩
    clear x0 x1 x2 HF2
    replace HP := Lib.hid (HP.out.below hb)
    replace HM := Lib.hid (HM.out.below hb)
    replace HX := Lib.hid (HX.out.step hb)
    replace HB := Lib.hid (below_trans HB.out hb)
    clear hb
    have x0 := HX.out.cell (i := 0) (v := .string d) rfl
    have x1 := HX.out.cell (i := 1) (v := .string p) rfl
    have x2 := HX.out.cell (i := 2) (v := .int .i64 n) rfl
    obtain ⟨A2, c2, rfl⟩ := row_sliceR hrow
    have HRow := Lib.hid (row_baseR hrow hlo)
    clear hrow hlo
    go_wp2
    go_ret2
    exact ⟨_, rfl, HRow.out, HB.out⟩
  · rw [decide_eq_false h3]
    simp only [Bool.and_false, Bool.false_eq_true, if_false, List.length_nil, cellsR]
    go_enter Tryd.func30, Tryd.ntmps30
    go_upto_region 1 with fail
    generalize W.alloc (.cells #[.string d, .string p, .int .i64 n] 34) = w0 at HB HP HM HX ⊢
    have x0 := HX.out.cell (i := 0) (v := .string d) rfl
    have x1 := HX.out.cell (i := 1) (v := .string p) rfl
    have x2 := HX.out.cell (i := 2) (v := .int .i64 n) rfl
    go_wp2_with fail
    refine (HF1.out _ HP.out HM.out).mono ?_
    rintro e w1 ⟨vw1, rfl, _, hb⟩
    clear x0 x1 x2 HF1
    replace HP := Lib.hid (HP.out.below hb)
    replace HM := Lib.hid (HM.out.below hb)
    replace HX := Lib.hid (HX.out.step hb)
    replace HB := Lib.hid (below_trans HB.out hb)
    clear hb
    have x0 := HX.out.cell (i := 0) (v := .string d) rfl
    have x1 := HX.out.cell (i := 1) (v := .string p) rfl
    have x2 := HX.out.cell (i := 2) (v := .int .i64 n) rfl
    have hlo := HB.out.size
    go_wp2_with fail
    refine (HF2.out _ HP.out HM.out).mono ?_
    rintro e w2 ⟨vw2, rfl, hrow, hb⟩
    clear x0 x1 x2 HF2
    replace HP := Lib.hid (HP.out.below hb)
    replace HM := Lib.hid (HM.out.below hb)
    replace HX := Lib.hid (HX.out.step hb)
    replace HB := Lib.hid (below_trans HB.out hb)
    clear hb
    have x0 := HX.out.cell (i := 0) (v := .string d) rfl
    have x1 := HX.out.cell (i := 1) (v := .string p) rfl
    have x2 := HX.out.cell (i := 2) (v := .int .i64 n) rfl
    obtain ⟨A2, c2, rfl⟩ := row_sliceR hrow
    have HRow := Lib.hid (row_baseR hrow hlo)
    clear hrow hlo
    have HR := Lib.hid (HR0 w2 HB.out.size)
    have HBF := Lib.hid (HB.out.alloc HB.out.size (.cells #[] 27))
    go_wp2
    go_ret2
    exact ⟨_, rfl, HR.out, HBF.out⟩

set_option maxRecDepth 100000 in
set_option maxHeartbeats 8000000 in
theorem l12Valid_any (d p : ByteArray) (n : Int) (W : World) (hs : d.size + p.size ≤ 1048576) :
    Calls Tryd.prog 52 #[.agg (lgA d p n)] W fun e w' => e = .returned (.bool (logOK d p n)) ∧ Below W.heap.size W w' := by
  have HF1 := Lib.hid (fun w => l12Open_any d w (by omega))
  have HF2 := Lib.hid (fun w => l12Open_any (d ++ p) w (by rw [ByteArray.size_append]; omega))
  have hadd : ∀ W, (Op.stringOp .add d p).run Tryd.prog W = .ok (.string (d ++ p)) W := fun W => by
    rw [run_string_add_sum W _ _ (by omega)]
  rw [app_list] at HF2
  have hb1 := (recs12_bd d.data.toList).2
  have hb2 := (recs12_bd (d.data.toList ++ p.data.toList)).2
  have hb3 := (recs12_bd (d.data.toList ++ p.data.toList)).1
  rw [data_size] at hb1
  rw [List.length_append, data_size, data_size] at hb2
  unfold logOK
  generalize recs12 (d.data.toList ++ p.data.toList) = RR at HF2 hb2 hb3 ⊢
  obtain ⟨L2, N2⟩ := RR
  generalize recs12 d.data.toList = R1 at HF1 hb1 ⊢
  obtain ⟨L1, N1⟩ := R1
  dsimp only at HF1 HF2 hb1 hb2 hb3 ⊢
  generalize d ++ p = dp at HF2 hadd
  have HX := Lib.hid (Rw.new W (lgA d p n) 34 (W.heap.size) rfl)
  have HB := Lib.hid ((Below.refl W.heap.size W).alloc (Nat.le_refl _) (.cells (lgA d p n) 34))
  unfold lgA at HX HB ⊢
  rcases Nat.lt_or_ge 30000 (d.size + p.size) with h0 | h0
  · rw [decide_eq_false (show ¬ d.size + p.size ≤ 30000 by omega), Bool.false_and]
    clear HF1 HF2
    go_enter Tryd.func52, Tryd.ntmps52
    go_upto_region 1 with fail
    generalize W.alloc (.cells #[.string d, .string p, .int .i64 n] 34) = w0 at HB HX ⊢
    have x0 := HX.out.cell (i := 0) (v := .string d) rfl
    have x1 := HX.out.cell (i := 1) (v := .string p) rfl
    have x2 := HX.out.cell (i := 2) (v := .int .i64 n) rfl
    go_wp2
    go_ret
    exact ⟨rfl, HB.out⟩
  rw [decide_eq_true h0, Bool.true_and]
  rcases Nat.lt_or_ge N2 (d.size + p.size) with h2 | h2
  · rw [decide_eq_false (show ¬ N2 = d.size + p.size by omega), Bool.false_and, Bool.false_and]
    have h2i : ((N2 : Nat) : Int) ≠ (d.size : Int) + (p.size : Int) := by omega
    go_enter Tryd.func52, Tryd.ntmps52
    go_upto_region 1 with fail
    generalize W.alloc (.cells #[.string d, .string p, .int .i64 n] 34) = w0 at HB HX ⊢
    have x0 := HX.out.cell (i := 0) (v := .string d) rfl
    have x1 := HX.out.cell (i := 1) (v := .string p) rfl
    have x2 := HX.out.cell (i := 2) (v := .int .i64 n) rfl
    go_wp2_with fail
    refine (HF2.out _).mono ?_
    rintro e w1 ⟨vw1, rfl, hrow, hb⟩
    clear x0 x1 x2 HF2
    replace HX := Lib.hid (HX.out.step hb)
    replace HB := Lib.hid (below_trans HB.out hb)
    clear hb
    have x0 := HX.out.cell (i := 0) (v := .string d) rfl
    have x1 := HX.out.cell (i := 1) (v := .string p) rfl
    have x2 := HX.out.cell (i := 2) (v := .int .i64 n) rfl
    obtain ⟨A2, c2, rfl⟩ := row_sliceR hrow
    clear hrow
    go_wp2_with fail
    refine (HF1.out _).mono ?_
    rintro e w2 ⟨vw2, rfl, _, hb⟩
    clear x0 x1 x2 HF1
    replace HX := Lib.hid (HX.out.step hb)
    replace HB := Lib.hid (below_trans HB.out hb)
    clear hb
    have x0 := HX.out.cell (i := 0) (v := .string d) rfl
    have x1 := HX.out.cell (i := 1) (v := .string p) rfl
    have x2 := HX.out.cell (i := 2) (v := .int .i64 n) rfl
    go_wp2
    go_ret
    exact ⟨rfl, HB.out⟩
  obtain rfl : N2 = d.size + p.size := by omega
  rcases Nat.lt_or_ge N1 d.size with h1 | h1
  · rw [decide_eq_false (show ¬ N1 = d.size by omega), Bool.and_false, Bool.false_and]
    have h1i : ((N1 : Nat) : Int) ≠ (d.size : Int) := by omega
    go_enter Tryd.func52, Tryd.ntmps52
    go_upto_region 1 with fail
    generalize W.alloc (.cells #[.string d, .string p, .int .i64 n] 34) = w0 at HB HX ⊢
    have x0 := HX.out.cell (i := 0) (v := .string d) rfl
    have x1 := HX.out.cell (i := 1) (v := .string p) rfl
    have x2 := HX.out.cell (i := 2) (v := .int .i64 n) rfl
    go_wp2_with fail
    refine (HF2.out _).mono ?_
    rintro e w1 ⟨vw1, rfl, hrow, hb⟩
    clear x0 x1 x2 HF2
    replace HX := Lib.hid (HX.out.step hb)
    replace HB := Lib.hid (below_trans HB.out hb)
    clear hb
    have x0 := HX.out.cell (i := 0) (v := .string d) rfl
    have x1 := HX.out.cell (i := 1) (v := .string p) rfl
    have x2 := HX.out.cell (i := 2) (v := .int .i64 n) rfl
    obtain ⟨A2, c2, rfl⟩ := row_sliceR hrow
    clear hrow
    go_wp2_with fail
    refine (HF1.out _).mono ?_
    rintro e w2 ⟨vw2, rfl, _, hb⟩
    clear x0 x1 x2 HF1
    replace HX := Lib.hid (HX.out.step hb)
    replace HB := Lib.hid (below_trans HB.out hb)
    clear hb
    have x0 := HX.out.cell (i := 0) (v := .string d) rfl
    have x1 := HX.out.cell (i := 1) (v := .string p) rfl
    have x2 := HX.out.cell (i := 2) (v := .int .i64 n) rfl
    go_wp2
    go_ret
    exact ⟨rfl, HB.out⟩
  obtain rfl : N1 = d.size := by omega
  by_cases h3 : ((L2.length : Nat) : Int) = n
  · rw [decide_eq_true h3]

    simp only [decide_true, Bool.and_self]
    go_enter Tryd.func52, Tryd.ntmps52
    go_upto_region 1 with fail
    generalize W.alloc (.cells #[.string d, .string p, .int .i64 n] 34) = w0 at HB HX ⊢
    have x0 := HX.out.cell (i := 0) (v := .string d) rfl
    have x1 := HX.out.cell (i := 1) (v := .string p) rfl
    have x2 := HX.out.cell (i := 2) (v := .int .i64 n) rfl
    go_wp2_with fail
    refine (HF2.out _).mono ?_
    rintro e w1 ⟨vw1, rfl, hrow, hb⟩
    clear x0 x1 x2 HF2
    replace HX := Lib.hid (HX.out.step hb)
    replace HB := Lib.hid (below_trans HB.out hb)
    clear hb
    have x0 := HX.out.cell (i := 0) (v := .string d) rfl
    have x1 := HX.out.cell (i := 1) (v := .string p) rfl
    have x2 := HX.out.cell (i := 2) (v := .int .i64 n) rfl
    obtain ⟨A2, c2, rfl⟩ := row_sliceR hrow
    clear hrow
    go_wp2_with fail
    refine (HF1.out _).mono ?_
    rintro e w2 ⟨vw2, rfl, _, hb⟩
    clear x0 x1 x2 HF1
    replace HX := Lib.hid (HX.out.step hb)
    replace HB := Lib.hid (below_trans HB.out hb)
    clear hb
    have x0 := HX.out.cell (i := 0) (v := .string d) rfl
    have x1 := HX.out.cell (i := 1) (v := .string p) rfl
    have x2 := HX.out.cell (i := 2) (v := .int .i64 n) rfl
    go_wp2
    go_ret
    exact ⟨rfl, HB.out⟩
  · rw [decide_eq_false h3, Bool.and_false]
    go_enter Tryd.func52, Tryd.ntmps52
    go_upto_region 1 with fail
    generalize W.alloc (.cells #[.string d, .string p, .int .i64 n] 34) = w0 at HB HX ⊢
    have x0 := HX.out.cell (i := 0) (v := .string d) rfl
    have x1 := HX.out.cell (i := 1) (v := .string p) rfl
    have x2 := HX.out.cell (i := 2) (v := .int .i64 n) rfl
    go_wp2_with fail
    refine (HF2.out _).mono ?_
    rintro e w1 ⟨vw1, rfl, hrow, hb⟩
    clear x0 x1 x2 HF2
    replace HX := Lib.hid (HX.out.step hb)
    replace HB := Lib.hid (below_trans HB.out hb)
    clear hb
    have x0 := HX.out.cell (i := 0) (v := .string d) rfl
    have x1 := HX.out.cell (i := 1) (v := .string p) rfl
    have x2 := HX.out.cell (i := 2) (v := .int .i64 n) rfl
    obtain ⟨A2, c2, rfl⟩ := row_sliceR hrow
    clear hrow
    go_wp2_with fail
    refine (HF1.out _).mono ?_
    rintro e w2 ⟨vw2, rfl, _, hb⟩
    clear x0 x1 x2 HF1
    replace HX := Lib.hid (HX.out.step hb)
    replace HB := Lib.hid (below_trans HB.out hb)
    clear hb
    have x0 := HX.out.cell (i := 0) (v := .string d) rfl
    have x1 := HX.out.cell (i := 1) (v := .string p) rfl
    have x2 := HX.out.cell (i := 2) (v := .int .i64 n) rfl
    go_wp2
    go_ret
    exact ⟨by simp [h3], HB.out⟩

set_option maxRecDepth 100000 in
set_option maxHeartbeats 8000000 in
theorem isValidLog_impl (d p : ByteArray) (n : Int) (W : World) (hs : d.size + p.size ≤ 1048576) (hP : Pow W) (hM : MaxL W) :
    Calls Tryd.prog 19 #[.agg (lgA d p n)] W fun e w' => e = .returned (.bool (logOK d p n)) ∧ Below W.heap.size W w' := by
  have HC := Lib.hid (fun w hp hm => logRecords_impl d p n w hs hp hm)
  have HX := Lib.hid (Rw.new W (lgA d p n) 34 (W.heap.size) rfl)
  have HB := Lib.hid ((Below.refl W.heap.size W).alloc (Nat.le_refl _) (.cells (lgA d p n) 34))
  have HP := Lib.hid (hP.below HB.out)
  have HM := Lib.hid (hM.below HB.out)
  clear hP hM
  generalize logOK d p n = B at HC ⊢
  unfold lgA at HC HX HB HP HM ⊢
  go_enter Tryd.func19, Tryd.ntmps19
  go_upto_region 1 with fail
  generalize W.alloc (.cells #[.string d, .string p, .int .i64 n] 34) = w0 at HB HP HM HX ⊢
  have x0 := HX.out.cell (i := 0) (v := .string d) rfl
  have x1 := HX.out.cell (i := 1) (v := .string p) rfl
  have x2 := HX.out.cell (i := 2) (v := .int .i64 n) rfl
  go_wp2_with fail
  refine (HC.out _ HP.out HM.out).mono ?_
  rintro e w1 ⟨v1, rfl, hrow, hb⟩
  obtain ⟨A, c, rfl⟩ := row_sliceR hrow
  replace HB := Lib.hid (below_trans HB.out hb)
  clear x0 x1 x2 HC hrow hb
  go_wp2
  go_ret
  exact ⟨rfl, HB.out⟩
end Go.Proofs.YtpjoljaamakagabDoor
