/- States of rooms: both sides. -/
import Derived.Test.YtpjoljaamakagaaL12X
namespace Go.Proofs.Ytpjoljaamakagaa
open Go.RowKit Go.ChangeShapes Go.WideShapes
set_option linter.unusedVariables false
set_option linter.unusedSimpArgs false


set_option maxRecDepth 100000 in
set_option maxHeartbeats 8000000 in
theorem stateOfRoom_impl_yes (p : Nat → Int) (k : Nat) (m c : Int) (W : World) (h1 : 1 ≤ k) (h12 : k ≤ 12) (hr : roomOK p k m c = true) :
    Calls Try.prog 22 #[.agg (rmA p k m c)] W fun e w' => ∃ B d, e = .returned (.tuple #[.agg #[.slice B (lz p k).length d, .int .i64 m], .bool true]) ∧ Res w' W.heap.size w'.heap.size B (lz p k) ∧ Below W.heap.size W w' := by
  have HG := Lib.hid (fun w => isRoom_impl p k m c w)
  rw [hr] at HG
  simp only [rmA] at HG
  clear hr
  have HST := Lib.hid (fun w => state12_any p k m c w h1 h12)
  simp only [rmA] at HST
  have HX := Lib.hid (Rw.new W #[.int .i64 (p 0), .int .i64 (p 1), .int .i64 (p 2), .int .i64 (p 3), .int .i64 (p 4), .int .i64 (p 5), .int .i64 (p 6), .int .i64 (p 7), .int .i64 (p 8), .int .i64 (p 9), .int .i64 (p 10), .int .i64 (p 11), .int .i64 k, .int .i64 m, .int .i64 c] 26 (W.heap.size) rfl)
  have HB := Lib.hid ((Below.refl W.heap.size W).alloc (Nat.le_refl _) (.cells #[.int .i64 (p 0), .int .i64 (p 1), .int .i64 (p 2), .int .i64 (p 3), .int .i64 (p 4), .int .i64 (p 5), .int .i64 (p 6), .int .i64 (p 7), .int .i64 (p 8), .int .i64 (p 9), .int .i64 (p 10), .int .i64 (p 11), .int .i64 k, .int .i64 m, .int .i64 c] 26))
  have HZ := Lib.hid (Rw.new (W.alloc (.cells #[.int .i64 (p 0), .int .i64 (p 1), .int .i64 (p 2), .int .i64 (p 3), .int .i64 (p 4), .int .i64 (p 5), .int .i64 (p 6), .int .i64 (p 7), .int .i64 (p 8), .int .i64 (p 9), .int .i64 (p 10), .int .i64 (p 11), .int .i64 k, .int .i64 m, .int .i64 c] 26)) #[.slice none 0 0, .int .i64 0] 35 (W.heap.size + 1) (by simp))
  replace HX := Lib.hid (HX.out.step ((Below.refl _ _).alloc (Nat.le_refl _) (.cells #[.slice none 0 0, .int .i64 0] 35)))
  replace HB := Lib.hid (HB.out.alloc HB.out.size (.cells #[.slice none 0 0, .int .i64 0] 35))
  go_enter Try.func22, Try.ntmps22
  simp only [rmA]
  go_upto_region 1 with fail
  generalize (W.alloc (.cells #[.int .i64 (p 0), .int .i64 (p 1), .int .i64 (p 2), .int .i64 (p 3), .int .i64 (p 4), .int .i64 (p 5), .int .i64 (p 6), .int .i64 (p 7), .int .i64 (p 8), .int .i64 (p 9), .int .i64 (p 10), .int .i64 (p 11), .int .i64 k, .int .i64 m, .int .i64 c] 26)).alloc (.cells #[.slice none 0 0, .int .i64 0] 35) = w0 at HB HX HZ ⊢
  have hx_0 := HX.out.cell (i := 0) (v := .int .i64 (p 0)) rfl
  have hx_1 := HX.out.cell (i := 1) (v := .int .i64 (p 1)) rfl
  have hx_2 := HX.out.cell (i := 2) (v := .int .i64 (p 2)) rfl
  have hx_3 := HX.out.cell (i := 3) (v := .int .i64 (p 3)) rfl
  have hx_4 := HX.out.cell (i := 4) (v := .int .i64 (p 4)) rfl
  have hx_5 := HX.out.cell (i := 5) (v := .int .i64 (p 5)) rfl
  have hx_6 := HX.out.cell (i := 6) (v := .int .i64 (p 6)) rfl
  have hx_7 := HX.out.cell (i := 7) (v := .int .i64 (p 7)) rfl
  have hx_8 := HX.out.cell (i := 8) (v := .int .i64 (p 8)) rfl
  have hx_9 := HX.out.cell (i := 9) (v := .int .i64 (p 9)) rfl
  have hx_10 := HX.out.cell (i := 10) (v := .int .i64 (p 10)) rfl
  have hx_11 := HX.out.cell (i := 11) (v := .int .i64 (p 11)) rfl
  have hx_12 := HX.out.cell (i := 12) (v := .int .i64 k) rfl
  have hx_13 := HX.out.cell (i := 13) (v := .int .i64 m) rfl
  have hx_14 := HX.out.cell (i := 14) (v := .int .i64 c) rfl
  go_wp2_with fail
  refine (HG.out _).mono ?_
  rintro e w1 ⟨rfl, hb⟩
  clear hx_0 hx_1 hx_2 hx_3 hx_4 hx_5 hx_6 hx_7 hx_8 hx_9 hx_10 hx_11 hx_12 hx_13 hx_14
  replace HX := Lib.hid (HX.out.step hb)
  replace HZ := Lib.hid (HZ.out.step hb)
  replace HB := Lib.hid (below_trans HB.out hb)
  clear hb
  clear HG
  have hz1 := HZ.out.lt
  have hx_0 := HX.out.cell (i := 0) (v := .int .i64 (p 0)) rfl
  have hx_1 := HX.out.cell (i := 1) (v := .int .i64 (p 1)) rfl
  have hx_2 := HX.out.cell (i := 2) (v := .int .i64 (p 2)) rfl
  have hx_3 := HX.out.cell (i := 3) (v := .int .i64 (p 3)) rfl
  have hx_4 := HX.out.cell (i := 4) (v := .int .i64 (p 4)) rfl
  have hx_5 := HX.out.cell (i := 5) (v := .int .i64 (p 5)) rfl
  have hx_6 := HX.out.cell (i := 6) (v := .int .i64 (p 6)) rfl
  have hx_7 := HX.out.cell (i := 7) (v := .int .i64 (p 7)) rfl
  have hx_8 := HX.out.cell (i := 8) (v := .int .i64 (p 8)) rfl
  have hx_9 := HX.out.cell (i := 9) (v := .int .i64 (p 9)) rfl
  have hx_10 := HX.out.cell (i := 10) (v := .int .i64 (p 10)) rfl
  have hx_11 := HX.out.cell (i := 11) (v := .int .i64 (p 11)) rfl
  have hx_12 := HX.out.cell (i := 12) (v := .int .i64 k) rfl
  have hx_13 := HX.out.cell (i := 13) (v := .int .i64 m) rfl
  have hx_14 := HX.out.cell (i := 14) (v := .int .i64 c) rfl
  go_wp2_with fail
  refine (HST.out _).mono ?_
  rintro e w2 ⟨B1, d1, rfl, hr, hb⟩
  clear hx_0 hx_1 hx_2 hx_3 hx_4 hx_5 hx_6 hx_7 hx_8 hx_9 hx_10 hx_11 hx_12 hx_13 hx_14
  replace HX := Lib.hid (HX.out.step hb)
  replace HZ := Lib.hid (HZ.out.step hb)
  replace HB := Lib.hid (below_trans HB.out hb)
  have R1 := Lib.hid hr
  clear hr HST
  clear hb
  have hz_0 := HZ.out.cell (i := 0) (v := .slice none 0 0) rfl
  have hz_1 := HZ.out.cell (i := 1) (v := .int .i64 0) rfl
  have f0 := HZ.out.free 0
  have f1 := HZ.out.free 1
  obtain ⟨hs, hw⟩ := stored2 HZ.out.row (.slice B1 (lz p k).length d1) (.int .i64 m)
  have HBF := Lib.hid (HB.out.trans (hw.below (by omega) HB.out.size))
  have hz := HZ.out.lt
  have HRF := Lib.hid (Res.within (⟨R1.out.own.wide (lo' := W.heap.size + 2) (hi' := w2.heap.size) (by omega) (Nat.le_refl _), Nat.le_refl _⟩ : Res w2 (W.heap.size + 2) w2.heap.size B1 (lz p k)) hw (.inr (Nat.le_refl _)))
  have hsz := hw.size
  clear hw HX HZ
  go_wp2
  generalize ((w2.setCell ⟨W.heap.size + 1, 0, none⟩ (.slice B1 (lz p k).length d1)).setCell ⟨W.heap.size + 1, 1, none⟩ (.int .i64 m)) = wf at hs HBF HRF hsz ⊢
  have e0 := two0 hs
  have e1 := two1 hs
  refine bodyPost_ret (v := .tuple #[.agg #[.slice B1 (lz p k).length d1, .int .i64 m], .bool true]) (by simp [results, go_sem, e0, e1]) rfl ?_
  exact ⟨B1, d1, rfl, ⟨HRF.out.own.wide (by omega) hsz, Nat.le_refl _⟩, HBF.out⟩

set_option maxRecDepth 100000 in
set_option maxHeartbeats 8000000 in
theorem stateOfRoom_impl_no (p : Nat → Int) (n : Int) (m c : Int) (W : World) (hr : roomOK p n m c = false) :
    Calls Try.prog 22 #[.agg (rmA p n m c)] W fun e w' => e = .returned (.tuple #[.agg #[.slice none 0 0, .int .i64 0], .bool false]) ∧ Below W.heap.size W w' := by
  have HG := Lib.hid (fun w => isRoom_impl p n m c w)
  rw [hr] at HG
  simp only [rmA] at HG
  clear hr
  have HX := Lib.hid (Rw.new W #[.int .i64 (p 0), .int .i64 (p 1), .int .i64 (p 2), .int .i64 (p 3), .int .i64 (p 4), .int .i64 (p 5), .int .i64 (p 6), .int .i64 (p 7), .int .i64 (p 8), .int .i64 (p 9), .int .i64 (p 10), .int .i64 (p 11), .int .i64 n, .int .i64 m, .int .i64 c] 26 (W.heap.size) rfl)
  have HB := Lib.hid ((Below.refl W.heap.size W).alloc (Nat.le_refl _) (.cells #[.int .i64 (p 0), .int .i64 (p 1), .int .i64 (p 2), .int .i64 (p 3), .int .i64 (p 4), .int .i64 (p 5), .int .i64 (p 6), .int .i64 (p 7), .int .i64 (p 8), .int .i64 (p 9), .int .i64 (p 10), .int .i64 (p 11), .int .i64 n, .int .i64 m, .int .i64 c] 26))
  have HZ := Lib.hid (Rw.new (W.alloc (.cells #[.int .i64 (p 0), .int .i64 (p 1), .int .i64 (p 2), .int .i64 (p 3), .int .i64 (p 4), .int .i64 (p 5), .int .i64 (p 6), .int .i64 (p 7), .int .i64 (p 8), .int .i64 (p 9), .int .i64 (p 10), .int .i64 (p 11), .int .i64 n, .int .i64 m, .int .i64 c] 26)) #[.slice none 0 0, .int .i64 0] 35 (W.heap.size + 1) (by simp))
  replace HX := Lib.hid (HX.out.step ((Below.refl _ _).alloc (Nat.le_refl _) (.cells #[.slice none 0 0, .int .i64 0] 35)))
  replace HB := Lib.hid (HB.out.alloc HB.out.size (.cells #[.slice none 0 0, .int .i64 0] 35))
  go_enter Try.func22, Try.ntmps22
  simp only [rmA]
  go_upto_region 1 with fail
  generalize (W.alloc (.cells #[.int .i64 (p 0), .int .i64 (p 1), .int .i64 (p 2), .int .i64 (p 3), .int .i64 (p 4), .int .i64 (p 5), .int .i64 (p 6), .int .i64 (p 7), .int .i64 (p 8), .int .i64 (p 9), .int .i64 (p 10), .int .i64 (p 11), .int .i64 n, .int .i64 m, .int .i64 c] 26)).alloc (.cells #[.slice none 0 0, .int .i64 0] 35) = w0 at HB HX HZ ⊢
  have hx_0 := HX.out.cell (i := 0) (v := .int .i64 (p 0)) rfl
  have hx_1 := HX.out.cell (i := 1) (v := .int .i64 (p 1)) rfl
  have hx_2 := HX.out.cell (i := 2) (v := .int .i64 (p 2)) rfl
  have hx_3 := HX.out.cell (i := 3) (v := .int .i64 (p 3)) rfl
  have hx_4 := HX.out.cell (i := 4) (v := .int .i64 (p 4)) rfl
  have hx_5 := HX.out.cell (i := 5) (v := .int .i64 (p 5)) rfl
  have hx_6 := HX.out.cell (i := 6) (v := .int .i64 (p 6)) rfl
  have hx_7 := HX.out.cell (i := 7) (v := .int .i64 (p 7)) rfl
  have hx_8 := HX.out.cell (i := 8) (v := .int .i64 (p 8)) rfl
  have hx_9 := HX.out.cell (i := 9) (v := .int .i64 (p 9)) rfl
  have hx_10 := HX.out.cell (i := 10) (v := .int .i64 (p 10)) rfl
  have hx_11 := HX.out.cell (i := 11) (v := .int .i64 (p 11)) rfl
  have hx_12 := HX.out.cell (i := 12) (v := .int .i64 n) rfl
  have hx_13 := HX.out.cell (i := 13) (v := .int .i64 m) rfl
  have hx_14 := HX.out.cell (i := 14) (v := .int .i64 c) rfl
  go_wp2_with fail
  refine (HG.out _).mono ?_
  rintro e w1 ⟨rfl, hb⟩
  clear hx_0 hx_1 hx_2 hx_3 hx_4 hx_5 hx_6 hx_7 hx_8 hx_9 hx_10 hx_11 hx_12 hx_13 hx_14
  replace HX := Lib.hid (HX.out.step hb)
  replace HZ := Lib.hid (HZ.out.step hb)
  replace HB := Lib.hid (below_trans HB.out hb)
  clear hb
  clear HG
  have hz1 := HZ.out.lt
  have hz_0 := HZ.out.cell (i := 0) (v := .slice none 0 0) rfl
  have hz_1 := HZ.out.cell (i := 1) (v := .int .i64 0) rfl
  have f0 := HZ.out.free 0
  have f1 := HZ.out.free 1
  obtain ⟨hs, hw⟩ := stored2 HZ.out.row (.slice none 0 0) (.int .i64 0)
  have HBF := Lib.hid (HB.out.trans (hw.below (by omega) HB.out.size))
  clear hw HX HZ
  go_wp2
  generalize ((w1.setCell ⟨W.heap.size + 1, 0, none⟩ (.slice none 0 0)).setCell ⟨W.heap.size + 1, 1, none⟩ (.int .i64 0)) = wf at hs HBF ⊢
  have e0 := two0 hs
  have e1 := two1 hs
  refine bodyPost_ret (v := .tuple #[.agg #[.slice none 0 0, .int .i64 0], .bool false]) (by simp [results, go_sem, e0, e1]) rfl ?_
  exact ⟨rfl, HBF.out⟩

set_option maxRecDepth 100000 in
set_option maxHeartbeats 8000000 in
theorem stateOfRoom_spec_yes (p : Nat → Int) (k : Nat) (m c : Int) (W : World) (h1 : 1 ≤ k) (h12 : k ≤ 12) (hr : roomOK p k m c = true) :
    Calls Try.prog 21 #[.agg (rmA p k m c)] W fun e w' => ∃ B d, e = .returned (.tuple #[.agg #[.slice B (lz p k).length d, .int .i64 m], .bool true]) ∧ Res w' W.heap.size w'.heap.size B (lz p k) ∧ Below W.heap.size W w' := by
  have HG := Lib.hid (fun w => l12Good_any p k m c w)
  rw [hr] at HG
  simp only [rmA] at HG
  clear hr
  have HST := Lib.hid (fun w => l12State_any p k m c w h1 h12)
  simp only [rmA] at HST
  have HX := Lib.hid (Rw.new W #[.int .i64 (p 0), .int .i64 (p 1), .int .i64 (p 2), .int .i64 (p 3), .int .i64 (p 4), .int .i64 (p 5), .int .i64 (p 6), .int .i64 (p 7), .int .i64 (p 8), .int .i64 (p 9), .int .i64 (p 10), .int .i64 (p 11), .int .i64 k, .int .i64 m, .int .i64 c] 26 (W.heap.size) rfl)
  have HB := Lib.hid ((Below.refl W.heap.size W).alloc (Nat.le_refl _) (.cells #[.int .i64 (p 0), .int .i64 (p 1), .int .i64 (p 2), .int .i64 (p 3), .int .i64 (p 4), .int .i64 (p 5), .int .i64 (p 6), .int .i64 (p 7), .int .i64 (p 8), .int .i64 (p 9), .int .i64 (p 10), .int .i64 (p 11), .int .i64 k, .int .i64 m, .int .i64 c] 26))
  have HZ := Lib.hid (Rw.new (W.alloc (.cells #[.int .i64 (p 0), .int .i64 (p 1), .int .i64 (p 2), .int .i64 (p 3), .int .i64 (p 4), .int .i64 (p 5), .int .i64 (p 6), .int .i64 (p 7), .int .i64 (p 8), .int .i64 (p 9), .int .i64 (p 10), .int .i64 (p 11), .int .i64 k, .int .i64 m, .int .i64 c] 26)) #[.slice none 0 0, .int .i64 0] 35 (W.heap.size + 1) (by simp))
  replace HX := Lib.hid (HX.out.step ((Below.refl _ _).alloc (Nat.le_refl _) (.cells #[.slice none 0 0, .int .i64 0] 35)))
  replace HB := Lib.hid (HB.out.alloc HB.out.size (.cells #[.slice none 0 0, .int .i64 0] 35))
  go_enter Try.func21, Try.ntmps21
  simp only [rmA]
  go_upto_region 1 with fail
  generalize (W.alloc (.cells #[.int .i64 (p 0), .int .i64 (p 1), .int .i64 (p 2), .int .i64 (p 3), .int .i64 (p 4), .int .i64 (p 5), .int .i64 (p 6), .int .i64 (p 7), .int .i64 (p 8), .int .i64 (p 9), .int .i64 (p 10), .int .i64 (p 11), .int .i64 k, .int .i64 m, .int .i64 c] 26)).alloc (.cells #[.slice none 0 0, .int .i64 0] 35) = w0 at HB HX HZ ⊢
  have hx_0 := HX.out.cell (i := 0) (v := .int .i64 (p 0)) rfl
  have hx_1 := HX.out.cell (i := 1) (v := .int .i64 (p 1)) rfl
  have hx_2 := HX.out.cell (i := 2) (v := .int .i64 (p 2)) rfl
  have hx_3 := HX.out.cell (i := 3) (v := .int .i64 (p 3)) rfl
  have hx_4 := HX.out.cell (i := 4) (v := .int .i64 (p 4)) rfl
  have hx_5 := HX.out.cell (i := 5) (v := .int .i64 (p 5)) rfl
  have hx_6 := HX.out.cell (i := 6) (v := .int .i64 (p 6)) rfl
  have hx_7 := HX.out.cell (i := 7) (v := .int .i64 (p 7)) rfl
  have hx_8 := HX.out.cell (i := 8) (v := .int .i64 (p 8)) rfl
  have hx_9 := HX.out.cell (i := 9) (v := .int .i64 (p 9)) rfl
  have hx_10 := HX.out.cell (i := 10) (v := .int .i64 (p 10)) rfl
  have hx_11 := HX.out.cell (i := 11) (v := .int .i64 (p 11)) rfl
  have hx_12 := HX.out.cell (i := 12) (v := .int .i64 k) rfl
  have hx_13 := HX.out.cell (i := 13) (v := .int .i64 m) rfl
  have hx_14 := HX.out.cell (i := 14) (v := .int .i64 c) rfl
  go_wp2_with fail
  refine (HG.out _).mono ?_
  rintro e w1 ⟨rfl, hb⟩
  clear hx_0 hx_1 hx_2 hx_3 hx_4 hx_5 hx_6 hx_7 hx_8 hx_9 hx_10 hx_11 hx_12 hx_13 hx_14
  replace HX := Lib.hid (HX.out.step hb)
  replace HZ := Lib.hid (HZ.out.step hb)
  replace HB := Lib.hid (below_trans HB.out hb)
  clear hb
  clear HG
  have hz1 := HZ.out.lt
  have hx_0 := HX.out.cell (i := 0) (v := .int .i64 (p 0)) rfl
  have hx_1 := HX.out.cell (i := 1) (v := .int .i64 (p 1)) rfl
  have hx_2 := HX.out.cell (i := 2) (v := .int .i64 (p 2)) rfl
  have hx_3 := HX.out.cell (i := 3) (v := .int .i64 (p 3)) rfl
  have hx_4 := HX.out.cell (i := 4) (v := .int .i64 (p 4)) rfl
  have hx_5 := HX.out.cell (i := 5) (v := .int .i64 (p 5)) rfl
  have hx_6 := HX.out.cell (i := 6) (v := .int .i64 (p 6)) rfl
  have hx_7 := HX.out.cell (i := 7) (v := .int .i64 (p 7)) rfl
  have hx_8 := HX.out.cell (i := 8) (v := .int .i64 (p 8)) rfl
  have hx_9 := HX.out.cell (i := 9) (v := .int .i64 (p 9)) rfl
  have hx_10 := HX.out.cell (i := 10) (v := .int .i64 (p 10)) rfl
  have hx_11 := HX.out.cell (i := 11) (v := .int .i64 (p 11)) rfl
  have hx_12 := HX.out.cell (i := 12) (v := .int .i64 k) rfl
  have hx_13 := HX.out.cell (i := 13) (v := .int .i64 m) rfl
  have hx_14 := HX.out.cell (i := 14) (v := .int .i64 c) rfl
  go_wp2_with fail
  refine (HST.out _).mono ?_
  rintro e w2 ⟨B1, d1, rfl, _, hr, hb⟩
  clear hx_0 hx_1 hx_2 hx_3 hx_4 hx_5 hx_6 hx_7 hx_8 hx_9 hx_10 hx_11 hx_12 hx_13 hx_14
  replace HX := Lib.hid (HX.out.step hb)
  replace HZ := Lib.hid (HZ.out.step hb)
  replace HB := Lib.hid (below_trans HB.out hb)
  have R1 := Lib.hid hr
  clear hr HST
  clear hb
  have hz_0 := HZ.out.cell (i := 0) (v := .slice none 0 0) rfl
  have hz_1 := HZ.out.cell (i := 1) (v := .int .i64 0) rfl
  have f0 := HZ.out.free 0
  have f1 := HZ.out.free 1
  obtain ⟨hs, hw⟩ := stored2 HZ.out.row (.slice B1 (lz p k).length d1) (.int .i64 m)
  have HBF := Lib.hid (HB.out.trans (hw.below (by omega) HB.out.size))
  have hz := HZ.out.lt
  have HRF := Lib.hid (Res.within (⟨R1.out.own.wide (lo' := W.heap.size + 2) (hi' := w2.heap.size) (by omega) (Nat.le_refl _), Nat.le_refl _⟩ : Res w2 (W.heap.size + 2) w2.heap.size B1 (lz p k)) hw (.inr (Nat.le_refl _)))
  have hsz := hw.size
  clear hw HX HZ
  go_wp2
  generalize ((w2.setCell ⟨W.heap.size + 1, 0, none⟩ (.slice B1 (lz p k).length d1)).setCell ⟨W.heap.size + 1, 1, none⟩ (.int .i64 m)) = wf at hs HBF HRF hsz ⊢
  have e0 := two0 hs
  have e1 := two1 hs
  refine bodyPost_ret (v := .tuple #[.agg #[.slice B1 (lz p k).length d1, .int .i64 m], .bool true]) (by simp [results, go_sem, e0, e1]) rfl ?_
  exact ⟨B1, d1, rfl, ⟨HRF.out.own.wide (by omega) hsz, Nat.le_refl _⟩, HBF.out⟩

set_option maxRecDepth 100000 in
set_option maxHeartbeats 8000000 in
theorem stateOfRoom_spec_no (p : Nat → Int) (n : Int) (m c : Int) (W : World) (hr : roomOK p n m c = false) :
    Calls Try.prog 21 #[.agg (rmA p n m c)] W fun e w' => e = .returned (.tuple #[.agg #[.slice none 0 0, .int .i64 0], .bool false]) ∧ Below W.heap.size W w' := by
  have HG := Lib.hid (fun w => l12Good_any p n m c w)
  rw [hr] at HG
  simp only [rmA] at HG
  clear hr
  have HX := Lib.hid (Rw.new W #[.int .i64 (p 0), .int .i64 (p 1), .int .i64 (p 2), .int .i64 (p 3), .int .i64 (p 4), .int .i64 (p 5), .int .i64 (p 6), .int .i64 (p 7), .int .i64 (p 8), .int .i64 (p 9), .int .i64 (p 10), .int .i64 (p 11), .int .i64 n, .int .i64 m, .int .i64 c] 26 (W.heap.size) rfl)
  have HB := Lib.hid ((Below.refl W.heap.size W).alloc (Nat.le_refl _) (.cells #[.int .i64 (p 0), .int .i64 (p 1), .int .i64 (p 2), .int .i64 (p 3), .int .i64 (p 4), .int .i64 (p 5), .int .i64 (p 6), .int .i64 (p 7), .int .i64 (p 8), .int .i64 (p 9), .int .i64 (p 10), .int .i64 (p 11), .int .i64 n, .int .i64 m, .int .i64 c] 26))
  have HZ := Lib.hid (Rw.new (W.alloc (.cells #[.int .i64 (p 0), .int .i64 (p 1), .int .i64 (p 2), .int .i64 (p 3), .int .i64 (p 4), .int .i64 (p 5), .int .i64 (p 6), .int .i64 (p 7), .int .i64 (p 8), .int .i64 (p 9), .int .i64 (p 10), .int .i64 (p 11), .int .i64 n, .int .i64 m, .int .i64 c] 26)) #[.slice none 0 0, .int .i64 0] 35 (W.heap.size + 1) (by simp))
  replace HX := Lib.hid (HX.out.step ((Below.refl _ _).alloc (Nat.le_refl _) (.cells #[.slice none 0 0, .int .i64 0] 35)))
  replace HB := Lib.hid (HB.out.alloc HB.out.size (.cells #[.slice none 0 0, .int .i64 0] 35))
  go_enter Try.func21, Try.ntmps21
  simp only [rmA]
  go_upto_region 1 with fail
  generalize (W.alloc (.cells #[.int .i64 (p 0), .int .i64 (p 1), .int .i64 (p 2), .int .i64 (p 3), .int .i64 (p 4), .int .i64 (p 5), .int .i64 (p 6), .int .i64 (p 7), .int .i64 (p 8), .int .i64 (p 9), .int .i64 (p 10), .int .i64 (p 11), .int .i64 n, .int .i64 m, .int .i64 c] 26)).alloc (.cells #[.slice none 0 0, .int .i64 0] 35) = w0 at HB HX HZ ⊢
  have hx_0 := HX.out.cell (i := 0) (v := .int .i64 (p 0)) rfl
  have hx_1 := HX.out.cell (i := 1) (v := .int .i64 (p 1)) rfl
  have hx_2 := HX.out.cell (i := 2) (v := .int .i64 (p 2)) rfl
  have hx_3 := HX.out.cell (i := 3) (v := .int .i64 (p 3)) rfl
  have hx_4 := HX.out.cell (i := 4) (v := .int .i64 (p 4)) rfl
  have hx_5 := HX.out.cell (i := 5) (v := .int .i64 (p 5)) rfl
  have hx_6 := HX.out.cell (i := 6) (v := .int .i64 (p 6)) rfl
  have hx_7 := HX.out.cell (i := 7) (v := .int .i64 (p 7)) rfl
  have hx_8 := HX.out.cell (i := 8) (v := .int .i64 (p 8)) rfl
  have hx_9 := HX.out.cell (i := 9) (v := .int .i64 (p 9)) rfl
  have hx_10 := HX.out.cell (i := 10) (v := .int .i64 (p 10)) rfl
  have hx_11 := HX.out.cell (i := 11) (v := .int .i64 (p 11)) rfl
  have hx_12 := HX.out.cell (i := 12) (v := .int .i64 n) rfl
  have hx_13 := HX.out.cell (i := 13) (v := .int .i64 m) rfl
  have hx_14 := HX.out.cell (i := 14) (v := .int .i64 c) rfl
  go_wp2_with fail
  refine (HG.out _).mono ?_
  rintro e w1 ⟨rfl, hb⟩
  clear hx_0 hx_1 hx_2 hx_3 hx_4 hx_5 hx_6 hx_7 hx_8 hx_9 hx_10 hx_11 hx_12 hx_13 hx_14
  replace HX := Lib.hid (HX.out.step hb)
  replace HZ := Lib.hid (HZ.out.step hb)
  replace HB := Lib.hid (below_trans HB.out hb)
  clear hb
  clear HG
  have hz1 := HZ.out.lt
  have hz_0 := HZ.out.cell (i := 0) (v := .slice none 0 0) rfl
  have hz_1 := HZ.out.cell (i := 1) (v := .int .i64 0) rfl
  have f0 := HZ.out.free 0
  have f1 := HZ.out.free 1
  obtain ⟨hs, hw⟩ := stored2 HZ.out.row (.slice none 0 0) (.int .i64 0)
  have HBF := Lib.hid (HB.out.trans (hw.below (by omega) HB.out.size))
  clear hw HX HZ
  go_wp2
  generalize ((w1.setCell ⟨W.heap.size + 1, 0, none⟩ (.slice none 0 0)).setCell ⟨W.heap.size + 1, 1, none⟩ (.int .i64 0)) = wf at hs HBF ⊢
  have e0 := two0 hs
  have e1 := two1 hs
  refine bodyPost_ret (v := .tuple #[.agg #[.slice none 0 0, .int .i64 0], .bool false]) (by simp [results, go_sem, e0, e1]) rfl ?_
  exact ⟨rfl, HBF.out⟩
theorem stateOfRoom_both (p : Nat → Int) (n m c : Int) : ∃ (r0 : List Int) (u0 : Int) (r1 : Bool), r0.length ≤ 1048576 ∧
    (∀ (w : World), Calls Try.prog 22 #[.agg (rmA p n m c)] w fun e w' => ∃ B c', e = .returned (.tuple #[.agg #[.slice B r0.length c', .int .i64 u0], .bool r1]) ∧ Res w' w.heap.size w'.heap.size B r0 ∧ Below w.heap.size w w') ∧
    (∀ (w : World), Calls Try.prog 21 #[.agg (rmA p n m c)] w fun e w' => ∃ B c', e = .returned (.tuple #[.agg #[.slice B r0.length c', .int .i64 u0], .bool r1]) ∧ Res w' w.heap.size w'.heap.size B r0 ∧ Below w.heap.size w w') := by
  cases h : roomOK p n m c with
  | true =>
    obtain ⟨k, rfl, h1, h12, _⟩ := roomOK_nat h
    exact ⟨lz p k, m, true, by rw [lz_len]; omega, fun w => stateOfRoom_impl_yes p k m c w h1 h12 h, fun w => stateOfRoom_spec_yes p k m c w h1 h12 h⟩
  | false =>
    refine ⟨[], 0, false, by simp, fun w => ?_, fun w => ?_⟩
    · refine (stateOfRoom_impl_no p n m c w h).mono ?_
      rintro e w' ⟨rfl, hb⟩
      exact ⟨none, 0, rfl, Res.none w' _ _ (Nat.le_refl _), hb⟩
    · refine (stateOfRoom_spec_no p n m c w h).mono ?_
      rintro e w' ⟨rfl, hb⟩
      exact ⟨none, 0, rfl, Res.none w' _ _ (Nat.le_refl _), hb⟩
end Go.Proofs.Ytpjoljaamakagaa
