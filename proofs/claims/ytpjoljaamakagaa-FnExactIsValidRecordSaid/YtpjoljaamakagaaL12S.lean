/- Rooms: copies and comparisons of the laws. -/
import Derived.Test.YtpjoljaamakagaaL12R
import Derived.Deep.CutRange
namespace Go.Proofs.Ytpjoljaamakagaa
open Go.RowKit Go.ChangeShapes Go.WideShapes
set_option linter.unusedVariables false
set_option linter.unusedSimpArgs false

theorem underRm : ∃ fs, Try.prog.underlying 26 = some (.struct fs) := ⟨_, Try.underlying26⟩

set_option maxRecDepth 100000 in
set_option maxHeartbeats 8000000 in
theorem toRoom_any (p : Nat → Int) (n m c : Int) (w : World) :
    Calls Try.prog 13 #[.agg (rmA p n m c)] w fun e w' => e = .returned (.agg (rmA p n m c)) ∧ Below w.heap.size w w' := by
  have HT1 := Lib.hid (((Rw.new w (rmA p n m c) 24 w.heap.size rfl).step ((Below.refl _ _).alloc (Nat.le_refl _) (.cells (rmA (fun _ => 0) 0 0 0) 26))).step ((Below.refl _ _).alloc (Nat.le_refl _) (.cells (rmA (fun _ => 0) 0 0 0) 26)))
  have HT2 := Lib.hid ((Rw.new (w.alloc (.cells (rmA p n m c) 24)) (rmA (fun _ => 0) 0 0 0) 26 (w.heap.size + 1) (by simp)).step ((Below.refl _ _).alloc (Nat.le_refl _) (.cells (rmA (fun _ => 0) 0 0 0) 26)))
  have HT3 := Lib.hid (Rw.new ((w.alloc (.cells (rmA p n m c) 24)).alloc (.cells (rmA (fun _ => 0) 0 0 0) 26)) (rmA (fun _ => 0) 0 0 0) 26 (w.heap.size + 2) (by simp))
  have HB := Lib.hid ((((Below.refl w.heap.size w).alloc (Nat.le_refl _) (.cells (rmA p n m c) 24)).alloc (by simp) (.cells (rmA (fun _ => 0) 0 0 0) 26)).alloc (by simp; omega) (.cells (rmA (fun _ => 0) 0 0 0) 26))
  have HC := Lib.hid (fun W => toIntA12_any p W)
  go_enter Try.func13, Try.ntmps13
  simp only [rmA] at HT1 HT2 HT3 HB ⊢
  go_upto_region 2 with fail
  generalize (((w.alloc (.cells #[.int .i64 (p 0), .int .i64 (p 1), .int .i64 (p 2), .int .i64 (p 3), .int .i64 (p 4), .int .i64 (p 5), .int .i64 (p 6), .int .i64 (p 7), .int .i64 (p 8), .int .i64 (p 9), .int .i64 (p 10), .int .i64 (p 11), .int .i64 n, .int .i64 m, .int .i64 c] 24)).alloc (.cells #[.int .i64 0, .int .i64 0, .int .i64 0, .int .i64 0, .int .i64 0, .int .i64 0, .int .i64 0, .int .i64 0, .int .i64 0, .int .i64 0, .int .i64 0, .int .i64 0, .int .i64 0, .int .i64 0, .int .i64 0] 26)).alloc (.cells #[.int .i64 0, .int .i64 0, .int .i64 0, .int .i64 0, .int .i64 0, .int .i64 0, .int .i64 0, .int .i64 0, .int .i64 0, .int .i64 0, .int .i64 0, .int .i64 0, .int .i64 0, .int .i64 0, .int .i64 0] 26)) = wa at HT1 HT2 HT3 HB ⊢
  have c0 := HT1.out.cell (i := 0) (v := .int .i64 (p 0)) rfl
  have c1 := HT1.out.cell (i := 1) (v := .int .i64 (p 1)) rfl
  have c2 := HT1.out.cell (i := 2) (v := .int .i64 (p 2)) rfl
  have c3 := HT1.out.cell (i := 3) (v := .int .i64 (p 3)) rfl
  have c4 := HT1.out.cell (i := 4) (v := .int .i64 (p 4)) rfl
  have c5 := HT1.out.cell (i := 5) (v := .int .i64 (p 5)) rfl
  have c6 := HT1.out.cell (i := 6) (v := .int .i64 (p 6)) rfl
  have c7 := HT1.out.cell (i := 7) (v := .int .i64 (p 7)) rfl
  have c8 := HT1.out.cell (i := 8) (v := .int .i64 (p 8)) rfl
  have c9 := HT1.out.cell (i := 9) (v := .int .i64 (p 9)) rfl
  have c10 := HT1.out.cell (i := 10) (v := .int .i64 (p 10)) rfl
  have c11 := HT1.out.cell (i := 11) (v := .int .i64 (p 11)) rfl
  have c12 := HT1.out.cell (i := 12) (v := .int .i64 n) rfl
  have c13 := HT1.out.cell (i := 13) (v := .int .i64 m) rfl
  have c14 := HT1.out.cell (i := 14) (v := .int .i64 c) rfl
  go_wp2_with fail
  refine (HC.out _).mono ?_
  rintro e w1 ⟨rfl, hb⟩
  simp only [iA]
  replace HT1 := Lib.hid (HT1.out.step hb)
  replace HT2 := Lib.hid (HT2.out.step hb)
  replace HT3 := Lib.hid (HT3.out.step hb)
  replace HB := Lib.hid (below_trans HB.out hb)
  clear hb HC c0 c1 c2 c3 c4 c5 c6 c7 c8 c9 c10 c11 c12 c13 c14
  have c0 := HT1.out.cell (i := 0) (v := .int .i64 (p 0)) rfl
  have c1 := HT1.out.cell (i := 1) (v := .int .i64 (p 1)) rfl
  have c2 := HT1.out.cell (i := 2) (v := .int .i64 (p 2)) rfl
  have c3 := HT1.out.cell (i := 3) (v := .int .i64 (p 3)) rfl
  have c4 := HT1.out.cell (i := 4) (v := .int .i64 (p 4)) rfl
  have c5 := HT1.out.cell (i := 5) (v := .int .i64 (p 5)) rfl
  have c6 := HT1.out.cell (i := 6) (v := .int .i64 (p 6)) rfl
  have c7 := HT1.out.cell (i := 7) (v := .int .i64 (p 7)) rfl
  have c8 := HT1.out.cell (i := 8) (v := .int .i64 (p 8)) rfl
  have c9 := HT1.out.cell (i := 9) (v := .int .i64 (p 9)) rfl
  have c10 := HT1.out.cell (i := 10) (v := .int .i64 (p 10)) rfl
  have c11 := HT1.out.cell (i := 11) (v := .int .i64 (p 11)) rfl
  have c12 := HT1.out.cell (i := 12) (v := .int .i64 n) rfl
  have c13 := HT1.out.cell (i := 13) (v := .int .i64 m) rfl
  have c14 := HT1.out.cell (i := 14) (v := .int .i64 c) rfl
  have d0 := HT3.out.cell (i := 0) (v := .int .i64 0) rfl
  have d1 := HT3.out.cell (i := 1) (v := .int .i64 0) rfl
  have d2 := HT3.out.cell (i := 2) (v := .int .i64 0) rfl
  have d3 := HT3.out.cell (i := 3) (v := .int .i64 0) rfl
  have d4 := HT3.out.cell (i := 4) (v := .int .i64 0) rfl
  have d5 := HT3.out.cell (i := 5) (v := .int .i64 0) rfl
  have d6 := HT3.out.cell (i := 6) (v := .int .i64 0) rfl
  have d7 := HT3.out.cell (i := 7) (v := .int .i64 0) rfl
  have d8 := HT3.out.cell (i := 8) (v := .int .i64 0) rfl
  have d9 := HT3.out.cell (i := 9) (v := .int .i64 0) rfl
  have d10 := HT3.out.cell (i := 10) (v := .int .i64 0) rfl
  have d11 := HT3.out.cell (i := 11) (v := .int .i64 0) rfl
  have d12 := HT3.out.cell (i := 12) (v := .int .i64 0) rfl
  have d13 := HT3.out.cell (i := 13) (v := .int .i64 0) rfl
  have d14 := HT3.out.cell (i := 14) (v := .int .i64 0) rfl
  have f0 := HT3.out.free 0
  have f1 := HT3.out.free 1
  have f2 := HT3.out.free 2
  have f3 := HT3.out.free 3
  have f4 := HT3.out.free 4
  have f5 := HT3.out.free 5
  have f6 := HT3.out.free 6
  have f7 := HT3.out.free 7
  have f8 := HT3.out.free 8
  have f9 := HT3.out.free 9
  have f10 := HT3.out.free 10
  have f11 := HT3.out.free 11
  have f12 := HT3.out.free 12
  have f13 := HT3.out.free 13
  have f14 := HT3.out.free 14
  obtain ⟨hs, hw⟩ := stored15 (q := fun _ => 0) (n0 := 0) (m0 := 0) (c0 := 0) HT3.out p n m c
  have HB2 := Lib.hid (HB.out.trans (hw.below (by omega) (by have := HT1.out.lt; omega)))
  have HT2' := Lib.hid (HT2.out.within hw (.inl (by omega)))
  clear hw HT1 HT2 HT3 HB
  go_upto_region 6 with fail
  generalize (((((((((((((((w1.setCell ⟨w.heap.size + 2, 0, none⟩ (.int .i64 (p 0))).setCell ⟨w.heap.size + 2, 1, none⟩ (.int .i64 (p 1))).setCell ⟨w.heap.size + 2, 2, none⟩ (.int .i64 (p 2))).setCell ⟨w.heap.size + 2, 3, none⟩ (.int .i64 (p 3))).setCell ⟨w.heap.size + 2, 4, none⟩ (.int .i64 (p 4))).setCell ⟨w.heap.size + 2, 5, none⟩ (.int .i64 (p 5))).setCell ⟨w.heap.size + 2, 6, none⟩ (.int .i64 (p 6))).setCell ⟨w.heap.size + 2, 7, none⟩ (.int .i64 (p 7))).setCell ⟨w.heap.size + 2, 8, none⟩ (.int .i64 (p 8))).setCell ⟨w.heap.size + 2, 9, none⟩ (.int .i64 (p 9))).setCell ⟨w.heap.size + 2, 10, none⟩ (.int .i64 (p 10))).setCell ⟨w.heap.size + 2, 11, none⟩ (.int .i64 (p 11))).setCell ⟨w.heap.size + 2, 12, none⟩ (.int .i64 n)).setCell ⟨w.heap.size + 2, 13, none⟩ (.int .i64 m)).setCell ⟨w.heap.size + 2, 14, none⟩ (.int .i64 c)) = w2 at hs HB2 HT2' ⊢
  clear c0 c1 c2 c3 c4 c5 c6 c7 c8 c9 c10 c11 c12 c13 c14 d0 d1 d2 d3 d4 d5 d6 d7 d8 d9 d10 d11 d12 d13 d14 f0 f1 f2 f3 f4 f5 f6 f7 f8 f9 f10 f11 f12 f13 f14
  have HS := Lib.hid hs
  clear hs
  have c0 := HS.out.cell (i := 0) (v := .int .i64 (p 0)) rfl
  have c1 := HS.out.cell (i := 1) (v := .int .i64 (p 1)) rfl
  have c2 := HS.out.cell (i := 2) (v := .int .i64 (p 2)) rfl
  have c3 := HS.out.cell (i := 3) (v := .int .i64 (p 3)) rfl
  have c4 := HS.out.cell (i := 4) (v := .int .i64 (p 4)) rfl
  have c5 := HS.out.cell (i := 5) (v := .int .i64 (p 5)) rfl
  have c6 := HS.out.cell (i := 6) (v := .int .i64 (p 6)) rfl
  have c7 := HS.out.cell (i := 7) (v := .int .i64 (p 7)) rfl
  have c8 := HS.out.cell (i := 8) (v := .int .i64 (p 8)) rfl
  have c9 := HS.out.cell (i := 9) (v := .int .i64 (p 9)) rfl
  have c10 := HS.out.cell (i := 10) (v := .int .i64 (p 10)) rfl
  have c11 := HS.out.cell (i := 11) (v := .int .i64 (p 11)) rfl
  have c12 := HS.out.cell (i := 12) (v := .int .i64 n) rfl
  have c13 := HS.out.cell (i := 13) (v := .int .i64 m) rfl
  have c14 := HS.out.cell (i := 14) (v := .int .i64 c) rfl
  have d0 := HT2'.out.cell (i := 0) (v := .int .i64 0) rfl
  have d1 := HT2'.out.cell (i := 1) (v := .int .i64 0) rfl
  have d2 := HT2'.out.cell (i := 2) (v := .int .i64 0) rfl
  have d3 := HT2'.out.cell (i := 3) (v := .int .i64 0) rfl
  have d4 := HT2'.out.cell (i := 4) (v := .int .i64 0) rfl
  have d5 := HT2'.out.cell (i := 5) (v := .int .i64 0) rfl
  have d6 := HT2'.out.cell (i := 6) (v := .int .i64 0) rfl
  have d7 := HT2'.out.cell (i := 7) (v := .int .i64 0) rfl
  have d8 := HT2'.out.cell (i := 8) (v := .int .i64 0) rfl
  have d9 := HT2'.out.cell (i := 9) (v := .int .i64 0) rfl
  have d10 := HT2'.out.cell (i := 10) (v := .int .i64 0) rfl
  have d11 := HT2'.out.cell (i := 11) (v := .int .i64 0) rfl
  have d12 := HT2'.out.cell (i := 12) (v := .int .i64 0) rfl
  have d13 := HT2'.out.cell (i := 13) (v := .int .i64 0) rfl
  have d14 := HT2'.out.cell (i := 14) (v := .int .i64 0) rfl
  have f0 := HT2'.out.free 0
  have f1 := HT2'.out.free 1
  have f2 := HT2'.out.free 2
  have f3 := HT2'.out.free 3
  have f4 := HT2'.out.free 4
  have f5 := HT2'.out.free 5
  have f6 := HT2'.out.free 6
  have f7 := HT2'.out.free 7
  have f8 := HT2'.out.free 8
  have f9 := HT2'.out.free 9
  have f10 := HT2'.out.free 10
  have f11 := HT2'.out.free 11
  have f12 := HT2'.out.free 12
  have f13 := HT2'.out.free 13
  have f14 := HT2'.out.free 14
  obtain ⟨hs, hw⟩ := stored15 (q := fun _ => 0) (n0 := 0) (m0 := 0) (c0 := 0) HT2'.out p n m c
  have HB3 := Lib.hid (HB2.out.trans (hw.below (by omega) (by have := HS.out.lt; omega)))
  clear hw HT2' HS HB2
  go_wp2
  generalize (((((((((((((((w2.setCell ⟨w.heap.size + 1, 0, none⟩ (.int .i64 (p 0))).setCell ⟨w.heap.size + 1, 1, none⟩ (.int .i64 (p 1))).setCell ⟨w.heap.size + 1, 2, none⟩ (.int .i64 (p 2))).setCell ⟨w.heap.size + 1, 3, none⟩ (.int .i64 (p 3))).setCell ⟨w.heap.size + 1, 4, none⟩ (.int .i64 (p 4))).setCell ⟨w.heap.size + 1, 5, none⟩ (.int .i64 (p 5))).setCell ⟨w.heap.size + 1, 6, none⟩ (.int .i64 (p 6))).setCell ⟨w.heap.size + 1, 7, none⟩ (.int .i64 (p 7))).setCell ⟨w.heap.size + 1, 8, none⟩ (.int .i64 (p 8))).setCell ⟨w.heap.size + 1, 9, none⟩ (.int .i64 (p 9))).setCell ⟨w.heap.size + 1, 10, none⟩ (.int .i64 (p 10))).setCell ⟨w.heap.size + 1, 11, none⟩ (.int .i64 (p 11))).setCell ⟨w.heap.size + 1, 12, none⟩ (.int .i64 n)).setCell ⟨w.heap.size + 1, 13, none⟩ (.int .i64 m)).setCell ⟨w.heap.size + 1, 14, none⟩ (.int .i64 c)) = wf at hs HB3 ⊢
  refine bodyPost_ret (v := .agg (rmA p n m c)) (results_cell_row rfl _ _ (w.heap.size + 1) _ _ _ _ rfl hs.row Try.underlying26 rfl infoRm) rfl ?_
  exact ⟨rfl, HB3.out⟩

set_option maxRecDepth 100000 in
set_option maxHeartbeats 4000000 in
theorem eqIntA12_any (p : Nat → Int) (w : World) :
    Calls Try.prog 72 #[.agg (iA p), .agg (iA p)] w fun e w' => e = .returned (.bool true) ∧ Below w.heap.size w w' := by
  have HT1 := Lib.hid ((Rw.new w (iA p) 22 w.heap.size rfl).step ((Below.refl _ _).alloc (Nat.le_refl _) (.cells (iA p) 22)))
  have HT2 := Lib.hid (Rw.new (w.alloc (.cells (iA p) 22)) (iA p) 22 (w.heap.size + 1) (by simp))
  have HB := Lib.hid (((Below.refl w.heap.size w).alloc (Nat.le_refl _) (.cells (iA p) 22)).alloc (by simp) (.cells (iA p) 22))
  go_enter Try.func72, Try.ntmps72
  simp only [iA] at HT1 HT2 HB ⊢
  go_wp2_with fail
  generalize (w.alloc (.cells #[.int .i64 (p 0), .int .i64 (p 1), .int .i64 (p 2), .int .i64 (p 3), .int .i64 (p 4), .int .i64 (p 5), .int .i64 (p 6), .int .i64 (p 7), .int .i64 (p 8), .int .i64 (p 9), .int .i64 (p 10), .int .i64 (p 11)] 22)).alloc (.cells #[.int .i64 (p 0), .int .i64 (p 1), .int .i64 (p 2), .int .i64 (p 3), .int .i64 (p 4), .int .i64 (p 5), .int .i64 (p 6), .int .i64 (p 7), .int .i64 (p 8), .int .i64 (p 9), .int .i64 (p 10), .int .i64 (p 11)] 22) = wa at HT1 HT2 HB ⊢
  go_loopw [5] (fun i wr => ∃ (k q : Nat), k ≤ 12 ∧ i = .int .i64 (k : Int) ∧ wr = wa.drewN q) (fun i _ => 12 - (intOf i).toNat)
  case atStart => exact ⟨0, 0, by omega, rfl, rfl⟩
  case round =>
    obtain ⟨k, q, hk, rfl, rfl⟩ := hrel
    by_cases hlt : k < 12
    · have hc : wa.cell? ⟨w.heap.size, k, none⟩ = _ := HT1.out.cell (iA_at p hlt)
      have hd : wa.cell? ⟨w.heap.size + 1, k, none⟩ = _ := HT2.out.cell (iA_at p hlt)
      have hki : (k : Int) < 12 := by omega
      go_wp2
      go_quiet (fail)
      go_wp2
      go_roundw
      case rel => exact ⟨k + 1, _, by omega, by go_num, rfl⟩
      case measure => simp [intOf]; omega
    · obtain rfl : k = 12 := by omega
      go_wp2
      go_ret
      exact ⟨rfl, below_drewN HB.out _⟩

set_option maxRecDepth 100000 in
set_option maxHeartbeats 8000000 in
theorem eqRoom_same (p : Nat → Int) (n m c : Int) (w : World) :
    Calls Try.prog 19 #[.agg (rmA p n m c), .agg (rmA p n m c)] w fun e w' => e = .returned (.bool true) ∧ Below w.heap.size w w' := by
  have HT1 := Lib.hid ((Rw.new w (rmA p n m c) 26 w.heap.size rfl).step ((Below.refl _ _).alloc (Nat.le_refl _) (.cells (rmA p n m c) 26)))
  have HT2 := Lib.hid (Rw.new (w.alloc (.cells (rmA p n m c) 26)) (rmA p n m c) 26 (w.heap.size + 1) (by simp))
  have HB := Lib.hid (((Below.refl w.heap.size w).alloc (Nat.le_refl _) (.cells (rmA p n m c) 26)).alloc (by simp) (.cells (rmA p n m c) 26))
  have HC := Lib.hid (fun W => eqIntA12_any p W)
  go_enter Try.func19, Try.ntmps19
  simp only [rmA] at HT1 HT2 HB ⊢
  go_upto_region 1 with fail
  generalize ((w.alloc (.cells #[.int .i64 (p 0), .int .i64 (p 1), .int .i64 (p 2), .int .i64 (p 3), .int .i64 (p 4), .int .i64 (p 5), .int .i64 (p 6), .int .i64 (p 7), .int .i64 (p 8), .int .i64 (p 9), .int .i64 (p 10), .int .i64 (p 11), .int .i64 n, .int .i64 m, .int .i64 c] 26)).alloc (.cells #[.int .i64 (p 0), .int .i64 (p 1), .int .i64 (p 2), .int .i64 (p 3), .int .i64 (p 4), .int .i64 (p 5), .int .i64 (p 6), .int .i64 (p 7), .int .i64 (p 8), .int .i64 (p 9), .int .i64 (p 10), .int .i64 (p 11), .int .i64 n, .int .i64 m, .int .i64 c] 26)) = wa at HT1 HT2 HB ⊢
  have c0 := HT1.out.cell (i := 0) (v := .int .i64 (p 0)) rfl
  have c1 := HT1.out.cell (i := 1) (v := .int .i64 (p 1)) rfl
  have c2 := HT1.out.cell (i := 2) (v := .int .i64 (p 2)) rfl
  have c3 := HT1.out.cell (i := 3) (v := .int .i64 (p 3)) rfl
  have c4 := HT1.out.cell (i := 4) (v := .int .i64 (p 4)) rfl
  have c5 := HT1.out.cell (i := 5) (v := .int .i64 (p 5)) rfl
  have c6 := HT1.out.cell (i := 6) (v := .int .i64 (p 6)) rfl
  have c7 := HT1.out.cell (i := 7) (v := .int .i64 (p 7)) rfl
  have c8 := HT1.out.cell (i := 8) (v := .int .i64 (p 8)) rfl
  have c9 := HT1.out.cell (i := 9) (v := .int .i64 (p 9)) rfl
  have c10 := HT1.out.cell (i := 10) (v := .int .i64 (p 10)) rfl
  have c11 := HT1.out.cell (i := 11) (v := .int .i64 (p 11)) rfl
  have c12 := HT1.out.cell (i := 12) (v := .int .i64 n) rfl
  have c13 := HT1.out.cell (i := 13) (v := .int .i64 m) rfl
  have c14 := HT1.out.cell (i := 14) (v := .int .i64 c) rfl
  have d0 := HT2.out.cell (i := 0) (v := .int .i64 (p 0)) rfl
  have d1 := HT2.out.cell (i := 1) (v := .int .i64 (p 1)) rfl
  have d2 := HT2.out.cell (i := 2) (v := .int .i64 (p 2)) rfl
  have d3 := HT2.out.cell (i := 3) (v := .int .i64 (p 3)) rfl
  have d4 := HT2.out.cell (i := 4) (v := .int .i64 (p 4)) rfl
  have d5 := HT2.out.cell (i := 5) (v := .int .i64 (p 5)) rfl
  have d6 := HT2.out.cell (i := 6) (v := .int .i64 (p 6)) rfl
  have d7 := HT2.out.cell (i := 7) (v := .int .i64 (p 7)) rfl
  have d8 := HT2.out.cell (i := 8) (v := .int .i64 (p 8)) rfl
  have d9 := HT2.out.cell (i := 9) (v := .int .i64 (p 9)) rfl
  have d10 := HT2.out.cell (i := 10) (v := .int .i64 (p 10)) rfl
  have d11 := HT2.out.cell (i := 11) (v := .int .i64 (p 11)) rfl
  have d12 := HT2.out.cell (i := 12) (v := .int .i64 n) rfl
  have d13 := HT2.out.cell (i := 13) (v := .int .i64 m) rfl
  have d14 := HT2.out.cell (i := 14) (v := .int .i64 c) rfl
  go_wp2_with fail
  refine (HC.out _).mono ?_
  rintro e w1 ⟨rfl, hb⟩
  replace HT1 := Lib.hid (HT1.out.step hb)
  replace HT2 := Lib.hid (HT2.out.step hb)
  replace HB := Lib.hid (below_trans HB.out hb)
  clear hb HC c0 c1 c2 c3 c4 c5 c6 c7 c8 c9 c10 c11 c12 c13 c14 d0 d1 d2 d3 d4 d5 d6 d7 d8 d9 d10 d11 d12 d13 d14
  have c12 := HT1.out.cell (i := 12) (v := .int .i64 n) rfl
  have c13 := HT1.out.cell (i := 13) (v := .int .i64 m) rfl
  have c14 := HT1.out.cell (i := 14) (v := .int .i64 c) rfl
  have d12 := HT2.out.cell (i := 12) (v := .int .i64 n) rfl
  have d13 := HT2.out.cell (i := 13) (v := .int .i64 m) rfl
  have d14 := HT2.out.cell (i := 14) (v := .int .i64 c) rfl
  go_wp2
  go_ret
  exact ⟨rfl, HB.out⟩
end Go.Proofs.Ytpjoljaamakagaa
