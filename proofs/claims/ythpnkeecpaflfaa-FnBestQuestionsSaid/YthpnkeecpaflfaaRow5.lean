/- Rows of three: no, leading back, the next split. -/
import Derived.Test.YthpnkeecpaflfaaRow4
namespace Go.Proofs.Ythpnkeecpaflfaa
open Go.RowKit Go.ChangeShapes Go.WideShapes
set_option linter.unusedVariables false

/-- A row as a value, written out. -/
theorem yesRow_any (r s : Row) (w : World) (h8 : rsum r ≤ 8) (hs : Fits s r) :
    Calls Try.prog 73 #[.agg #[.int .i64 (r.1 : Int), .int .i64 (r.2.1 : Int), .int .i64 (r.2.2 : Int)], .agg #[.int .i64 (s.1 : Int), .int .i64 (s.2.1 : Int), .int .i64 (s.2.2 : Int)]] w fun e w' =>
      e = .returned (.agg #[.int .i64 ((yesR r s).1 : Int), .int .i64 ((yesR r s).2.1 : Int), .int .i64 ((yesR r s).2.2 : Int)]) ∧ Below w.heap.size w w' := by
  unfold rsum at h8
  unfold Fits at hs
  refine (yesRow_int r.1 r.2.1 r.2.2 s.1 s.2.1 s.2.2 w (by omega) (by omega) (by omega) (by omega) (by omega) (by omega)).mono ?_
  rintro e w' ⟨rfl, hb⟩
  refine ⟨?_, hb⟩
  have e1 : ((yesR r s).2.1 : Int) = (s.2.1 : Int) + ((r.1 : Int) - (s.1 : Int)) := by simp only [yesR]; omega
  have e2 : ((yesR r s).2.2 : Int) = (s.2.2 : Int) + ((r.2.1 : Int) - (s.2.1 : Int)) := by simp only [yesR]; omega
  rw [e1, e2]
  rfl
theorem leavesOf_any (r s : Row) (w : World) (h8 : rsum r ≤ 8) (hs : Fits s r) :
    Calls Try.prog 81 #[.agg #[.int .i64 (r.1 : Int), .int .i64 (r.2.1 : Int), .int .i64 (r.2.2 : Int)], .agg #[.int .i64 (s.1 : Int), .int .i64 (s.2.1 : Int), .int .i64 (s.2.2 : Int)]] w fun e w' =>
      e = .returned (.agg #[.int .i64 ((leftR r s).1 : Int), .int .i64 ((leftR r s).2.1 : Int), .int .i64 ((leftR r s).2.2 : Int)]) ∧ Below w.heap.size w w' := by
  unfold rsum at h8
  unfold Fits at hs
  refine (leavesOf_int r.1 r.2.1 r.2.2 s.1 s.2.1 s.2.2 w (by omega) (by omega) (by omega) (by omega) (by omega) (by omega)).mono ?_
  rintro e w' ⟨rfl, hb⟩
  refine ⟨?_, hb⟩
  have e0 : ((leftR r s).1 : Int) = (r.1 : Int) - (s.1 : Int) := by simp only [leftR]; omega
  have e1 : ((leftR r s).2.1 : Int) = (r.2.1 : Int) - (s.2.1 : Int) := by simp only [leftR]; omega
  have e2 : ((leftR r s).2.2 : Int) = (r.2.2 : Int) - (s.2.2 : Int) := by simp only [leftR]; omega
  rw [e0, e1, e2]

set_option maxRecDepth 100000 in
set_option maxHeartbeats 4000000 in
theorem noRow_any (r s : Row) (w : World) (h8 : rsum r ≤ 8) (hs : Fits s r) :
    Calls Try.prog 74 #[.agg #[.int .i64 (r.1 : Int), .int .i64 (r.2.1 : Int), .int .i64 (r.2.2 : Int)], .agg #[.int .i64 (s.1 : Int), .int .i64 (s.2.1 : Int), .int .i64 (s.2.2 : Int)]] w fun e w' =>
      e = .returned (.agg #[.int .i64 ((noR r s).1 : Int), .int .i64 ((noR r s).2.1 : Int), .int .i64 ((noR r s).2.2 : Int)]) ∧ Below w.heap.size w w' := by
  have HL := Lib.hid (Laid3.new w (.int .i64 (r.1 : Int)) (.int .i64 (r.2.1 : Int)) (.int .i64 (r.2.2 : Int)) (.int .i64 (s.1 : Int)) (.int .i64 (s.2.1 : Int)) (.int .i64 (s.2.2 : Int)))
  have HC := Lib.hid (fun W => leavesOf_any r s W h8 hs)
  have HY := Lib.hid (fun W => yesRow_any r (leftR r s) W h8 left_fits)
  rw [show yesR r (leftR r s) = noR r s from rfl] at HY
  clear h8 hs
  generalize (r.1 : Int) = a at HL HC HY ⊢
  generalize (r.2.1 : Int) = b at HL HC HY ⊢
  generalize (r.2.2 : Int) = c at HL HC HY ⊢
  generalize (s.1 : Int) = x at HL HC ⊢
  generalize (s.2.1 : Int) = y at HL HC ⊢
  generalize (s.2.2 : Int) = z at HL HC ⊢
  generalize ((noR r s).1 : Int) = n0 at HY ⊢
  generalize ((noR r s).2.1 : Int) = n1 at HY ⊢
  generalize ((noR r s).2.2 : Int) = n2 at HY ⊢
  generalize ((leftR r s).1 : Int) = l0 at HC HY ⊢
  generalize ((leftR r s).2.1 : Int) = l1 at HC HY ⊢
  generalize ((leftR r s).2.2 : Int) = l2 at HC HY ⊢
  go_enter Try.func74, Try.ntmps74
  go_wp2_with fail
  generalize ((w.alloc (.cells #[.int .i64 a, .int .i64 b, .int .i64 c] 70)).alloc (.cells #[.int .i64 x, .int .i64 y, .int .i64 z] 70)).alloc (.cells #[.int .i64 0, .int .i64 0, .int .i64 0] 70) = wa at HL ⊢
  go_region_held3 (fun w' => w'.cell? ⟨w.heap.size, 0, none⟩ = some (.int .i64 a) ∧ w'.cell? ⟨w.heap.size, 1, none⟩ = some (.int .i64 b) ∧ w'.cell? ⟨w.heap.size, 2, none⟩ = some (.int .i64 c) ∧ w'.cell? ⟨w.heap.size + 1, 0, none⟩ = some (.int .i64 x) ∧ w'.cell? ⟨w.heap.size + 1, 1, none⟩ = some (.int .i64 y) ∧ w'.cell? ⟨w.heap.size + 1, 2, none⟩ = some (.int .i64 z))
    (first
     | exact HL.out.drew.S
     | exact HL1.out.S
     | exact HL2.out.S
     | exact ⟨HL3.out.c0, HL3.out.c1, HL3.out.c2, HL4.out.c0, HL4.out.c1, HL4.out.c2⟩)
    (first
     | (go_at_call 73; refine (HY.out w1).mono ?_; rintro e w2 ⟨rfl, hb2⟩; have HL2 := Lib.hid (HL1.out.step hb2); clear hb2; have c0 := HL2.out.t3.c0; have c1 := HL2.out.t3.c1; have c2 := HL2.out.t3.c2; have f0 := HL2.out.t3.f 0; have f1 := HL2.out.t3.f 1; have f2 := HL2.out.t3.f 2; have HL3 := Lib.hid (HL2.out.t1.far3 (g := w.heap.size + 1 + 1) (by omega) (.int .i64 n0) (.int .i64 n1) (.int .i64 n2)); have HL4 := Lib.hid (HL2.out.t2.far3 (g := w.heap.size + 1 + 1) (by omega) (.int .i64 n0) (.int .i64 n1) (.int .i64 n2)))
     | (go_at_call 81; refine (HC.out wa.drew).mono ?_; rintro e w1 ⟨rfl, hb1⟩; have HL1 := Lib.hid (HL.out.drew.step hb1); clear hb1))
  all_goals
    go_wp2
    have HR := HL2.out.t3.set (.int .i64 n0) (.int .i64 n1) (.int .i64 n2)
    have HBf := below_set3 HL2.out.bel (Nat.le_trans (Nat.le_succ _) (Nat.le_succ _) : w.heap.size ≤ w.heap.size + 1 + 1) (.int .i64 n0) (.int .i64 n1) (.int .i64 n2)
    generalize (((w2.setCell ⟨w.heap.size + 1 + 1, 0, none⟩ (.int .i64 n0)).setCell ⟨w.heap.size + 1 + 1, 1, none⟩ (.int .i64 n1)).setCell ⟨w.heap.size + 1 + 1, 2, none⟩ (.int .i64 n2)) = wf at HR HBf ⊢
    have e0 := HR.c0
    have e1 := HR.c1
    have e2 := HR.c2
    refine bodyPost_ret (v := .agg #[.int .i64 n0, .int .i64 n1, .int .i64 n2]) (by simp [results, go_sem, e0, e1, e2]) rfl ?_
    exact ⟨rfl, HBf⟩

theorem back_dec (r s : Row) : backR r s = (decide (yesR r s = r) || decide (noR r s = r)) := by
  unfold backR
  rw [Bool.eq_iff_iff]
  simp
theorem row_dec (p r : Row) : (decide (((p.1 : Nat) : Int) = (r.1 : Int)) && (decide (((p.2.1 : Nat) : Int) = (r.2.1 : Int)) && decide (((p.2.2 : Nat) : Int) = (r.2.2 : Int)))) = decide (p = r) := by
  rw [Bool.eq_iff_iff]
  simp only [Bool.and_eq_true, decide_eq_true_eq]
  obtain ⟨a, b, c⟩ := p
  obtain ⟨x, y, z⟩ := r
  simp only [Prod.mk.injEq]
  omega
set_option maxRecDepth 100000 in
set_option maxHeartbeats 4000000 in
theorem leadsBack_any (r s : Row) (w : World) (h8 : rsum r ≤ 8) (hs : Fits s r) :
    Calls Try.prog 55 #[.agg #[.int .i64 (r.1 : Int), .int .i64 (r.2.1 : Int), .int .i64 (r.2.2 : Int)], .agg #[.int .i64 (s.1 : Int), .int .i64 (s.2.1 : Int), .int .i64 (s.2.2 : Int)]] w fun e w' =>
      e = .returned (.bool (backR r s)) ∧ Below w.heap.size w w' := by
  have B1 := (Below.refl w.heap.size w).alloc (Nat.le_refl _) (.cells #[.int .i64 (r.1 : Int), .int .i64 (r.2.1 : Int), .int .i64 (r.2.2 : Int)] 70)
  have T1 := Three.new w (.int .i64 (r.1 : Int)) (.int .i64 (r.2.1 : Int)) (.int .i64 (r.2.2 : Int)) w.heap.size rfl
  have HB := Lib.hid (B1.alloc B1.size (.cells #[.int .i64 (s.1 : Int), .int .i64 (s.2.1 : Int), .int .i64 (s.2.2 : Int)] 70))
  have HT2 := Lib.hid (Three.new (w.alloc (.cells #[.int .i64 (r.1 : Int), .int .i64 (r.2.1 : Int), .int .i64 (r.2.2 : Int)] 70)) (.int .i64 (s.1 : Int)) (.int .i64 (s.2.1 : Int)) (.int .i64 (s.2.2 : Int)) (w.heap.size + 1) (by simp))
  have HT1 := Lib.hid (T1.step ((Below.refl _ (w.alloc (.cells #[.int .i64 (r.1 : Int), .int .i64 (r.2.1 : Int), .int .i64 (r.2.2 : Int)] 70))).alloc (Nat.le_refl _) (.cells #[.int .i64 (s.1 : Int), .int .i64 (s.2.1 : Int), .int .i64 (s.2.2 : Int)] 70)))
  have HY := Lib.hid (fun W => yesRow_any r s W h8 hs)
  have HN := Lib.hid (fun W => noRow_any r s W h8 hs)
  have hey := fun W => eq_row ((yesR r s).1 : Int) ((yesR r s).2.1 : Int) ((yesR r s).2.2 : Int) (r.1 : Int) (r.2.1 : Int) (r.2.2 : Int) W
  have hen := fun W => eq_row ((noR r s).1 : Int) ((noR r s).2.1 : Int) ((noR r s).2.2 : Int) (r.1 : Int) (r.2.1 : Int) (r.2.2 : Int) W
  simp only [row_dec] at hey hen
  rw [back_dec]
  generalize decide (yesR r s = r) = q1 at hey ⊢
  generalize decide (noR r s = r) = q2 at hen ⊢
  clear B1 T1 h8 hs
  generalize (r.1 : Int) = a at *
  generalize (r.2.1 : Int) = b at *
  generalize (r.2.2 : Int) = c at *
  generalize (s.1 : Int) = x at *
  generalize (s.2.1 : Int) = y at *
  generalize (s.2.2 : Int) = z at *
  generalize ((noR r s).1 : Int) = n0 at *
  generalize ((noR r s).2.1 : Int) = n1 at *
  generalize ((noR r s).2.2 : Int) = n2 at *
  generalize ((yesR r s).1 : Int) = l0 at *
  generalize ((yesR r s).2.1 : Int) = l1 at *
  generalize ((yesR r s).2.2 : Int) = l2 at *
  cases q1
  · go_enter Try.func55, Try.ntmps55
    go_wp2_with fail
    generalize (w.alloc (.cells #[.int .i64 a, .int .i64 b, .int .i64 c] 70)).alloc (.cells #[.int .i64 x, .int .i64 y, .int .i64 z] 70) = wa at HT1 HT2 HB ⊢
    go_region_held3 (fun w' => w'.cell? ⟨w.heap.size, 0, none⟩ = some (.int .i64 a) ∧ w'.cell? ⟨w.heap.size, 1, none⟩ = some (.int .i64 b) ∧ w'.cell? ⟨w.heap.size, 2, none⟩ = some (.int .i64 c) ∧ w'.cell? ⟨w.heap.size + 1, 0, none⟩ = some (.int .i64 x) ∧ w'.cell? ⟨w.heap.size + 1, 1, none⟩ = some (.int .i64 y) ∧ w'.cell? ⟨w.heap.size + 1, 2, none⟩ = some (.int .i64 z))
      (first
       | exact ⟨HT1.out.drew.c0, HT1.out.drew.c1, HT1.out.drew.c2, HT2.out.drew.c0, HT2.out.drew.c1, HT2.out.drew.c2⟩
       | exact ⟨HU1.out.c0, HU1.out.c1, HU1.out.c2, HU2.out.c0, HU2.out.c1, HU2.out.c2⟩
       | exact ⟨HV1.out.c0, HV1.out.c1, HV1.out.c2, HV2.out.c0, HV2.out.c1, HV2.out.c2⟩)
      (first
       | (go_at_call 74; refine (HN.out w1).mono ?_; rintro e w2 ⟨rfl, hb2⟩; have HV1 := Lib.hid (HU1.out.step hb2); have HV2 := Lib.hid (HU2.out.step hb2); have HC2 := Lib.hid (below_trans HC1.out hb2); clear hb2)
       | (go_at_call 73; refine (HY.out wa.drew).mono ?_; rintro e w1 ⟨rfl, hb1⟩; have HU1 := Lib.hid (HT1.out.drew.step hb1); have HU2 := Lib.hid (HT2.out.drew.step hb1); have HC1 := Lib.hid (below_trans (below_drew HB.out) hb1); clear hb1))
    all_goals
      go_wp2
      go_ret
      exact ⟨by first | rfl | simp, HC2.out⟩
  · have p0 := HT1.out.c0
    have p1 := HT1.out.c1
    have p2 := HT1.out.c2
    have p3 := HT2.out.c0
    have p4 := HT2.out.c1
    have p5 := HT2.out.c2
    go_enter Try.func55, Try.ntmps55
    go_wp2_with fail
    generalize (w.alloc (.cells #[.int .i64 a, .int .i64 b, .int .i64 c] 70)).alloc (.cells #[.int .i64 x, .int .i64 y, .int .i64 z] 70) = wa at HT1 HT2 HB p0 p1 p2 p3 p4 p5 ⊢
    go_region_with ((go_at_call 73; refine (HY.out wa.drew).mono ?_; rintro e w1 ⟨rfl, hb1⟩; have HU1 := Lib.hid (HT1.out.drew.step hb1); have HC1 := Lib.hid (below_trans (below_drew HB.out) hb1); have u0 := HU1.out.c0; have u1 := HU1.out.c1; have u2 := HU1.out.c2; clear hb1))
    all_goals
      go_wp2
      go_ret
      exact ⟨rfl, HC1.out⟩
end Go.Proofs.Ythpnkeecpaflfaa
