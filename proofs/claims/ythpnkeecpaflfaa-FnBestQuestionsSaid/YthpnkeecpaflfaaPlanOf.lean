/- planOf: by the mass of the counts. -/
import Derived.Test.YthpnkeecpaflfaaSn1
import Derived.Deep.LoopGhost
namespace Go.Proofs.Ythpnkeecpaflfaa
open Go.RowKit Go.ChangeShapes Go.WideShapes Go.Maps
set_option linter.unusedVariables false

theorem planF_bd {r : Row} (h8 : rsum r ≤ 8) {i : Nat} (hi : i ≤ cntR r) : (planF r i).need ≤ 20 ∧ (planF r i).many ≤ 100 := by
  have : allR (fun r => (List.range (cntR r + 1)).all fun i => decide ((planF r i).need ≤ 20) && decide ((planF r i).many ≤ 100)) = true := by decide +kernel
  have := allR_at this h8
  simp only [List.all_eq_true, List.mem_range, Bool.and_eq_true, decide_eq_true_eq] at this
  exact this i (by omega)
theorem cnt_bd {r : Row} (h8 : rsum r ≤ 8) : cntR r ≤ 100 ∧ 0 < cntR r := by
  have : allR (fun r => decide (cntR r ≤ 100) && decide (0 < cntR r)) = true := by decide +kernel
  have := allR_at this h8
  simp only [Bool.and_eq_true, decide_eq_true_eq] at this
  exact this
/-- The split at hand: none behind the last. -/
def atR (r : Row) (i : Nat) : Row := if i < cntR r then splitR r i else (0, 0, 0)
theorem atR_zero {r : Row} : atR r 0 = (0, 0, 0) := by
  unfold atR
  split
  · simp [splitR]
  · rfl
/-- What the walk of the splits stands on. -/
structure LW (w0 : World) (M b7 b8 : Nat) (r s : Row) (p : Plan) (W : World) : Prop where
  pm : PlanM W M
  t3 : Three W w0.heap.size (.int .i64 (r.1 : Int)) (.int .i64 (r.2.1 : Int)) (.int .i64 (r.2.2 : Int))
  t4 : Five W (w0.heap.size + 1) (.int .i64 0) (.int .i64 0) (.int .i64 0) (.int .i64 0) (.int .i64 0)
  t7 : Five W b7 (.int .i64 (p.need : Int)) (.int .i64 (p.first.1 : Int)) (.int .i64 (p.first.2.1 : Int)) (.int .i64 (p.first.2.2 : Int)) (.int .i64 (p.many : Int))
  t8 : Three W b8 (.int .i64 (s.1 : Int)) (.int .i64 (s.2.1 : Int)) (.int .i64 (s.2.2 : Int))
  wi : Within M (M + 1) w0 W
theorem LW.step {w0 W W' : World} {M b7 b8 : Nat} {r s : Row} {p : Plan} (h : LW w0 M b7 b8 r s p W) (hM : M < w0.heap.size) (h7 : w0.heap.size + 1 < b7) (h8 : w0.heap.size + 1 < b8) (hw : Within M (M + 1) W W') (pm : PlanM W' M) : LW w0 M b7 b8 r s p W' :=
  ⟨pm, h.t3.within hw (.inr (by omega)), h.t4.within hw (.inr (by omega)), h.t7.within hw (.inr (by omega)), h.t8.within hw (.inr (by omega)), h.wi.trans hw⟩
theorem LW.below {w0 W W' : World} {M b7 b8 : Nat} {r s : Row} {p : Plan} (h : LW w0 M b7 b8 r s p W) (hM : M < w0.heap.size) (h7 : w0.heap.size + 1 < b7) (h8 : w0.heap.size + 1 < b8) (hb : Below W.heap.size W W') : LW w0 M b7 b8 r s p W' :=
  h.step hM h7 h8 (Within.of_below hb) (h.pm.step hb)
theorem Three.far5 {w : World} {b g : Nat} {x y z : Value} (h : Three w b x y z) (hne : b ≠ g) (y0 y1 y2 y3 y4 : Value) : Three (set5 w g y0 y1 y2 y3 y4) b x y z := ⟨(block_set5 hne _ _ _ _ _).trans h.row⟩
theorem LW.set7 {w0 W : World} {M b7 b8 : Nat} {r s : Row} {p : Plan} (h : LW w0 M b7 b8 r s p W) (hM : M < w0.heap.size) (h7 : w0.heap.size + 1 < b7) (h78 : b8 ≠ b7) (q : Plan) : LW w0 M b7 b8 r s q (set5 W b7 (.int .i64 (q.need : Int)) (.int .i64 (q.first.1 : Int)) (.int .i64 (q.first.2.1 : Int)) (.int .i64 (q.first.2.2 : Int)) (.int .i64 (q.many : Int))) :=
  ⟨h.pm.heap (block_set5 (by omega) _ _ _ _ _), h.t3.far5 (by omega) _ _ _ _ _, h.t4.far5 (by omega) _ _ _ _ _, h.t7.set _ _ _ _ _, h.t8.far5 h78 _ _ _ _ _, within_far5 h.wi (by omega) _ _ _ _ _⟩
theorem LW.new8 {w0 W : World} {M b7 b8 : Nat} {r s : Row} {p : Plan} (h : LW w0 M b7 b8 r s p W) (t : Row) : LW w0 M b7 W.heap.size r t p (W.alloc (.cells #[.int .i64 (t.1 : Int), .int .i64 (t.2.1 : Int), .int .i64 (t.2.2 : Int)] 70)) := by
  have hA := (Below.refl _ W).alloc (Nat.le_refl _) (.cells #[.int .i64 (t.1 : Int), .int .i64 (t.2.1 : Int), .int .i64 (t.2.2 : Int)] 70)
  exact ⟨h.pm.step hA, h.t3.step hA, h.t4.step hA, h.t7.step hA, Three.new W (.int .i64 (t.1 : Int)) (.int .i64 (t.2.1 : Int)) (.int .i64 (t.2.2 : Int)) W.heap.size rfl, h.wi.trans (Within.of_below hA)⟩
theorem LW.set8 {w0 W : World} {M b7 b8 : Nat} {r s : Row} {p : Plan} (h : LW w0 M b7 b8 r s p W) (hM : M < w0.heap.size) (h8 : w0.heap.size + 1 < b8) (h78 : b8 ≠ b7) (x y z : Value) (t : Row) (hx : x = .int .i64 (t.1 : Int)) (hy : y = .int .i64 (t.2.1 : Int)) (hz : z = .int .i64 (t.2.2 : Int)) : LW w0 M b7 b8 r t p (((W.setCell ⟨b8, 0, none⟩ x).setCell ⟨b8, 1, none⟩ y).setCell ⟨b8, 2, none⟩ z) := by
  subst hx hy hz
  have hk : ∀ b, b ≠ b8 → (((W.setCell ⟨b8, 0, none⟩ (.int .i64 (t.1 : Int))).setCell ⟨b8, 1, none⟩ (.int .i64 (t.2.1 : Int))).setCell ⟨b8, 2, none⟩ (.int .i64 (t.2.2 : Int))).heap[b]? = W.heap[b]? := fun b hb => by
    rw [Below.heap_setCell _ ⟨b8, 2, none⟩ _ b hb, Below.heap_setCell _ ⟨b8, 1, none⟩ _ b hb, Below.heap_setCell _ ⟨b8, 0, none⟩ _ b hb]
  exact ⟨h.pm.heap (hk _ (by omega)), ⟨(hk _ (by omega)).trans h.t3.row⟩, h.t4.keep (hk _ (by omega)), h.t7.keep (hk _ (fun e => h78 e.symm)), h.t8.set _ _ _, within_far (within_far (within_far h.wi (by omega) _ _) (by omega) _ _) (by omega) _ _⟩
theorem LW.S {w0 W : World} {M b7 b8 : Nat} {r s : Row} {p : Plan} (h : LW w0 M b7 b8 r s p W) :
    W.cell? ⟨w0.heap.size, 0, none⟩ = some (.int .i64 (r.1 : Int)) ∧ W.cell? ⟨w0.heap.size, 1, none⟩ = some (.int .i64 (r.2.1 : Int)) ∧ W.cell? ⟨w0.heap.size, 2, none⟩ = some (.int .i64 (r.2.2 : Int)) ∧
    W.cell? ⟨b8, 0, none⟩ = some (.int .i64 (s.1 : Int)) ∧ W.cell? ⟨b8, 1, none⟩ = some (.int .i64 (s.2.1 : Int)) ∧ W.cell? ⟨b8, 2, none⟩ = some (.int .i64 (s.2.2 : Int)) ∧
    W.cell? ⟨b7, 0, none⟩ = some (.int .i64 (p.need : Int)) ∧ W.cell? ⟨b7, 1, none⟩ = some (.int .i64 (p.first.1 : Int)) ∧ W.cell? ⟨b7, 2, none⟩ = some (.int .i64 (p.first.2.1 : Int)) ∧ W.cell? ⟨b7, 3, none⟩ = some (.int .i64 (p.first.2.2 : Int)) ∧ W.cell? ⟨b7, 4, none⟩ = some (.int .i64 (p.many : Int)) :=
  ⟨h.t3.c0, h.t3.c1, h.t3.c2, h.t8.c0, h.t8.c1, h.t8.c2, h.t7.c0, h.t7.c1, h.t7.c2, h.t7.c3, h.t7.c4⟩
theorem splitAfter_at (r : Row) (i : Nat) (W : World) (h8 : rsum r ≤ 8) (hi : i < cntR r) :
    Calls Try.prog 78 #[.agg #[.int .i64 (r.1 : Int), .int .i64 (r.2.1 : Int), .int .i64 (r.2.2 : Int)], .agg #[.int .i64 ((splitR r i).1 : Int), .int .i64 ((splitR r i).2.1 : Int), .int .i64 ((splitR r i).2.2 : Int)]] W fun e w' => e = .returned (.tuple #[.agg #[.int .i64 ((atR r (i + 1)).1 : Int), .int .i64 ((atR r (i + 1)).2.1 : Int), .int .i64 ((atR r (i + 1)).2.2 : Int)], .bool (decide (i + 1 < cntR r))]) ∧ Below W.heap.size W w' := splitAfter_any r i W h8 hi
theorem within_put {w w' : World} {M : Nat} (h : w.grownBy w' (some M)) : Within M (M + 1) w w' := ⟨h.os, h.tape, h.output, h.size, fun i hi hd => h.block i hi (fun e => by injection e with e; omega)⟩
theorem planF_back {r : Row} {i : Nat} (h : backR r (splitR r i) = true) : planF r (i + 1) = planF r i := by
  show (if backR r (splitR r i) = true then planF r i else (planF r i).or (splitR r i) (valR r (splitR r i))) = _
  rw [if_pos h]
theorem planF_more {r : Row} {i : Nat} (h : backR r (splitR r i) = false) : planF r (i + 1) = (planF r i).or (splitR r i) (valR r (splitR r i)) := by
  show (if backR r (splitR r i) = true then planF r i else (planF r i).or (splitR r i) (valR r (splitR r i))) = _
  rw [h]; rfl
/-- The slots of planOf's region that draws. -/
def pAct (n b5 M b8 : Nat) (r s : Row) (u23 u24 u25 u26 u27 u28 v33 v34 v35 v36 v37 v38 v39 u40 : Value) : Act :=
  { tmps := #[.map (some M), rowV r, undef, .pointer (some ⟨n, 0, none⟩), .pointer (some ⟨n + 1, 0, none⟩), .pointer (some ⟨b5, 0, none⟩), .bool false, .pointer (some ⟨b5 + 1, 0, none⟩), .pointer (some ⟨b8, 0, none⟩), .bool true, rowV r, .bool false, undef, .tuple #[zeroPlan, .bool false], .map (some M), rowV r, .tuple #[zeroPlan, .bool false], zeroPlan, .bool false, .bool false, undef, .agg #[.int .i64 0, .int .i64 0, .int .i64 0], .bool true, u23, u24, u25, u26, u27, u28, rowV r, rowV s, .bool false, .bool true, v33, v34, v35, v36, v37, v38, v39, u40, undef, undef, undef, undef], defers := [] }
structure PInv (w0 : World) (M b7 b8 : Nat) (r s : Row) (p q : Plan) (vv : Int) (D : Nat → Bool) (v33 v34 v35 v36 v37 v38 v39 : Value) (W : World) : Prop where
  lw : LW w0 M b7 b8 r s (if D 7 = true then q else p) W
  s33 : D 0 = true → v33 = planV p
  s34 : D 1 = true → v34 = rowV s
  s35 : D 2 = true → v35 = .map (some M)
  s36 : D 3 = true → v36 = rowV r
  s37 : D 4 = true → v37 = rowV s
  s38 : D 5 = true → v38 = .int .i64 vv
  s39 : D 6 = true → v39 = planV q
  o7 : D 7 = true → D 0 = true ∧ D 6 = true
set_option maxRecDepth 100000 in
set_option maxHeartbeats 16000000 in
theorem planOf_step (m : Nat) (HP : PlanLess m) (r : Row) (hr : massR r < m + 1) (h8 : rsum r ≤ 8) (w : World) (M : Nat) (hpm : PlanM w M) :
    Calls Try.prog 69 #[.map (some M), .agg #[.int .i64 (r.1 : Int), .int .i64 (r.2.1 : Int), .int .i64 (r.2.2 : Int)]] w fun e w' => e = .returned (planV (planR r)) ∧ PlanM w' M ∧ Within M (M + 1) w w' := by
  have hM := hpm.lt
  have B1 := (Below.refl w.heap.size w).alloc (Nat.le_refl _) (.cells #[.int .i64 (r.1 : Int), .int .i64 (r.2.1 : Int), .int .i64 (r.2.2 : Int)] 70)
  have T1 := Three.new w (.int .i64 (r.1 : Int)) (.int .i64 (r.2.1 : Int)) (.int .i64 (r.2.2 : Int)) w.heap.size rfl
  have B2 := B1.alloc B1.size (.cells #[.int .i64 0, .int .i64 0, .int .i64 0, .int .i64 0, .int .i64 0] 74)
  have S1 := (Below.refl _ (w.alloc (.cells #[.int .i64 (r.1 : Int), .int .i64 (r.2.1 : Int), .int .i64 (r.2.2 : Int)] 70))).alloc (Nat.le_refl _) (.cells #[.int .i64 0, .int .i64 0, .int .i64 0, .int .i64 0, .int .i64 0] 74)
  have HT3 := Lib.hid (T1.step S1)
  have HT4 := Lib.hid (Five.new (w.alloc (.cells #[.int .i64 (r.1 : Int), .int .i64 (r.2.1 : Int), .int .i64 (r.2.2 : Int)] 70)) (.int .i64 0) (.int .i64 0) (.int .i64 0) (.int .i64 0) (.int .i64 0) (w.heap.size + 1) (by simp))
  have HPM := Lib.hid (hpm.below B2 hM)
  have HWI := Lib.hid (Within.of_below B2 : Within M (M + 1) w _)
  have HC := Lib.hid (fun W => isTold_any r W h8)
  clear B1 T1 B2 S1 hpm
  go_enter Try.func69, Try.ntmps69
  go_upto_region 1 with fail
  generalize (w.alloc (.cells #[.int .i64 (r.1 : Int), .int .i64 (r.2.1 : Int), .int .i64 (r.2.2 : Int)] 70)).alloc (.cells #[.int .i64 0, .int .i64 0, .int .i64 0, .int .i64 0, .int .i64 0] 74) = wa at HT3 HT4 HPM HWI ⊢
  have q0 := HT3.out.c0
  have q1 := HT3.out.c1
  have q2 := HT3.out.c2
  go_wp2_with fail
  refine (HC.out wa).mono ?_
  rintro e w1 ⟨rfl, hb1⟩
  replace HT3 := Lib.hid (HT3.out.step hb1)
  replace HT4 := Lib.hid (HT4.out.step hb1)
  replace HPM := Lib.hid (HPM.out.step hb1)
  replace HWI := Lib.hid (HWI.out.trans (Within.of_below hb1))
  clear hb1 HC q0 q1 q2
  by_cases hT : rsum r ≤ 1
  · have E := Lib.hid (plan_told hT)
    rw [decide_eq_true hT]
    have c0 := HT4.out.c0
    have f0 := HT4.out.f 0
    have c1 := HT4.out.c1
    have f1 := HT4.out.f 1
    have c2 := HT4.out.c2
    have f2 := HT4.out.f 2
    have c3 := HT4.out.c3
    have f3 := HT4.out.f 3
    have c4 := HT4.out.c4
    have f4 := HT4.out.f 4
    go_wp2
    have HF := HT4.out.set (.int .i64 0) (.int .i64 0) (.int .i64 0) (.int .i64 0) (.int .i64 0)
    have HPf : PlanM (set5 w1 (w.heap.size + 1) (.int .i64 0) (.int .i64 0) (.int .i64 0) (.int .i64 0) (.int .i64 0)) M := HPM.out.heap (block_set5 (by omega) _ _ _ _ _)
    have HWf := within_far5 HWI.out (Nat.le_succ w.heap.size) (.int .i64 0) (.int .i64 0) (.int .i64 0) (.int .i64 0) (.int .i64 0)
    unfold set5 at HF HPf HWf
    generalize (((((w1.setCell ⟨w.heap.size + 1, 0, none⟩ (.int .i64 0)).setCell ⟨w.heap.size + 1, 1, none⟩ (.int .i64 0)).setCell ⟨w.heap.size + 1, 2, none⟩ (.int .i64 0)).setCell ⟨w.heap.size + 1, 3, none⟩ (.int .i64 0)).setCell ⟨w.heap.size + 1, 4, none⟩ (.int .i64 0)) = wf at HF HPf HWf ⊢
    have e0 := HF.c0
    have e1 := HF.c1
    have e2 := HF.c2
    have e3 := HF.c3
    have e4 := HF.c4
    refine bodyPost_ret (v := .agg #[.int .i64 0, .int .i64 0, .int .i64 0, .int .i64 0, .int .i64 0]) (by simp [results, go_sem, e0, e1, e2, e3, e4]) rfl ?_
    exact ⟨by rw [E.out]; rfl, HPf, HWf⟩
  · rw [decide_eq_false hT]
    obtain ⟨D, hD⟩ := HPM.out
    have HD := Lib.hid hD
    have q0 := HT3.out.c0
    have q1 := HT3.out.c1
    have q2 := HT3.out.c2
    rcases hD.look h8 with ⟨hh, hrun⟩ | ⟨hh, hrun⟩
    · simp only [planV] at hrun
      have S1 := (Below.refl _ w1).alloc (Nat.le_refl _) (.cells #[.int .i64 ((planR r).need : Int), .int .i64 ((planR r).first.1 : Int), .int .i64 ((planR r).first.2.1 : Int), .int .i64 ((planR r).first.2.2 : Int), .int .i64 ((planR r).many : Int)] 74)
      have HU4 := Lib.hid (HT4.out.step S1)
      have HPf0 := Lib.hid (HPM.out.step S1)
      have HWf0 := Lib.hid (HWI.out.trans (Within.of_below S1))
      have c0 := HU4.out.c0
      have f0 := HU4.out.f 0
      have c1 := HU4.out.c1
      have f1 := HU4.out.f 1
      have c2 := HU4.out.c2
      have f2 := HU4.out.f 2
      have c3 := HU4.out.c3
      have f3 := HU4.out.f 3
      have c4 := HU4.out.c4
      have f4 := HU4.out.f 4
      clear hD S1
      go_wp2
      have HF := HU4.out.set (.int .i64 ((planR r).need : Int)) (.int .i64 ((planR r).first.1 : Int)) (.int .i64 ((planR r).first.2.1 : Int)) (.int .i64 ((planR r).first.2.2 : Int)) (.int .i64 ((planR r).many : Int))
      have HPf : PlanM (set5 (w1.alloc (.cells #[.int .i64 ((planR r).need : Int), .int .i64 ((planR r).first.1 : Int), .int .i64 ((planR r).first.2.1 : Int), .int .i64 ((planR r).first.2.2 : Int), .int .i64 ((planR r).many : Int)] 74)) (w.heap.size + 1) (.int .i64 ((planR r).need : Int)) (.int .i64 ((planR r).first.1 : Int)) (.int .i64 ((planR r).first.2.1 : Int)) (.int .i64 ((planR r).first.2.2 : Int)) (.int .i64 ((planR r).many : Int))) M := HPf0.out.heap (block_set5 (by omega) _ _ _ _ _)
      have HWf := within_far5 HWf0.out (Nat.le_succ w.heap.size) (.int .i64 ((planR r).need : Int)) (.int .i64 ((planR r).first.1 : Int)) (.int .i64 ((planR r).first.2.1 : Int)) (.int .i64 ((planR r).first.2.2 : Int)) (.int .i64 ((planR r).many : Int))
      unfold set5 at HF HPf HWf
      generalize ((((((w1.alloc (.cells #[.int .i64 ((planR r).need : Int), .int .i64 ((planR r).first.1 : Int), .int .i64 ((planR r).first.2.1 : Int), .int .i64 ((planR r).first.2.2 : Int), .int .i64 ((planR r).many : Int)] 74)).setCell ⟨w.heap.size + 1, 0, none⟩ (.int .i64 ((planR r).need : Int))).setCell ⟨w.heap.size + 1, 1, none⟩ (.int .i64 ((planR r).first.1 : Int))).setCell ⟨w.heap.size + 1, 2, none⟩ (.int .i64 ((planR r).first.2.1 : Int))).setCell ⟨w.heap.size + 1, 3, none⟩ (.int .i64 ((planR r).first.2.2 : Int))).setCell ⟨w.heap.size + 1, 4, none⟩ (.int .i64 ((planR r).many : Int))) = wf at HF HPf HWf ⊢
      have e0 := HF.c0
      have e1 := HF.c1
      have e2 := HF.c2
      have e3 := HF.c3
      have e4 := HF.c4
      refine bodyPost_ret (v := .agg #[.int .i64 ((planR r).need : Int), .int .i64 ((planR r).first.1 : Int), .int .i64 ((planR r).first.2.1 : Int), .int .i64 ((planR r).first.2.2 : Int), .int .i64 ((planR r).many : Int)]) (by simp [results, go_sem, e0, e1, e2, e3, e4]) rfl ?_
      exact ⟨rfl, HPf, HWf⟩
    · simp only [zeroPlan] at hrun
      have htop : w.heap.size + 1 < w1.heap.size := HT4.out.lt
      have HLW0 : Hid (LW w M (w1.heap.size + 1) (w1.heap.size + 1 + 1) r (atR r 0) (planF r 0) (((w1.alloc (.cells #[.int .i64 0, .int .i64 0, .int .i64 0, .int .i64 0, .int .i64 0] 74)).alloc (.cells #[.int .i64 0, .int .i64 0, .int .i64 0, .int .i64 0, .int .i64 0] 74)).alloc (.cells #[.int .i64 0, .int .i64 0, .int .i64 0] 70))) := Lib.hid (by
        have S1 := (Below.refl _ w1).alloc (Nat.le_refl _) (.cells #[.int .i64 0, .int .i64 0, .int .i64 0, .int .i64 0, .int .i64 0] 74)
        have S2 := (Below.refl _ (w1.alloc (.cells #[.int .i64 0, .int .i64 0, .int .i64 0, .int .i64 0, .int .i64 0] 74))).alloc (Nat.le_refl _) (.cells #[.int .i64 0, .int .i64 0, .int .i64 0, .int .i64 0, .int .i64 0] 74)
        have S3 := (Below.refl _ ((w1.alloc (.cells #[.int .i64 0, .int .i64 0, .int .i64 0, .int .i64 0, .int .i64 0] 74)).alloc (.cells #[.int .i64 0, .int .i64 0, .int .i64 0, .int .i64 0, .int .i64 0] 74))).alloc (Nat.le_refl _) (.cells #[.int .i64 0, .int .i64 0, .int .i64 0] 70)
        rw [atR_zero]
        exact ⟨((HPM.out.step S1).step S2).step S3, ((HT3.out.step S1).step S2).step S3, ((HT4.out.step S1).step S2).step S3, (Five.new (w1.alloc (.cells #[.int .i64 0, .int .i64 0, .int .i64 0, .int .i64 0, .int .i64 0] 74)) (.int .i64 0) (.int .i64 0) (.int .i64 0) (.int .i64 0) (.int .i64 0) (w1.heap.size + 1) (by simp)).step S3, Three.new ((w1.alloc (.cells #[.int .i64 0, .int .i64 0, .int .i64 0, .int .i64 0, .int .i64 0] 74)).alloc (.cells #[.int .i64 0, .int .i64 0, .int .i64 0, .int .i64 0, .int .i64 0] 74)) (.int .i64 0) (.int .i64 0) (.int .i64 0) (w1.heap.size + 1 + 1) (by simp), ((HWI.out.trans (Within.of_below S1)).trans (Within.of_below S2)).trans (Within.of_below S3)⟩)
      have hcb := cnt_bd h8
      have HBD := Lib.hid (fun i (h : i ≤ cntR r) => planF_bd h8 h)
      have HF := Lib.hid (fun i (h : i < cntR r) => split_fits h8 h)
      have HCB := Lib.hid (fun i (h : i < cntR r) W => leadsBack_any r (splitR r i) W h8 (split_fits h8 h))
      have HCA := Lib.hid (fun i (h : i < cntR r) W => splitAfter_at r i W h8 h)
      have HCS := Lib.hid (fun i (h : i < cntR r) (hb : backR r (splitR r i) = false) W hp => splitNeed_of m HP r (splitR r i) W M h8 (split_fits h8 h) (by have := (mass_yes (split_fits h8 h) hb).1; omega) (by have := (mass_yes (split_fits h8 h) hb).2; omega) hp)
      have HVB := Lib.hid (fun i (h : i < cntR r) => show valR r (splitR r i) ≤ 20 by
        have h1 := need_le (yes_sum h8 (split_fits h8 h)).1
        have h2 := need_le (yes_sum h8 (split_fits h8 h)).2
        unfold valR
        omega)
      have HE := Lib.hid (plan_asks (r := r) (by omega))
      clear hD HT3 HT4 HPM HWI
      go_wp2_with fail
      clear hrun q0 q1 q2
      generalize ((w1.alloc (.cells #[.int .i64 0, .int .i64 0, .int .i64 0, .int .i64 0, .int .i64 0] 74)).alloc (.cells #[.int .i64 0, .int .i64 0, .int .i64 0, .int .i64 0, .int .i64 0] 74)).alloc (.cells #[.int .i64 0, .int .i64 0, .int .i64 0] 70) = wb at HLW0 ⊢
      go_loopg [8, 9] (cntR r + 1) (fun g p8 ok wr => ∃ (i b8 : Nat), g = cntR r + 1 - i ∧ i ≤ cntR r ∧ p8 = .pointer (some ⟨b8, 0, none⟩) ∧ ok = .bool (decide (i < cntR r)) ∧ w1.heap.size + 1 < b8 ∧ Hid (LW w M (w1.heap.size + 1) b8 r (atR r i) (planF r i) wr))
      case atStart => exact ⟨0, w1.heap.size + 1 + 1, by omega, Nat.zero_le _, rfl, by rw [decide_eq_true hcb.2], by omega, HLW0⟩
      case round =>
        clear HLW0
        obtain ⟨i, b8, hg, hi, rfl, rfl, hb8, HLW⟩ := hrel
        by_cases hlt : i < cntR r
        · have hbd := HBD.out i hi
          have HBi := Lib.hid (HCB.out i hlt)
          have HCAi := Lib.hid (HCA.out i hlt)
          have HCSi := Lib.hid (HCS.out i hlt)
          have hvb := HVB.out i hlt
          have HPb := Lib.hid (@planF_back r i)
          have HPm := Lib.hid (@planF_more r i)
          rw [show atR r i = splitR r i from if_pos hlt] at HLW
          have hlt' : decide (i < cntR r) = true := decide_eq_true hlt
          generalize splitR r i = s at HLW HBi HCAi HCSi hvb HPb HPm
          clear HBD HCB HCA HCS HVB HF HE
          generalize hp : planF r i = p at HLW HPb HPm hbd
          clear hp
          have HO : Hid (∀ W, Calls Try.prog 79 #[.agg #[.int .i64 (p.need : Int), .int .i64 (p.first.1 : Int), .int .i64 (p.first.2.1 : Int), .int .i64 (p.first.2.2 : Int), .int .i64 (p.many : Int)], .agg #[.int .i64 (s.1 : Int), .int .i64 (s.2.1 : Int), .int .i64 (s.2.2 : Int)], .int .i64 ((valR r s : Nat) : Int)] W fun e w' => e = .returned (.agg #[.int .i64 ((p.or s (valR r s)).need : Int), .int .i64 ((p.or s (valR r s)).first.1 : Int), .int .i64 ((p.or s (valR r s)).first.2.1 : Int), .int .i64 ((p.or s (valR r s)).first.2.2 : Int), .int .i64 ((p.or s (valR r s)).many : Int)]) ∧ Below W.heap.size W w') := Lib.hid (fun W => orSplit_any p s (valR r s) W hbd.1 (by omega) hvb)
          obtain ⟨q0, q1, q2, s0, s1, s2, t0, t1, t2, t3, t4⟩ := HLW.out.S
          go_wp2_with fail
          refine (HBi.out wr).mono ?_
          rintro e w3 ⟨rfl, hb3⟩
          have HL3 := Lib.hid (HLW.out.below hM (by omega) (by omega) hb3)
          clear hb3 HBi HLW q0 q1 q2 s0 s1 s2 t0 t1 t2 t3 t4
          cases hback : backR r s with
          | true =>
            have HEq := Lib.hid (HPb.out hback)
            clear HPm HCSi HO hback
            have S8 := HL3.out.t8
            have x0 := S8.c0
            have x1 := S8.c1
            have x2 := S8.c2
            have HN8 := Lib.hid (HL3.out.new8 s)
            have hbt : w1.heap.size + 1 < w3.heap.size := HL3.out.t7.lt
            have y0 := HN8.out.t3.c0
            have y1 := HN8.out.t3.c1
            have y2 := HN8.out.t3.c2
            have z0 := HN8.out.t8.c0
            have z1 := HN8.out.t8.c1
            have z2 := HN8.out.t8.c2
            clear S8
            go_wp2_with fail
            refine (HCAi.out _).mono ?_
            rintro e w8 ⟨rfl, hb8'⟩
            have HN9 := Lib.hid (HN8.out.below hM (by omega) (by omega) hb8')
            have HNS := Lib.hid (HN9.out.set8 hM (by omega) (by omega) _ _ _ (atR r (i + 1)) rfl rfl rfl)
            clear hb8' x0 x1 x2 y0 y1 y2 z0 z1 z2
            have z0 := HN9.out.t8.c0
            have z1 := HN9.out.t8.c1
            have z2 := HN9.out.t8.c2
            have z3 := HN9.out.t8.f 0
            have z4 := HN9.out.t8.f 1
            have z5 := HN9.out.t8.f 2
            go_wp2
            go_roundg (cntR r + 1 - (i + 1))
            case measure => omega
            case rel => exact ⟨i + 1, w3.heap.size, rfl, by omega, rfl, rfl, hbt, by rw [HEq.out]; exact HNS⟩

          | false =>
            have HEq := Lib.hid (HPm.out hback)
            have HSN := Lib.hid (HCSi.out hback)
            clear HPb HCSi hback
            have HL3d := Lib.hid (HL3.out.below hM (by omega) (by omega) (Below.refl _ w3).drew)
            generalize hq : p.or s (valR r s) = q at HO HEq
            clear hq
            have hne78 : b8 ≠ w1.heap.size + 1 := by omega
            go_wp2_with fail
            refine wp_region_noPanic ?_
            refine wp_region_inv (by kernel_rfl) (by kernel_rfl) (fun D A W => ∃ v33 v34 v35 v36 v37 v38 v39, A = pAct w.heap.size w1.heap.size M b8 r s u23 u24 u25 u26 u27 u28 v33 v34 v35 v36 v37 v38 v39 u40 ∧ PInv w M (w1.heap.size + 1) b8 r s p q ((valR r s : Nat) : Int) D v33 v34 v35 v36 v37 v38 v39 W) ?h0 ?hs ?hd
            case h0 => exact ⟨u33, u34, u35, u36, u37, u38, u39, rfl, ⟨HL3d.out, nofun, nofun, nofun, nofun, nofun, nofun, nofun, nofun⟩⟩
            case hs =>
              rintro D _ W ⟨v33, v34, v35, v36, v37, v38, v39, rfl, hI⟩ i' o ho hD hA K hK
              have hi' : i' < 8 := (Array.getElem?_eq_some_iff.1 ho).1
              have HI := Lib.hid hI
              have HK := Lib.hid hK
              clear hI hK
              obtain rfl | rfl | rfl | rfl | rfl | rfl | rfl | rfl : i' = 0 ∨ i' = 1 ∨ i' = 2 ∨ i' = 3 ∨ i' = 4 ∨ i' = 5 ∨ i' = 6 ∨ i' = 7 := by omega
              all_goals (obtain rfl := Option.some.inj ho; clear ho hi'; simp [Region.binds] at hA; unfold pAct)
              · have hn7 : D 7 = false := (by rcases Bool.eq_false_or_eq_true (D 7) with h | h; (rw [(HI.out.o7 h).1] at hD; cases hD); exact h)
                have hlw := HI.out.lw
                rw [hn7] at hlw
                simp only [Bool.false_eq_true, if_false] at hlw
                have k0 := hlw.t7.c0
                have k1 := hlw.t7.c1
                have k2 := hlw.t7.c2
                have k3 := hlw.t7.c3
                have k4 := hlw.t7.c4
                clear hlw
                go_simp
                exact HK.out _ _ ⟨_, _, _, _, _, _, _, rfl, ⟨(by simpa using HI.out.lw), (fun _ => rfl), (by first | exact fun _ => rfl | simpa using HI.out.s34), (by first | exact fun _ => rfl | simpa using HI.out.s35), (by first | exact fun _ => rfl | simpa using HI.out.s36), (by first | exact fun _ => rfl | simpa using HI.out.s37), (by first | exact fun _ => rfl | simpa using HI.out.s38), (by first | exact fun _ => rfl | simpa using HI.out.s39), (fun h => by simp [hn7] at h)⟩⟩
              · have k0 := HI.out.lw.t8.c0
                have k1 := HI.out.lw.t8.c1
                have k2 := HI.out.lw.t8.c2
                go_simp
                exact HK.out _ _ ⟨_, _, _, _, _, _, _, rfl, ⟨(by simpa using HI.out.lw), (by first | exact fun _ => rfl | simpa using HI.out.s33), (fun _ => rfl), (by first | exact fun _ => rfl | simpa using HI.out.s35), (by first | exact fun _ => rfl | simpa using HI.out.s36), (by first | exact fun _ => rfl | simpa using HI.out.s37), (by first | exact fun _ => rfl | simpa using HI.out.s38), (by first | exact fun _ => rfl | simpa using HI.out.s39), (by simpa using HI.out.o7)⟩⟩
              · go_simp
                exact HK.out _ _ ⟨_, _, _, _, _, _, _, rfl, ⟨(by simpa using HI.out.lw), (by first | exact fun _ => rfl | simpa using HI.out.s33), (by first | exact fun _ => rfl | simpa using HI.out.s34), (fun _ => rfl), (by first | exact fun _ => rfl | simpa using HI.out.s36), (by first | exact fun _ => rfl | simpa using HI.out.s37), (by first | exact fun _ => rfl | simpa using HI.out.s38), (by first | exact fun _ => rfl | simpa using HI.out.s39), (by simpa using HI.out.o7)⟩⟩
              · have k0 := HI.out.lw.t3.c0
                have k1 := HI.out.lw.t3.c1
                have k2 := HI.out.lw.t3.c2
                go_simp
                exact HK.out _ _ ⟨_, _, _, _, _, _, _, rfl, ⟨(by simpa using HI.out.lw), (by first | exact fun _ => rfl | simpa using HI.out.s33), (by first | exact fun _ => rfl | simpa using HI.out.s34), (by first | exact fun _ => rfl | simpa using HI.out.s35), (fun _ => rfl), (by first | exact fun _ => rfl | simpa using HI.out.s37), (by first | exact fun _ => rfl | simpa using HI.out.s38), (by first | exact fun _ => rfl | simpa using HI.out.s39), (by simpa using HI.out.o7)⟩⟩
              · have k0 := HI.out.lw.t8.c0
                have k1 := HI.out.lw.t8.c1
                have k2 := HI.out.lw.t8.c2
                go_simp
                exact HK.out _ _ ⟨_, _, _, _, _, _, _, rfl, ⟨(by simpa using HI.out.lw), (by first | exact fun _ => rfl | simpa using HI.out.s33), (by first | exact fun _ => rfl | simpa using HI.out.s34), (by first | exact fun _ => rfl | simpa using HI.out.s35), (by first | exact fun _ => rfl | simpa using HI.out.s36), (fun _ => rfl), (by first | exact fun _ => rfl | simpa using HI.out.s38), (by first | exact fun _ => rfl | simpa using HI.out.s39), (by simpa using HI.out.o7)⟩⟩
              · obtain rfl := HI.out.s35 (by simp_all)
                obtain rfl := HI.out.s36 (by simp_all)
                obtain rfl := HI.out.s37 (by simp_all)
                simp only [rowV]
                go_simp
                refine (HSN.out W HI.out.lw.pm).mono ?_
                rintro e w4 ⟨rfl, hpm4, hw4⟩
                exact HK.out _ _ ⟨_, _, _, _, _, _, _, rfl, ⟨(by simpa using HI.out.lw.step hM (by omega) (by omega) hw4 hpm4), (by first | exact fun _ => rfl | simpa using HI.out.s33), (by first | exact fun _ => rfl | simpa using HI.out.s34), (by first | exact fun _ => rfl | simpa using HI.out.s35), (by first | exact fun _ => rfl | simpa using HI.out.s36), (by first | exact fun _ => rfl | simpa using HI.out.s37), (fun _ => rfl), (by first | exact fun _ => rfl | simpa using HI.out.s39), (by simpa using HI.out.o7)⟩⟩
              · obtain rfl := HI.out.s33 (by simp_all)
                obtain rfl := HI.out.s34 (by simp_all)
                obtain rfl := HI.out.s38 (by simp_all)
                simp only [rowV, planV]
                go_simp
                refine (HO.out W).mono ?_
                rintro e w4 ⟨rfl, hb4⟩
                exact HK.out _ _ ⟨_, _, _, _, _, _, _, rfl, ⟨(by simpa using HI.out.lw.below hM (by omega) (by omega) hb4), (by first | exact fun _ => rfl | simpa using HI.out.s33), (by first | exact fun _ => rfl | simpa using HI.out.s34), (by first | exact fun _ => rfl | simpa using HI.out.s35), (by first | exact fun _ => rfl | simpa using HI.out.s36), (by first | exact fun _ => rfl | simpa using HI.out.s37), (by first | exact fun _ => rfl | simpa using HI.out.s38), (fun _ => rfl), (fun h => by have h7 := HI.out.o7 (by simpa using h); simp [h7.1])⟩⟩
              · obtain rfl := HI.out.s39 (by simp_all)
                have hlw := HI.out.lw
                rw [hD] at hlw
                simp only [Bool.false_eq_true, if_false] at hlw
                have c0 := hlw.t7.c0
                have c1 := hlw.t7.c1
                have c2 := hlw.t7.c2
                have c3 := hlw.t7.c3
                have c4 := hlw.t7.c4
                have g0 := hlw.t7.f 0
                have g1 := hlw.t7.f 1
                have g2 := hlw.t7.f 2
                have g3 := hlw.t7.f 3
                have g4 := hlw.t7.f 4
                have HLw := Lib.hid (hlw.set7 hM (by omega) hne78 q)
                clear hlw
                simp only [planV]
                go_simp
                exact HK.out _ (set5 W (w1.heap.size + 1) (.int .i64 (q.need : Int)) (.int .i64 (q.first.1 : Int)) (.int .i64 (q.first.2.1 : Int)) (.int .i64 (q.first.2.2 : Int)) (.int .i64 (q.many : Int))) ⟨_, _, _, _, _, _, _, rfl, ⟨(by simpa using HLw.out), (by first | exact fun _ => rfl | simpa using HI.out.s33), (by first | exact fun _ => rfl | simpa using HI.out.s34), (by first | exact fun _ => rfl | simpa using HI.out.s35), (by first | exact fun _ => rfl | simpa using HI.out.s36), (by first | exact fun _ => rfl | simpa using HI.out.s37), (by first | exact fun _ => rfl | simpa using HI.out.s38), (by first | exact fun _ => rfl | simpa using HI.out.s39), (fun _ => by simp_all)⟩⟩
            case hd =>
              rintro D _ W ⟨v33, v34, v35, v36, v37, v38, v39, rfl, hI⟩ hall
              have h7 : D 7 = true := hall 7 (by decide)
              have hlw := hI.lw
              rw [h7] at hlw
              simp only [if_true] at hlw
              have HL6 := Lib.hid hlw
              clear hI hall hlw h7 HO HSN HL3 HL3d
              simp only [pAct, rowV, zeroPlan]
              refine NoPanic.normal ?_
              have S8 := HL6.out.t8
              have x0 := S8.c0
              have x1 := S8.c1
              have x2 := S8.c2
              have HN8 := Lib.hid (HL6.out.new8 s)
              have hbt : w1.heap.size + 1 < W.heap.size := HL6.out.t7.lt
              have y0 := HN8.out.t3.c0
              have y1 := HN8.out.t3.c1
              have y2 := HN8.out.t3.c2
              have z0 := HN8.out.t8.c0
              have z1 := HN8.out.t8.c1
              have z2 := HN8.out.t8.c2
              clear S8
              go_wp2_with fail
              refine (HCAi.out _).mono ?_
              rintro e w8 ⟨rfl, hb8'⟩
              have HN9 := Lib.hid (HN8.out.below hM (by omega) (by omega) hb8')
              have HNS := Lib.hid (HN9.out.set8 hM (by omega) (by omega) _ _ _ (atR r (i + 1)) rfl rfl rfl)
              clear hb8' x0 x1 x2 y0 y1 y2 z0 z1 z2
              have z0 := HN9.out.t8.c0
              have z1 := HN9.out.t8.c1
              have z2 := HN9.out.t8.c2
              have z3 := HN9.out.t8.f 0
              have z4 := HN9.out.t8.f 1
              have z5 := HN9.out.t8.f 2
              go_wp2
              go_roundg (cntR r + 1 - (i + 1))
              case measure => omega
              case rel => exact ⟨i + 1, W.heap.size, rfl, by omega, rfl, rfl, hbt, by rw [HEq.out]; exact HNS⟩
        · obtain rfl : i = cntR r := by omega
          rw [HE.out.symm] at HLW
          have hlt' : decide (cntR r < cntR r) = false := by simp
          obtain ⟨q0, q1, q2, s0, s1, s2, t0, t1, t2, t3, t4⟩ := HLW.out.S
          obtain ⟨D', hD'⟩ := HLW.out.pm
          have HD' := Lib.hid hD'
          have hsz : Maps.size D' < maxLen := by
            have h1 := hD'.size
            have h2 := cntM_le D'
            unfold maxLen
            omega
          have hown := hD'.owns
          have hkey := keyRow h8
          clear hD' HCB HCA HCS HVB HF HE HBD
          go_wp2_with (first
            | (at_mapUpdate; refine wpList_mapUpdate_own _ rfl _ _ _ 67 rfl 70 74 keyedRow Try.underlying67 heldR M (Maps.size D') D' rfl hown hsz _ _ (klR r) rfl rfl hkey (.held (planV (planR r))) [] rfl ?_; intro w9 hown9 hg9; have HP9 := Lib.hid (HD'.out.put h8 hown9); have HW9 := Lib.hid (HLW.out.wi.trans (within_put hg9)); have HUV := Lib.hid (HLW.out.t4.within (within_put hg9) (.inr (by omega))); have HUW := Lib.hid (HLW.out.t7.within (within_put hg9) (.inr (by omega))); clear hown9 hg9 hown; have m0 := HUW.out.c0; have m1 := HUW.out.c1; have m2 := HUW.out.c2; have m3 := HUW.out.c3; have m4 := HUW.out.c4; have c0 := HUV.out.c0; have f0 := HUV.out.f 0; have c1 := HUV.out.c1; have f1 := HUV.out.f 1; have c2 := HUV.out.c2; have f2 := HUV.out.f 2; have c3 := HUV.out.c3; have f3 := HUV.out.f 3; have c4 := HUV.out.c4; have f4 := HUV.out.f 4))
          have HFn := HUV.out.set (.int .i64 ((planR r).need : Int)) (.int .i64 ((planR r).first.1 : Int)) (.int .i64 ((planR r).first.2.1 : Int)) (.int .i64 ((planR r).first.2.2 : Int)) (.int .i64 ((planR r).many : Int))
          have HPf : PlanM (set5 w9 (w.heap.size + 1) (.int .i64 ((planR r).need : Int)) (.int .i64 ((planR r).first.1 : Int)) (.int .i64 ((planR r).first.2.1 : Int)) (.int .i64 ((planR r).first.2.2 : Int)) (.int .i64 ((planR r).many : Int))) M := HP9.out.heap (block_set5 (by omega) _ _ _ _ _)
          have HWf := within_far5 HW9.out (Nat.le_succ w.heap.size) (.int .i64 ((planR r).need : Int)) (.int .i64 ((planR r).first.1 : Int)) (.int .i64 ((planR r).first.2.1 : Int)) (.int .i64 ((planR r).first.2.2 : Int)) (.int .i64 ((planR r).many : Int))
          unfold set5 at HFn HPf HWf
          generalize (((((w9.setCell ⟨w.heap.size + 1, 0, none⟩ (.int .i64 ((planR r).need : Int))).setCell ⟨w.heap.size + 1, 1, none⟩ (.int .i64 ((planR r).first.1 : Int))).setCell ⟨w.heap.size + 1, 2, none⟩ (.int .i64 ((planR r).first.2.1 : Int))).setCell ⟨w.heap.size + 1, 3, none⟩ (.int .i64 ((planR r).first.2.2 : Int))).setCell ⟨w.heap.size + 1, 4, none⟩ (.int .i64 ((planR r).many : Int))) = wf at HFn HPf HWf ⊢
          have e0 := HFn.c0
          have e1 := HFn.c1
          have e2 := HFn.c2
          have e3 := HFn.c3
          have e4 := HFn.c4
          refine bodyPost_ret (v := .agg #[.int .i64 ((planR r).need : Int), .int .i64 ((planR r).first.1 : Int), .int .i64 ((planR r).first.2.1 : Int), .int .i64 ((planR r).first.2.2 : Int), .int .i64 ((planR r).many : Int)]) (by simp [results, go_sem, e0, e1, e2, e3, e4]) rfl ?_
          exact ⟨rfl, HPf, HWf⟩
theorem planLess : ∀ m, PlanLess m
  | 0 => fun r h => absurd h (by omega)
  | m + 1 => fun r h h8 w M hp => planOf_step m (planLess m) r h h8 w M hp
theorem planOf_any (r : Row) (h8 : rsum r ≤ 8) (w : World) (M : Nat) (hp : PlanM w M) :
    Calls Try.prog 69 #[.map (some M), .agg #[.int .i64 (r.1 : Int), .int .i64 (r.2.1 : Int), .int .i64 (r.2.2 : Int)]] w fun e w' => e = .returned (planV (planR r)) ∧ PlanM w' M ∧ Within M (M + 1) w w' :=
  planLess (massR r + 1) r (Nat.lt_succ_self _) h8 w M hp
theorem needOf_any (r : Row) (h8 : rsum r ≤ 8) (w : World) (M : Nat) (hp : PlanM w M) :
    Calls Try.prog 43 #[.map (some M), .agg #[.int .i64 (r.1 : Int), .int .i64 (r.2.1 : Int), .int .i64 (r.2.2 : Int)]] w fun e w' => e = .returned (.int .i64 ((needR r : Nat) : Int)) ∧ PlanM w' M ∧ Within M (M + 1) w w' :=
  needOf_of (massR r + 1) (planLess _) r w M (Nat.lt_succ_self _) h8 hp
end Go.Proofs.Ythpnkeecpaflfaa
