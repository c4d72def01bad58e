/- Plans: one more split. -/
import Derived.Test.YthpnkeecpaflfaaRow6
namespace Go.Proofs.Ythpnkeecpaflfaa
open Go.RowKit Go.ChangeShapes Go.WideShapes
set_option linter.unusedVariables false

structure Five (w : World) (b : Nat) (x0 x1 x2 x3 x4 : Value) : Prop where
  row : w.heap[b]? = some (.cells #[x0, x1, x2, x3, x4] 74 (0, 0))
theorem Five.lt {w : World} {b : Nat} {x0 x1 x2 x3 x4 : Value} (h : Five w b x0 x1 x2 x3 x4) : b < w.heap.size := row_ltI h.row
theorem Five.step {w w' : World} {b : Nat} {x0 x1 x2 x3 x4 : Value} (h : Five w b x0 x1 x2 x3 x4) (hb : Below w.heap.size w w') : Five w' b x0 x1 x2 x3 x4 := ⟨(hb.block b h.lt).trans h.row⟩
theorem Five.keep {w w' : World} {b : Nat} {x0 x1 x2 x3 x4 : Value} (h : Five w b x0 x1 x2 x3 x4) (hb : w'.heap[b]? = w.heap[b]?) : Five w' b x0 x1 x2 x3 x4 := ⟨hb.trans h.row⟩
theorem Five.new (w : World) (x0 x1 x2 x3 x4 : Value) (b : Nat) (hb : b = w.heap.size) : Five (w.alloc (.cells #[x0, x1, x2, x3, x4] 74)) b x0 x1 x2 x3 x4 := ⟨alloc_row' _ _ _ _ hb⟩
theorem Five.c0 {w : World} {b : Nat} {x0 x1 x2 x3 x4 : Value} (h : Five w b x0 x1 x2 x3 x4) : w.cell? ⟨b, 0, none⟩ = some x0 := by rw [row_cellI h.row]; rfl
theorem Five.c1 {w : World} {b : Nat} {x0 x1 x2 x3 x4 : Value} (h : Five w b x0 x1 x2 x3 x4) : w.cell? ⟨b, 1, none⟩ = some x1 := by rw [row_cellI h.row]; rfl
theorem Five.c2 {w : World} {b : Nat} {x0 x1 x2 x3 x4 : Value} (h : Five w b x0 x1 x2 x3 x4) : w.cell? ⟨b, 2, none⟩ = some x2 := by rw [row_cellI h.row]; rfl
theorem Five.c3 {w : World} {b : Nat} {x0 x1 x2 x3 x4 : Value} (h : Five w b x0 x1 x2 x3 x4) : w.cell? ⟨b, 3, none⟩ = some x3 := by rw [row_cellI h.row]; rfl
theorem Five.c4 {w : World} {b : Nat} {x0 x1 x2 x3 x4 : Value} (h : Five w b x0 x1 x2 x3 x4) : w.cell? ⟨b, 4, none⟩ = some x4 := by rw [row_cellI h.row]; rfl
theorem Five.f {w : World} {b : Nat} {x0 x1 x2 x3 x4 : Value} (h : Five w b x0 x1 x2 x3 x4) (i : Nat) : w.frozen? ⟨b, i, none⟩ = false := row_freeI h.row i
theorem Five.far {w : World} {b g : Nat} {x0 x1 x2 x3 x4 : Value} (h : Five w b x0 x1 x2 x3 x4) (hne : b ≠ g) (i : Nat) (u : Value) : Five (w.setCell ⟨g, i, none⟩ u) b x0 x1 x2 x3 x4 := ⟨(Below.heap_setCell w ⟨g, i, none⟩ u b hne).trans h.row⟩
theorem Five.set4 {w : World} {b : Nat} {x0 x1 x2 x3 x4 : Value} (h : Five w b x0 x1 x2 x3 x4) (u : Value) : Five (w.setCell ⟨b, 4, none⟩ u) b x0 x1 x2 x3 u := ⟨by simpa using row_setI h.row 4 u⟩
def set5 (w : World) (b : Nat) (y0 y1 y2 y3 y4 : Value) : World := ((((w.setCell ⟨b, 0, none⟩ y0).setCell ⟨b, 1, none⟩ y1).setCell ⟨b, 2, none⟩ y2).setCell ⟨b, 3, none⟩ y3).setCell ⟨b, 4, none⟩ y4
theorem Five.set {w : World} {b : Nat} {x0 x1 x2 x3 x4 : Value} (h : Five w b x0 x1 x2 x3 x4) (y0 y1 y2 y3 y4 : Value) : Five (set5 w b y0 y1 y2 y3 y4) b y0 y1 y2 y3 y4 := ⟨by
  have h1 := row_setI (row_setI (row_setI (row_setI (row_setI h.row 0 y0) 1 y1) 2 y2) 3 y3) 4 y4
  simpa [set5] using h1⟩
theorem below_set5 {B g : Nat} {a w : World} (h : Below B a w) (hg : B ≤ g) (y0 y1 y2 y3 y4 : Value) : Below B a (set5 w g y0 y1 y2 y3 y4) := below_set (below_set (below_set (below_set (below_set h hg _ _) hg _ _) hg _ _) hg _ _) hg _ _
theorem block_set5 {b g : Nat} {w : World} (hne : b ≠ g) (y0 y1 y2 y3 y4 : Value) : (set5 w g y0 y1 y2 y3 y4).heap[b]? = w.heap[b]? := by
  unfold set5
  rw [Below.heap_setCell _ ⟨g, 4, none⟩ _ b hne, Below.heap_setCell _ ⟨g, 3, none⟩ _ b hne, Below.heap_setCell _ ⟨g, 2, none⟩ _ b hne, Below.heap_setCell _ ⟨g, 1, none⟩ _ b hne, Below.heap_setCell _ ⟨g, 0, none⟩ _ b hne]
structure LaidP (w wa : World) (p0 p1 p2 p3 p4 x y z : Value) : Prop where
  t1 : Five wa w.heap.size p0 p1 p2 p3 p4
  t2 : Three wa (w.heap.size + 1) x y z
  t3 : Five wa (w.heap.size + 1 + 1) (.int .i64 0) (.int .i64 0) (.int .i64 0) (.int .i64 0) (.int .i64 0)
  bel : Below w.heap.size w wa
theorem LaidP.new (w : World) (p0 p1 p2 p3 p4 x y z : Value) :
    LaidP w (((w.alloc (.cells #[p0, p1, p2, p3, p4] 74)).alloc (.cells #[x, y, z] 70)).alloc (.cells #[.int .i64 0, .int .i64 0, .int .i64 0, .int .i64 0, .int .i64 0] 74)) p0 p1 p2 p3 p4 x y z := by
  have B1 := (Below.refl w.heap.size w).alloc (Nat.le_refl _) (.cells #[p0, p1, p2, p3, p4] 74)
  have T1 := Five.new w p0 p1 p2 p3 p4 w.heap.size rfl
  have B2 := B1.alloc B1.size (.cells #[x, y, z] 70)
  have T2 := Three.new (w.alloc (.cells #[p0, p1, p2, p3, p4] 74)) x y z (w.heap.size + 1) (by simp)
  have S1 := (Below.refl _ (w.alloc (.cells #[p0, p1, p2, p3, p4] 74))).alloc (Nat.le_refl _) (.cells #[x, y, z] 70)
  have S2 := (Below.refl _ ((w.alloc (.cells #[p0, p1, p2, p3, p4] 74)).alloc (.cells #[x, y, z] 70))).alloc (Nat.le_refl _) (.cells #[.int .i64 0, .int .i64 0, .int .i64 0, .int .i64 0, .int .i64 0] 74)
  exact ⟨(T1.step S1).step S2, T2.step S2, Five.new _ _ _ _ _ _ _ (by simp), B2.alloc B2.size _⟩
set_option maxRecDepth 100000 in
set_option maxHeartbeats 4000000 in
theorem orSplit_int (nd f0 f1 f2 mn x y z v : Int) (w : World) (hn : 0 ≤ nd ∧ nd ≤ 20) (hm : 0 ≤ mn ∧ mn ≤ 1000) (hv : 0 ≤ v ∧ v ≤ 20) (R : Value)
    (hR : R = if mn = 0 ∨ v < nd then .agg #[.int .i64 v, .int .i64 x, .int .i64 y, .int .i64 z, .int .i64 1] else if v = nd then .agg #[.int .i64 nd, .int .i64 f0, .int .i64 f1, .int .i64 f2, .int .i64 (mn + 1)] else .agg #[.int .i64 nd, .int .i64 f0, .int .i64 f1, .int .i64 f2, .int .i64 mn]) :
    Calls Try.prog 79 #[.agg #[.int .i64 nd, .int .i64 f0, .int .i64 f1, .int .i64 f2, .int .i64 mn], .agg #[.int .i64 x, .int .i64 y, .int .i64 z], .int .i64 v] w fun e w' => e = .returned R ∧ Below w.heap.size w w' := by
  have HL := Lib.hid (LaidP.new w (.int .i64 nd) (.int .i64 f0) (.int .i64 f1) (.int .i64 f2) (.int .i64 mn) (.int .i64 x) (.int .i64 y) (.int .i64 z))
  have HR := Lib.hid hR
  clear hR
  go_enter Try.func79, Try.ntmps79
  go_upto_region 1 with fail
  generalize ((w.alloc (.cells #[.int .i64 nd, .int .i64 f0, .int .i64 f1, .int .i64 f2, .int .i64 mn] 74)).alloc (.cells #[.int .i64 x, .int .i64 y, .int .i64 z] 70)).alloc (.cells #[.int .i64 0, .int .i64 0, .int .i64 0, .int .i64 0, .int .i64 0] 74) = wa at HL ⊢
  have p0 := HL.out.t1.c0
  have p1 := HL.out.t1.c1
  have p2 := HL.out.t1.c2
  have p3 := HL.out.t1.c3
  have p4 := HL.out.t1.c4
  have q0 := HL.out.t2.c0
  have q1 := HL.out.t2.c1
  have q2 := HL.out.t2.c2
  have r0 := HL.out.t3.c0
  have r1 := HL.out.t3.c1
  have r2 := HL.out.t3.c2
  have r3 := HL.out.t3.c3
  have r4 := HL.out.t3.c4
  have g0 := HL.out.t3.f 0
  have g1 := HL.out.t3.f 1
  have g2 := HL.out.t3.f 2
  have g3 := HL.out.t3.f 3
  have g4 := HL.out.t3.f 4
  by_cases h0 : mn = 0
  · have E : Hid (R = .agg #[.int .i64 v, .int .i64 x, .int .i64 y, .int .i64 z, .int .i64 1]) := Lib.hid (by rw [HR.out, if_pos (.inl h0)])
    go_wp2
    have HF := HL.out.t3.set (.int .i64 v) (.int .i64 x) (.int .i64 y) (.int .i64 z) (.int .i64 1)
    have HBf := below_set5 HL.out.bel (Nat.le_trans (Nat.le_succ _) (Nat.le_succ _) : w.heap.size ≤ w.heap.size + 1 + 1) (.int .i64 v) (.int .i64 x) (.int .i64 y) (.int .i64 z) (.int .i64 1)
    unfold set5 at HF HBf
    generalize (((((wa.setCell ⟨w.heap.size + 1 + 1, 0, none⟩ (.int .i64 v)).setCell ⟨w.heap.size + 1 + 1, 1, none⟩ (.int .i64 x)).setCell ⟨w.heap.size + 1 + 1, 2, none⟩ (.int .i64 y)).setCell ⟨w.heap.size + 1 + 1, 3, none⟩ (.int .i64 z)).setCell ⟨w.heap.size + 1 + 1, 4, none⟩ (.int .i64 1)) = wf at HF HBf ⊢
    have e0 := HF.c0
    have e1 := HF.c1
    have e2 := HF.c2
    have e3 := HF.c3
    have e4 := HF.c4
    refine bodyPost_ret (v := .agg #[.int .i64 v, .int .i64 x, .int .i64 y, .int .i64 z, .int .i64 1]) (by simp [results, go_sem, e0, e1, e2, e3, e4]) rfl ?_
    exact ⟨by rw [E.out], HBf⟩
  · by_cases h1 : v < nd
    · have E : Hid (R = .agg #[.int .i64 v, .int .i64 x, .int .i64 y, .int .i64 z, .int .i64 1]) := Lib.hid (by rw [HR.out, if_pos (.inr h1)])
      go_wp2
      have HF := HL.out.t3.set (.int .i64 v) (.int .i64 x) (.int .i64 y) (.int .i64 z) (.int .i64 1)
      have HBf := below_set5 HL.out.bel (Nat.le_trans (Nat.le_succ _) (Nat.le_succ _) : w.heap.size ≤ w.heap.size + 1 + 1) (.int .i64 v) (.int .i64 x) (.int .i64 y) (.int .i64 z) (.int .i64 1)
      unfold set5 at HF HBf
      generalize (((((wa.setCell ⟨w.heap.size + 1 + 1, 0, none⟩ (.int .i64 v)).setCell ⟨w.heap.size + 1 + 1, 1, none⟩ (.int .i64 x)).setCell ⟨w.heap.size + 1 + 1, 2, none⟩ (.int .i64 y)).setCell ⟨w.heap.size + 1 + 1, 3, none⟩ (.int .i64 z)).setCell ⟨w.heap.size + 1 + 1, 4, none⟩ (.int .i64 1)) = wf at HF HBf ⊢
      have e0 := HF.c0
      have e1 := HF.c1
      have e2 := HF.c2
      have e3 := HF.c3
      have e4 := HF.c4
      refine bodyPost_ret (v := .agg #[.int .i64 v, .int .i64 x, .int .i64 y, .int .i64 z, .int .i64 1]) (by simp [results, go_sem, e0, e1, e2, e3, e4]) rfl ?_
      exact ⟨by rw [E.out], HBf⟩
    · by_cases h2 : v = nd
      · have E : Hid (R = .agg #[.int .i64 nd, .int .i64 f0, .int .i64 f1, .int .i64 f2, .int .i64 (mn + 1)]) := Lib.hid (by rw [HR.out, if_neg (by omega), if_pos h2])
        have gm := HL.out.t1.f 4
        have HS1 := Lib.hid (HL.out.t1.set4 (.int .i64 (mn + 1)))
        have HS3 := Lib.hid (HL.out.t3.far (b := w.heap.size + 1 + 1) (g := w.heap.size) (by omega) 4 (.int .i64 (mn + 1)))
        have HSB := Lib.hid (below_set HL.out.bel (Nat.le_refl _) 4 (.int .i64 (mn + 1)))
        have s0 := HS1.out.c0
        have s1 := HS1.out.c1
        have s2 := HS1.out.c2
        have s3 := HS1.out.c3
        have s4 := HS1.out.c4
        have t0 := HS3.out.c0
        have t1 := HS3.out.c1
        have t2 := HS3.out.c2
        have t3 := HS3.out.c3
        have t4 := HS3.out.c4
        have u0 := HS3.out.f 0
        have u1 := HS3.out.f 1
        have u2 := HS3.out.f 2
        have u3 := HS3.out.f 3
        have u4 := HS3.out.f 4
        go_wp2
        have HF := HS3.out.set (.int .i64 nd) (.int .i64 f0) (.int .i64 f1) (.int .i64 f2) (.int .i64 (mn + 1))
        have HBf := below_set5 HSB.out (Nat.le_trans (Nat.le_succ _) (Nat.le_succ _) : w.heap.size ≤ w.heap.size + 1 + 1) (.int .i64 nd) (.int .i64 f0) (.int .i64 f1) (.int .i64 f2) (.int .i64 (mn + 1))
        unfold set5 at HF HBf
        generalize ((((((wa.setCell ⟨w.heap.size, 4, none⟩ (.int .i64 (mn + 1))).setCell ⟨w.heap.size + 1 + 1, 0, none⟩ (.int .i64 nd)).setCell ⟨w.heap.size + 1 + 1, 1, none⟩ (.int .i64 f0)).setCell ⟨w.heap.size + 1 + 1, 2, none⟩ (.int .i64 f1)).setCell ⟨w.heap.size + 1 + 1, 3, none⟩ (.int .i64 f2)).setCell ⟨w.heap.size + 1 + 1, 4, none⟩ (.int .i64 (mn + 1))) = wf at HF HBf ⊢
        have e0 := HF.c0
        have e1 := HF.c1
        have e2 := HF.c2
        have e3 := HF.c3
        have e4 := HF.c4
        refine bodyPost_ret (v := .agg #[.int .i64 nd, .int .i64 f0, .int .i64 f1, .int .i64 f2, .int .i64 (mn + 1)]) (by simp [results, go_sem, e0, e1, e2, e3, e4]) rfl ?_
        exact ⟨by rw [E.out], HBf⟩
      · have E : Hid (R = .agg #[.int .i64 nd, .int .i64 f0, .int .i64 f1, .int .i64 f2, .int .i64 mn]) := Lib.hid (by rw [HR.out, if_neg (by omega), if_neg h2])
        go_wp2
        have HF := HL.out.t3.set (.int .i64 nd) (.int .i64 f0) (.int .i64 f1) (.int .i64 f2) (.int .i64 mn)
        have HBf := below_set5 HL.out.bel (Nat.le_trans (Nat.le_succ _) (Nat.le_succ _) : w.heap.size ≤ w.heap.size + 1 + 1) (.int .i64 nd) (.int .i64 f0) (.int .i64 f1) (.int .i64 f2) (.int .i64 mn)
        unfold set5 at HF HBf
        generalize (((((wa.setCell ⟨w.heap.size + 1 + 1, 0, none⟩ (.int .i64 nd)).setCell ⟨w.heap.size + 1 + 1, 1, none⟩ (.int .i64 f0)).setCell ⟨w.heap.size + 1 + 1, 2, none⟩ (.int .i64 f1)).setCell ⟨w.heap.size + 1 + 1, 3, none⟩ (.int .i64 f2)).setCell ⟨w.heap.size + 1 + 1, 4, none⟩ (.int .i64 mn)) = wf at HF HBf ⊢
        have e0 := HF.c0
        have e1 := HF.c1
        have e2 := HF.c2
        have e3 := HF.c3
        have e4 := HF.c4
        refine bodyPost_ret (v := .agg #[.int .i64 nd, .int .i64 f0, .int .i64 f1, .int .i64 f2, .int .i64 mn]) (by simp [results, go_sem, e0, e1, e2, e3, e4]) rfl ?_
        exact ⟨by rw [E.out], HBf⟩
theorem orSplit_any (p : Plan) (s : Row) (v : Nat) (w : World) (hn : p.need ≤ 20) (hm : p.many ≤ 1000) (hv : v ≤ 20) :
    Calls Try.prog 79 #[.agg #[.int .i64 (p.need : Int), .int .i64 (p.first.1 : Int), .int .i64 (p.first.2.1 : Int), .int .i64 (p.first.2.2 : Int), .int .i64 (p.many : Int)], .agg #[.int .i64 (s.1 : Int), .int .i64 (s.2.1 : Int), .int .i64 (s.2.2 : Int)], .int .i64 (v : Int)] w fun e w' =>
      e = .returned (.agg #[.int .i64 ((p.or s v).need : Int), .int .i64 ((p.or s v).first.1 : Int), .int .i64 ((p.or s v).first.2.1 : Int), .int .i64 ((p.or s v).first.2.2 : Int), .int .i64 ((p.or s v).many : Int)]) ∧ Below w.heap.size w w' := by
  refine orSplit_int _ _ _ _ _ _ _ _ _ w (by omega) (by omega) (by omega) _ ?_
  unfold Plan.or
  by_cases h0 : p.many = 0 ∨ v < p.need
  · have hI : (p.many : Int) = 0 ∨ (v : Int) < (p.need : Int) := by omega
    rw [if_pos h0, if_pos hI]
    rfl
  · have hI : ¬ ((p.many : Int) = 0 ∨ (v : Int) < (p.need : Int)) := by omega
    rw [if_neg h0, if_neg hI]
    by_cases h2 : v = p.need
    · have hJ : (v : Int) = (p.need : Int) := by omega
      rw [if_pos h2, if_pos hJ]
      simp
    · have hJ : ¬ ((v : Int) = (p.need : Int)) := by omega
      rw [if_neg h2, if_neg hJ]
end Go.Proofs.Ythpnkeecpaflfaa
