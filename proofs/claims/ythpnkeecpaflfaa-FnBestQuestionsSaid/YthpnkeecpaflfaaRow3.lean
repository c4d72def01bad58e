/- Rows of three: blocks that hold them, told, what a split leaves. -/
import Derived.Test.YthpnkeecpaflfaaPlanM
import Derived.Deep.RegionHeld3
namespace Go.Proofs.Ythpnkeecpaflfaa
open Go.RowKit Go.ChangeShapes Go.WideShapes
set_option linter.unusedVariables false

structure Three (w : World) (b : Nat) (x y z : Value) : Prop where
  row : w.heap[b]? = some (.cells #[x, y, z] 70 (0, 0))
theorem Three.lt {w : World} {b : Nat} {x y z : Value} (h : Three w b x y z) : b < w.heap.size := row_ltI h.row
theorem Three.step {w w' : World} {b : Nat} {x y z : Value} (h : Three w b x y z) (hb : Below w.heap.size w w') : Three w' b x y z := ⟨(hb.block b h.lt).trans h.row⟩
theorem Three.below {w w' : World} {b B : Nat} {x y z : Value} (h : Three w b x y z) (hb : Below B w w') (hl : b < B) : Three w' b x y z := ⟨(hb.block b hl).trans h.row⟩
theorem Three.within {w w' : World} {b lo hi : Nat} {x y z : Value} (h : Three w b x y z) (hb : Within lo hi w w') (hd : b < lo ∨ hi ≤ b) : Three w' b x y z := ⟨(hb.block b h.lt hd).trans h.row⟩
theorem Three.drew {w : World} {b : Nat} {x y z : Value} (h : Three w b x y z) : Three w.drew b x y z := ⟨h.row⟩
theorem Three.new (w : World) (x y z : Value) (b : Nat) (hb : b = w.heap.size) : Three (w.alloc (.cells #[x, y, z] 70)) b x y z := ⟨alloc_row' _ _ _ _ hb⟩
theorem three0 {w : World} {b : Nat} {x y z : Value} {t : TypeId} (h : w.heap[b]? = some (.cells #[x, y, z] t (0, 0))) : w.cell? ⟨b, 0, none⟩ = some x := by rw [row_cellI h]; rfl
theorem three1 {w : World} {b : Nat} {x y z : Value} {t : TypeId} (h : w.heap[b]? = some (.cells #[x, y, z] t (0, 0))) : w.cell? ⟨b, 1, none⟩ = some y := by rw [row_cellI h]; rfl
theorem three2 {w : World} {b : Nat} {x y z : Value} {t : TypeId} (h : w.heap[b]? = some (.cells #[x, y, z] t (0, 0))) : w.cell? ⟨b, 2, none⟩ = some z := by rw [row_cellI h]; rfl
theorem Three.c0 {w : World} {b : Nat} {x y z : Value} (h : Three w b x y z) : w.cell? ⟨b, 0, none⟩ = some x := three0 h.row
theorem Three.c1 {w : World} {b : Nat} {x y z : Value} (h : Three w b x y z) : w.cell? ⟨b, 1, none⟩ = some y := three1 h.row
theorem Three.c2 {w : World} {b : Nat} {x y z : Value} (h : Three w b x y z) : w.cell? ⟨b, 2, none⟩ = some z := three2 h.row
theorem Three.f {w : World} {b : Nat} {x y z : Value} (h : Three w b x y z) (i : Nat) : w.frozen? ⟨b, i, none⟩ = false := row_freeI h.row i
theorem Three.set0 {w : World} {b : Nat} {x y z : Value} (h : Three w b x y z) (u : Value) : Three (w.setCell ⟨b, 0, none⟩ u) b u y z := ⟨by simpa using row_setI h.row 0 u⟩
theorem Three.set1 {w : World} {b : Nat} {x y z : Value} (h : Three w b x y z) (u : Value) : Three (w.setCell ⟨b, 1, none⟩ u) b x u z := ⟨by simpa using row_setI h.row 1 u⟩
theorem Three.set2 {w : World} {b : Nat} {x y z : Value} (h : Three w b x y z) (u : Value) : Three (w.setCell ⟨b, 2, none⟩ u) b x y u := ⟨by simpa using row_setI h.row 2 u⟩
theorem Three.far {w : World} {b g : Nat} {x y z : Value} (h : Three w b x y z) (hne : b ≠ g) (i : Nat) (u : Value) : Three (w.setCell ⟨g, i, none⟩ u) b x y z := ⟨(Below.heap_setCell w ⟨g, i, none⟩ u b hne).trans h.row⟩
theorem below_set {B g : Nat} {a w : World} (h : Below B a w) (hg : B ≤ g) (i : Nat) (u : Value) : Below B a (w.setCell ⟨g, i, none⟩ u) :=
  ⟨h.os, h.tape, h.output, by simpa [World.setCell] using h.size, fun j hj => (Below.heap_setCell w ⟨g, i, none⟩ u j (fun e => by have e' : j = g := e; omega)).trans (h.block j hj)⟩
theorem below_set3 {B g : Nat} {a w : World} (h : Below B a w) (hg : B ≤ g) (x y z : Value) : Below B a (((w.setCell ⟨g, 0, none⟩ x).setCell ⟨g, 1, none⟩ y).setCell ⟨g, 2, none⟩ z) := below_set (below_set (below_set h hg _ _) hg _ _) hg _ _
theorem Three.set {w : World} {b : Nat} {x y z : Value} (h : Three w b x y z) (u v t : Value) : Three (((w.setCell ⟨b, 0, none⟩ u).setCell ⟨b, 1, none⟩ v).setCell ⟨b, 2, none⟩ t) b u v t := ((h.set0 u).set1 v).set2 t
theorem Three.far3 {w : World} {b g : Nat} {x y z : Value} (h : Three w b x y z) (hne : b ≠ g) (u v t : Value) : Three (((w.setCell ⟨g, 0, none⟩ u).setCell ⟨g, 1, none⟩ v).setCell ⟨g, 2, none⟩ t) b x y z := ((h.far hne _ _).far hne _ _).far hne _ _
theorem below_drew {B : Nat} {a w : World} (h : Below B a w) : Below B a w.drew := ⟨h.os, h.tape, h.output, h.size, h.block⟩

theorem index_row (xs : Array Value) (j : Nat) (v : Value) (h : xs.size = 3) (hj : xs[j]? = some v) (w : World) :
    (Instr.index 70 (.agg xs) (.int .i64 (j : Int))).run Try.prog w = .ok v w := by
  have hl : j < 3 := by
    rcases Nat.lt_or_ge j 3 with h1 | h1
    · exact h1
    · rw [Array.getElem?_eq_none (by omega)] at hj; cases hj
  have he : Try.prog.plainKey 3 = true := by kernel_rfl
  have hp := run_part_plain (P := Try.prog) w he hj
  simp [Instr.index, run_underlying under_row, hp, asIntOf, Result.andThen, hl]
theorem wpList_index_row (w : World) {ops : Array Oper} {rest : List Oper} {o : Oper} {a : Act} {Q : Exit → Act → World → Prop}
    (hg : o.guard = none) (x i : Operand) (hop : o.op = Op.index 70 x i) (xs : Array Value) (j : Nat) (v : Value) (hx : a.eval x = .agg xs) (hi : a.eval i = .int .i64 (j : Int)) (hs : xs.size = 3) (hv : xs[j]? = some v)
    (hK : wpList Try.prog ops Q rest (a.put o.dst v) w) : wpList Try.prog ops Q (o :: rest) a w := by
  refine wpList_plain hg fun K' hK' => ?_
  have hr := index_row xs j v hs hv w
  unfold Oper.wp
  simp [execOp, hop, hx, hi, hr, Result.andThen]
  exact hK' _ _ hK
set_option maxRecDepth 100000 in
set_option maxHeartbeats 2000000 in
theorem isTold_int (a b c : Int) (w : World) (ha : 0 ≤ a ∧ a ≤ 8) (hb : 0 ≤ b ∧ b ≤ 8) (hc : 0 ≤ c ∧ c ≤ 8) :
    Calls Try.prog 54 #[.agg #[.int .i64 a, .int .i64 b, .int .i64 c]] w fun e w' => e = .returned (.bool (decide (a + b + c ≤ 1))) ∧ Below w.heap.size w w' := by
  have HT := Lib.hid (Three.new w (.int .i64 a) (.int .i64 b) (.int .i64 c) w.heap.size rfl)
  have HB := Lib.hid ((Below.refl w.heap.size w).alloc (Nat.le_refl _) (.cells #[.int .i64 a, .int .i64 b, .int .i64 c] 70))
  have h0 := HT.out.c0
  have h1 := HT.out.c1
  have h2 := HT.out.c2
  go_enter Try.func54, Try.ntmps54
  go_wp2_with fail
  generalize w.alloc (.cells #[.int .i64 a, .int .i64 b, .int .i64 c] 70) = wa at HT HB h0 h1 h2 ⊢
  go_loopw [3, 7] (fun s i wr => ∃ (k : Nat) (x : Int), k ≤ 3 ∧ i = .int .i64 k ∧ s = .int .i64 x ∧ Hid (x = if k = 0 then 0 else if k = 1 then a else if k = 2 then a + b else a + b + c) ∧ wr = wa) (fun _ i _ => 3 - (intOf i).toNat)
  case atStart => exact ⟨0, 0, Nat.zero_le _, rfl, rfl, rfl, by first | trivial | rfl⟩
  case round =>
    obtain ⟨k, x, hk, rfl, rfl, HX, rfl⟩ := hrel
    by_cases k0 : k = 0
    · subst k0
      have hx : x = 0 := HX.out
      subst hx
      go_wp2_with (with_reducible refine wpList_index_row (o := ⟨some 9, _, _, _, _, _⟩) _ rfl (.tmp 6) (.tmp 7) rfl #[.int .i64 a, .int .i64 b, .int .i64 c] 0 _ rfl rfl rfl rfl ?_)
      go_roundw
      case rel => exact ⟨1, a, by omega, by go_num, by go_num, Lib.hid (by simp), by first | trivial | rfl⟩
      case measure => simp [intOf]
    · by_cases k1 : k = 1
      · subst k1
        obtain rfl : x = a := HX.out
        go_wp2_with (with_reducible refine wpList_index_row (o := ⟨some 9, _, _, _, _, _⟩) _ rfl (.tmp 6) (.tmp 7) rfl #[.int .i64 x, .int .i64 b, .int .i64 c] 1 _ rfl rfl rfl rfl ?_)
        go_roundw
        case rel => exact ⟨2, _, by omega, by go_num, rfl, Lib.hid (by simp), by first | trivial | rfl⟩
        case measure => simp [intOf]
      · by_cases k2 : k = 2
        · subst k2
          have hx : x = a + b := HX.out
          subst hx
          go_wp2_with (with_reducible refine wpList_index_row (o := ⟨some 9, _, _, _, _, _⟩) _ rfl (.tmp 6) (.tmp 7) rfl #[.int .i64 a, .int .i64 b, .int .i64 c] 2 _ rfl rfl rfl rfl ?_)
          go_roundw
          case rel => exact ⟨3, _, by omega, by go_num, rfl, Lib.hid (by simp), by first | trivial | rfl⟩
          case measure => simp [intOf]
        · obtain rfl : k = 3 := by omega
          have hx : x = a + b + c := HX.out
          subst hx
          go_wp2
          go_ret
          exact ⟨rfl, HB.out⟩
theorem isTold_any (r : Row) (w : World) (h8 : rsum r ≤ 8) :
    Calls Try.prog 54 #[.agg #[.int .i64 (r.1 : Int), .int .i64 (r.2.1 : Int), .int .i64 (r.2.2 : Int)]] w fun e w' => e = .returned (.bool (decide (rsum r ≤ 1))) ∧ Below w.heap.size w w' := by
  unfold rsum at *
  refine (isTold_int r.1 r.2.1 r.2.2 w (by omega) (by omega) (by omega)).mono ?_
  rintro e w' ⟨rfl, hb⟩
  refine ⟨?_, hb⟩
  rw [show (decide ((r.1 : Int) + r.2.1 + r.2.2 ≤ 1)) = decide (r.1 + r.2.1 + r.2.2 ≤ 1) by rw [Bool.eq_iff_iff, decide_eq_true_iff, decide_eq_true_iff]; omega]

set_option maxRecDepth 100000 in
set_option maxHeartbeats 4000000 in
theorem leavesOf_int (a b c x y z : Int) (w : World) (ha : 0 ≤ a ∧ a ≤ 8) (hb : 0 ≤ b ∧ b ≤ 8) (hc : 0 ≤ c ∧ c ≤ 8) (hx : 0 ≤ x ∧ x ≤ 8) (hy : 0 ≤ y ∧ y ≤ 8) (hz : 0 ≤ z ∧ z ≤ 8) :
    Calls Try.prog 81 #[.agg #[.int .i64 a, .int .i64 b, .int .i64 c], .agg #[.int .i64 x, .int .i64 y, .int .i64 z]] w fun e w' => e = .returned (.agg #[.int .i64 (a - x), .int .i64 (b - y), .int .i64 (c - z)]) ∧ Below w.heap.size w w' := by
  have B1 := (Below.refl w.heap.size w).alloc (Nat.le_refl _) (.cells #[.int .i64 a, .int .i64 b, .int .i64 c] 70)
  have T1 := Three.new w (.int .i64 a) (.int .i64 b) (.int .i64 c) w.heap.size rfl
  have B2 := B1.alloc B1.size (.cells #[.int .i64 x, .int .i64 y, .int .i64 z] 70)
  have T2 := Three.new (w.alloc (.cells #[.int .i64 a, .int .i64 b, .int .i64 c] 70)) (.int .i64 x) (.int .i64 y) (.int .i64 z) (w.heap.size + 1) (by simp)
  have S1 := (Below.refl _ (w.alloc (.cells #[.int .i64 a, .int .i64 b, .int .i64 c] 70))).alloc (Nat.le_refl _) (.cells #[.int .i64 x, .int .i64 y, .int .i64 z] 70)
  have S2 := (Below.refl _ ((w.alloc (.cells #[.int .i64 a, .int .i64 b, .int .i64 c] 70)).alloc (.cells #[.int .i64 x, .int .i64 y, .int .i64 z] 70))).alloc (Nat.le_refl _) (.cells #[.int .i64 0, .int .i64 0, .int .i64 0] 70)
  have HT1 := Lib.hid ((T1.step S1).step S2)
  have HT2 := Lib.hid (T2.step S2)
  have HB := Lib.hid (B2.alloc B2.size (.cells #[.int .i64 0, .int .i64 0, .int .i64 0] 70))
  have HT3 := Lib.hid (Three.new ((w.alloc (.cells #[.int .i64 a, .int .i64 b, .int .i64 c] 70)).alloc (.cells #[.int .i64 x, .int .i64 y, .int .i64 z] 70)) (.int .i64 0) (.int .i64 0) (.int .i64 0) (w.heap.size + 1 + 1) (by simp))
  clear B1 T1 B2 T2 S1 S2
  go_enter Try.func81, Try.ntmps81
  go_wp2_with fail
  generalize ((w.alloc (.cells #[.int .i64 a, .int .i64 b, .int .i64 c] 70)).alloc (.cells #[.int .i64 x, .int .i64 y, .int .i64 z] 70)).alloc (.cells #[.int .i64 0, .int .i64 0, .int .i64 0] 70) = wa at HT1 HT2 HT3 HB ⊢
  go_loopw [6] (fun i wr => ∃ (k : Nat), k ≤ 3 ∧ i = .int .i64 k ∧ Hid (Three wr w.heap.size (.int .i64 (if 0 < k then a - x else a)) (.int .i64 (if 1 < k then b - y else b)) (.int .i64 (if 2 < k then c - z else c))) ∧ Hid (Three wr (w.heap.size + 1) (.int .i64 x) (.int .i64 y) (.int .i64 z)) ∧ Hid (Three wr (w.heap.size + 1 + 1) (.int .i64 0) (.int .i64 0) (.int .i64 0)) ∧ Hid (Below w.heap.size w wr)) (fun i _ => 3 - (intOf i).toNat)
  case atStart => exact ⟨0, Nat.zero_le _, rfl, by simpa using HT1, HT2, HT3, HB⟩
  case round =>
    clear HT1 HT2 HT3 HB
    obtain ⟨k, hk, rfl, HT1, HT2, HT3, HB⟩ := hrel
    have q0 := HT2.out.c0
    have q1 := HT2.out.c1
    have q2 := HT2.out.c2
    by_cases k0 : k = 0
    · subst k0
      simp only [Nat.lt_irrefl, Nat.not_lt_zero, if_false] at HT1
      have p0 := HT1.out.c0
      have f0 := HT1.out.f 0
      go_wp2_with fail
      go_region_with (fail)
      all_goals
        go_wp2
        go_roundw
        case rel => exact ⟨1, by omega, by go_num, by simpa using Lib.hid ((HT1.out.set0 (.int .i64 (a - x))).drew), Lib.hid ((HT2.out.far (by omega) _ _).drew), Lib.hid ((HT3.out.far (by omega) _ _).drew), Lib.hid (below_drew (below_set HB.out (Nat.le_refl _) _ _))⟩
        case measure => simp [intOf]
    · by_cases k1 : k = 1
      · subst k1
        simp only [Nat.lt_irrefl, Nat.zero_lt_one, if_false, if_true, show ¬ (2 < 1) by decide] at HT1
        have p1 := HT1.out.c1
        have f1 := HT1.out.f 1
        go_wp2_with fail
        go_region_with (fail)
        all_goals
          go_wp2
          go_roundw
          case rel => exact ⟨2, by omega, by go_num, by simpa using Lib.hid ((HT1.out.set1 (.int .i64 (b - y))).drew), Lib.hid ((HT2.out.far (by omega) _ _).drew), Lib.hid ((HT3.out.far (by omega) _ _).drew), Lib.hid (below_drew (below_set HB.out (Nat.le_refl _) _ _))⟩
          case measure => simp [intOf]
      · by_cases k2 : k = 2
        · subst k2
          simp only [Nat.lt_irrefl, show (0 < 2) by decide, show (1 < 2) by decide, if_false, if_true] at HT1
          have p2 := HT1.out.c2
          have f2 := HT1.out.f 2
          go_wp2_with fail
          go_region_with (fail)
          all_goals
            go_wp2
            go_roundw
            case rel => exact ⟨3, by omega, by go_num, by simpa using Lib.hid ((HT1.out.set2 (.int .i64 (c - z))).drew), Lib.hid ((HT2.out.far (by omega) _ _).drew), Lib.hid ((HT3.out.far (by omega) _ _).drew), Lib.hid (below_drew (below_set HB.out (Nat.le_refl _) _ _))⟩
            case measure => simp [intOf]
        · obtain rfl : k = 3 := by omega
          simp only [show (0 < 3) by decide, show (1 < 3) by decide, show (2 < 3) by decide, if_true] at HT1
          have p0 := HT1.out.c0
          have p1 := HT1.out.c1
          have p2 := HT1.out.c2
          have r0 := HT3.out.c0
          have r1 := HT3.out.c1
          have r2 := HT3.out.c2
          have f0 := HT3.out.f 0
          have f1 := HT3.out.f 1
          have f2 := HT3.out.f 2
          go_wp2
          have HR := HT3.out.set (.int .i64 (a - x)) (.int .i64 (b - y)) (.int .i64 (c - z))
          have HBf := below_set3 HB.out (Nat.le_trans (Nat.le_succ _) (Nat.le_succ _) : w.heap.size ≤ w.heap.size + 1 + 1) (.int .i64 (a - x)) (.int .i64 (b - y)) (.int .i64 (c - z))
          generalize (((wr.setCell ⟨w.heap.size + 1 + 1, 0, none⟩ (.int .i64 (a - x))).setCell ⟨w.heap.size + 1 + 1, 1, none⟩ (.int .i64 (b - y))).setCell ⟨w.heap.size + 1 + 1, 2, none⟩ (.int .i64 (c - z))) = wf at HR HBf ⊢
          have e0 := HR.c0
          have e1 := HR.c1
          have e2 := HR.c2
          refine bodyPost_ret (v := .agg #[.int .i64 (a - x), .int .i64 (b - y), .int .i64 (c - z)]) (by simp [results, go_sem, e0, e1, e2]) rfl ?_
          exact ⟨rfl, HBf⟩
end Go.Proofs.Ythpnkeecpaflfaa
