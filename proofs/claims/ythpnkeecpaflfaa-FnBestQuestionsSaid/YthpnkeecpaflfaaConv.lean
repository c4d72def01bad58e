/- From lists to rows and back. -/
import Derived.Test.YthpnkeecpaflfaaRow3
import Derived.Test.YthpnkeecpaflfaaCopy
namespace Go.Proofs.Ythpnkeecpaflfaa
open Go.RowKit Go.ChangeShapes Go.WideShapes
set_option linter.unusedVariables false

set_option maxRecDepth 100000 in
set_option maxHeartbeats 4000000 in
theorem rowOf_any (A : Option Addr) (cap lo hi p : Nat) (r : Row) (w : World) (hS : Ins w lo hi A (lstR p r)) (hw : Wide p r) :
    Calls Try.prog 46 #[.slice A p cap] w fun e w' => e = .returned (.agg #[.int .i64 (r.1 : Int), .int .i64 (r.2.1 : Int), .int .i64 (r.2.2 : Int)]) ∧ Below w.heap.size w w' := by
  have B1 := (Below.refl w.heap.size w).alloc (Nat.le_refl _) (.cells #[.int .i64 0, .int .i64 0, .int .i64 0] 70)
  have T1 := Three.new w (.int .i64 0) (.int .i64 0) (.int .i64 0) w.heap.size rfl
  have B2 := B1.alloc B1.size (.cells #[.int .i64 0, .int .i64 0, .int .i64 0] 70)
  have HT2 := Lib.hid (Three.new (w.alloc (.cells #[.int .i64 0, .int .i64 0, .int .i64 0] 70)) (.int .i64 0) (.int .i64 0) (.int .i64 0) (w.heap.size + 1) (by simp))
  have S1 := (Below.refl _ (w.alloc (.cells #[.int .i64 0, .int .i64 0, .int .i64 0] 70))).alloc (Nat.le_refl _) (.cells #[.int .i64 0, .int .i64 0, .int .i64 0] 70)
  have HT1 := Lib.hid (T1.step S1)
  have HB := Lib.hid B2
  have hlen := lstR_len hw
  have hp := hw.le
  obtain ⟨b, o, rfl, _, hb, hc⟩ := (hS.step B2).ints (by omega)
  have HN := Lib.hid (Ints.add hc)
  have HO1 := Lib.hid (ones (lstR p r))
  have HD : Hid (splice [Value.int .i64 0, Value.int .i64 0, Value.int .i64 0] (3 - p) ((lstR p r).map (Value.int .i64)) = [.int .i64 (r.1 : Int), .int .i64 (r.2.1 : Int), .int .i64 (r.2.2 : Int)]) := Lib.hid (by
    obtain ⟨x, y, z⟩ := r
    rcases hw with ⟨h, h1, h2⟩ | ⟨h, h1⟩ | h <;> subst h <;> simp_all [lstR, splice] <;> rfl)
  clear hS hc B1 T1 B2 S1
  generalize (r.1 : Int) = x at HD ⊢
  generalize (r.2.1 : Int) = y at HD ⊢
  generalize (r.2.2 : Int) = z at HD ⊢
  obtain rfl | rfl | rfl : p = 1 ∨ p = 2 ∨ p = 3 := by omega
  · go_enter Try.func46, Try.ntmps46
    go_wp2_with (with_reducible refine wpList_copy_splice (o := ⟨some 9, _, _, _, _, _⟩) rfl (.tmp 7) (.tmp 8) 24 24 rfl 3 Try.underlying24 sz1 (some ⟨w.heap.size + 1, 2, none⟩) (some ⟨b, o, none⟩) 1 1 1 cap rfl rfl (w.heap.size + 1) 2 [Value.int .i64 0, Value.int .i64 0, Value.int .i64 0] 70 HT2.out.row ((lstR 1 r).map (Value.int .i64)) (by simp [hlen]) (fun _ => ⟨rfl, _, rfl, HN.out⟩) (by simp [hlen]) HO1.out (w.heap.size + 1) _ (Below.refl _ _) (Nat.le_refl _) ?_; intro w2 HG2 hB2; have HU2 : Hid (Three w2 (w.heap.size + 1) (.int .i64 x) (.int .i64 y) (.int .i64 z)) := Lib.hid ⟨by have h := HG2.out; rw [show 3 - 1 = 2 from rfl] at HD; rw [HD.out] at h; exact h⟩; have HU1 := Lib.hid (HT1.out.below hB2 (Nat.lt_succ_self _)); have HB2 := Lib.hid (HB.out.trans (hB2.mono (Nat.le_succ _))); have p0 := HU2.out.c0; have p1 := HU2.out.c1; have p2 := HU2.out.c2; have q0 := HU1.out.c0; have q1 := HU1.out.c1; have q2 := HU1.out.c2; have f0 := HU1.out.f 0; have f1 := HU1.out.f 1; have f2 := HU1.out.f 2; clear hB2)
    have HR := HU1.out.set (.int .i64 x) (.int .i64 y) (.int .i64 z)
    have HBf := below_set3 HB2.out (Nat.le_refl _) (.int .i64 x) (.int .i64 y) (.int .i64 z)
    generalize (((w2.setCell ⟨w.heap.size, 0, none⟩ (.int .i64 x)).setCell ⟨w.heap.size, 1, none⟩ (.int .i64 y)).setCell ⟨w.heap.size, 2, none⟩ (.int .i64 z)) = wf at HR HBf ⊢
    have e0 := HR.c0
    have e1 := HR.c1
    have e2 := HR.c2
    refine bodyPost_ret (v := .agg #[.int .i64 x, .int .i64 y, .int .i64 z]) (by simp [results, go_sem, e0, e1, e2]) rfl ?_
    exact ⟨rfl, HBf⟩
  · go_enter Try.func46, Try.ntmps46
    go_wp2_with (with_reducible refine wpList_copy_splice (o := ⟨some 9, _, _, _, _, _⟩) rfl (.tmp 7) (.tmp 8) 24 24 rfl 3 Try.underlying24 sz1 (some ⟨w.heap.size + 1, 1, none⟩) (some ⟨b, o, none⟩) 2 2 2 cap rfl rfl (w.heap.size + 1) 1 [Value.int .i64 0, Value.int .i64 0, Value.int .i64 0] 70 HT2.out.row ((lstR 2 r).map (Value.int .i64)) (by simp [hlen]) (fun _ => ⟨rfl, _, rfl, HN.out⟩) (by simp [hlen]) HO1.out (w.heap.size + 1) _ (Below.refl _ _) (Nat.le_refl _) ?_; intro w2 HG2 hB2; have HU2 : Hid (Three w2 (w.heap.size + 1) (.int .i64 x) (.int .i64 y) (.int .i64 z)) := Lib.hid ⟨by have h := HG2.out; rw [show 3 - 2 = 1 from rfl] at HD; rw [HD.out] at h; exact h⟩; have HU1 := Lib.hid (HT1.out.below hB2 (Nat.lt_succ_self _)); have HB2 := Lib.hid (HB.out.trans (hB2.mono (Nat.le_succ _))); have p0 := HU2.out.c0; have p1 := HU2.out.c1; have p2 := HU2.out.c2; have q0 := HU1.out.c0; have q1 := HU1.out.c1; have q2 := HU1.out.c2; have f0 := HU1.out.f 0; have f1 := HU1.out.f 1; have f2 := HU1.out.f 2; clear hB2)
    have HR := HU1.out.set (.int .i64 x) (.int .i64 y) (.int .i64 z)
    have HBf := below_set3 HB2.out (Nat.le_refl _) (.int .i64 x) (.int .i64 y) (.int .i64 z)
    generalize (((w2.setCell ⟨w.heap.size, 0, none⟩ (.int .i64 x)).setCell ⟨w.heap.size, 1, none⟩ (.int .i64 y)).setCell ⟨w.heap.size, 2, none⟩ (.int .i64 z)) = wf at HR HBf ⊢
    have e0 := HR.c0
    have e1 := HR.c1
    have e2 := HR.c2
    refine bodyPost_ret (v := .agg #[.int .i64 x, .int .i64 y, .int .i64 z]) (by simp [results, go_sem, e0, e1, e2]) rfl ?_
    exact ⟨rfl, HBf⟩
  · go_enter Try.func46, Try.ntmps46
    go_wp2_with (with_reducible refine wpList_copy_splice (o := ⟨some 9, _, _, _, _, _⟩) rfl (.tmp 7) (.tmp 8) 24 24 rfl 3 Try.underlying24 sz1 (some ⟨w.heap.size + 1, 0, none⟩) (some ⟨b, o, none⟩) 3 3 3 cap rfl rfl (w.heap.size + 1) 0 [Value.int .i64 0, Value.int .i64 0, Value.int .i64 0] 70 HT2.out.row ((lstR 3 r).map (Value.int .i64)) (by simp [hlen]) (fun _ => ⟨rfl, _, rfl, HN.out⟩) (by simp [hlen]) HO1.out (w.heap.size + 1) _ (Below.refl _ _) (Nat.le_refl _) ?_; intro w2 HG2 hB2; have HU2 : Hid (Three w2 (w.heap.size + 1) (.int .i64 x) (.int .i64 y) (.int .i64 z)) := Lib.hid ⟨by have h := HG2.out; rw [show 3 - 3 = 0 from rfl] at HD; rw [HD.out] at h; exact h⟩; have HU1 := Lib.hid (HT1.out.below hB2 (Nat.lt_succ_self _)); have HB2 := Lib.hid (HB.out.trans (hB2.mono (Nat.le_succ _))); have p0 := HU2.out.c0; have p1 := HU2.out.c1; have p2 := HU2.out.c2; have q0 := HU1.out.c0; have q1 := HU1.out.c1; have q2 := HU1.out.c2; have f0 := HU1.out.f 0; have f1 := HU1.out.f 1; have f2 := HU1.out.f 2; clear hB2)
    have HR := HU1.out.set (.int .i64 x) (.int .i64 y) (.int .i64 z)
    have HBf := below_set3 HB2.out (Nat.le_refl _) (.int .i64 x) (.int .i64 y) (.int .i64 z)
    generalize (((w2.setCell ⟨w.heap.size, 0, none⟩ (.int .i64 x)).setCell ⟨w.heap.size, 1, none⟩ (.int .i64 y)).setCell ⟨w.heap.size, 2, none⟩ (.int .i64 z)) = wf at HR HBf ⊢
    have e0 := HR.c0
    have e1 := HR.c1
    have e2 := HR.c2
    refine bodyPost_ret (v := .agg #[.int .i64 x, .int .i64 y, .int .i64 z]) (by simp [results, go_sem, e0, e1, e2]) rfl ?_
    exact ⟨rfl, HBf⟩
theorem add_off (b off j : Nat) : Addr.add ⟨b, off, none⟩ j = ⟨b, off + j, none⟩ := by
  by_cases h : j = 0
  · subst h; simp [Addr.add]
  · simp [Addr.add, h]
theorem splice_all {cur cs : List Value} (h : cs.length = cur.length) : splice cur 0 cs = cs := by
  simp [splice, h]
set_option maxRecDepth 100000 in
set_option maxHeartbeats 4000000 in
theorem listOf_any (p : Nat) (r : Row) (w : World) (hw : Wide p r) :
    Calls Try.prog 49 #[.agg #[.int .i64 (r.1 : Int), .int .i64 (r.2.1 : Int), .int .i64 (r.2.2 : Int)], .int .i64 (p : Int)] w fun e w' => ∃ g, e = .returned (.slice (some ⟨g, 0, none⟩) p p) ∧ w.heap.size ≤ g ∧ w'.heap[g]? = some (.cells ((lstR p r).map (Value.int .i64)).toArray 3 (0, 0)) ∧ Below w.heap.size w w' := by
  have hlen := lstR_len hw
  have hp := hw.le
  have HO1 := Lib.hid (ones (lstR p r))
  have HD : Hid (∀ off, off ≤ 3 → ∀ j, ((lstR (3 - off) r).map (Value.int .i64))[j]? = (#[Value.int .i64 (r.1 : Int), .int .i64 (r.2.1 : Int), .int .i64 (r.2.2 : Int)])[off + j]?) := Lib.hid (fun off ho j => by
    have e : 3 - (3 - off) = off := by omega
    simp only [lstR, e, List.getElem?_map, List.getElem?_drop]
    rw [← List.getElem?_map]
    simp)
  generalize hx : (r.1 : Int) = x at HD ⊢
  generalize hy : (r.2.1 : Int) = y at HD ⊢
  generalize hz : (r.2.2 : Int) = z at HD ⊢
  have HT := Lib.hid (Three.new w (.int .i64 x) (.int .i64 y) (.int .i64 z) w.heap.size rfl)
  have HB := Lib.hid ((Below.refl w.heap.size w).alloc (Nat.le_refl _) (.cells #[.int .i64 x, .int .i64 y, .int .i64 z] 70))
  clear hx hy hz
  obtain rfl | rfl | rfl : p = 1 ∨ p = 2 ∨ p = 3 := by omega
  · have hmk : ∀ W : World, (Instr.makeSlice 24 (.int .i64 1) (.int .i64 1)).run Try.prog W = .ok (.slice (some ⟨W.heap.size, 0, none⟩) 1 1) (W.alloc (.cells #[.int .i64 0] 3)) := fun W => by
      have := makeInts 1 (by omega) W
      simpa [List.replicate] using this
    have HS1 := Lib.hid (HT.out.step ((Below.refl _ (w.alloc (.cells #[.int .i64 x, .int .i64 y, .int .i64 z] 70))).alloc (Nat.le_refl _) (.cells #[.int .i64 0] 3)))
    have HG := Lib.hid (alloc_row' (w.alloc (.cells #[.int .i64 x, .int .i64 y, .int .i64 z] 70)) #[.int .i64 0] 3 (w.heap.size + 1) (by simp))
    have HB2 := Lib.hid (HB.out.alloc HB.out.size (.cells #[.int .i64 0] 3))
    have HN : Hid (∀ j v, ((lstR 1 r).map (Value.int .i64))[j]? = some v → ((w.alloc (.cells #[.int .i64 x, .int .i64 y, .int .i64 z] 70)).alloc (.cells #[.int .i64 0] 3)).cell? (Addr.add ⟨w.heap.size, 2, none⟩ j) = some v) := Lib.hid (fun j v hv => by
      have hrow := row_cellI HS1.out.row (i := 2 + j)
      rw [← HD.out 2 (by omega) j, show 3 - 2 = 1 from rfl, hv] at hrow
      rw [add_off]
      exact hrow)
    go_enter Try.func49, Try.ntmps49
    go_wp2_with (with_reducible refine wpList_copy_splice (o := ⟨some 12, _, _, _, _, _⟩) rfl (.tmp 8) (.tmp 11) 24 24 rfl 3 Try.underlying24 sz1 (some ⟨w.heap.size + 1, 0, none⟩) (some ⟨w.heap.size, 2, none⟩) 1 1 1 1 rfl rfl (w.heap.size + 1) 0 [Value.int .i64 0] 3 HG.out ((lstR 1 r).map (Value.int .i64)) (by simp [hlen]) (fun _ => ⟨rfl, _, rfl, HN.out⟩) (by simp [hlen]) HO1.out (w.heap.size + 1) _ (Below.refl _ _) (Nat.le_refl _) ?_; intro w2 HG2 hB2; have HB3 := Lib.hid (HB2.out.trans (hB2.mono (Nat.le_succ _))); have HR := Lib.hid HG2.out; clear hB2 hmk)
    go_ret
    exact ⟨_, rfl, Nat.le_succ _, by have h := HR.out; rw [splice_all (by simp [hlen])] at h; exact h, HB3.out⟩
  · have hmk : ∀ W : World, (Instr.makeSlice 24 (.int .i64 2) (.int .i64 2)).run Try.prog W = .ok (.slice (some ⟨W.heap.size, 0, none⟩) 2 2) (W.alloc (.cells #[.int .i64 0, .int .i64 0] 3)) := fun W => by
      have := makeInts 2 (by omega) W
      simpa [List.replicate] using this
    have HS1 := Lib.hid (HT.out.step ((Below.refl _ (w.alloc (.cells #[.int .i64 x, .int .i64 y, .int .i64 z] 70))).alloc (Nat.le_refl _) (.cells #[.int .i64 0, .int .i64 0] 3)))
    have HG := Lib.hid (alloc_row' (w.alloc (.cells #[.int .i64 x, .int .i64 y, .int .i64 z] 70)) #[.int .i64 0, .int .i64 0] 3 (w.heap.size + 1) (by simp))
    have HB2 := Lib.hid (HB.out.alloc HB.out.size (.cells #[.int .i64 0, .int .i64 0] 3))
    have HN : Hid (∀ j v, ((lstR 2 r).map (Value.int .i64))[j]? = some v → ((w.alloc (.cells #[.int .i64 x, .int .i64 y, .int .i64 z] 70)).alloc (.cells #[.int .i64 0, .int .i64 0] 3)).cell? (Addr.add ⟨w.heap.size, 1, none⟩ j) = some v) := Lib.hid (fun j v hv => by
      have hrow := row_cellI HS1.out.row (i := 1 + j)
      rw [← HD.out 1 (by omega) j, show 3 - 1 = 2 from rfl, hv] at hrow
      rw [add_off]
      exact hrow)
    go_enter Try.func49, Try.ntmps49
    go_wp2_with (with_reducible refine wpList_copy_splice (o := ⟨some 12, _, _, _, _, _⟩) rfl (.tmp 8) (.tmp 11) 24 24 rfl 3 Try.underlying24 sz1 (some ⟨w.heap.size + 1, 0, none⟩) (some ⟨w.heap.size, 1, none⟩) 2 2 2 2 rfl rfl (w.heap.size + 1) 0 [Value.int .i64 0, Value.int .i64 0] 3 HG.out ((lstR 2 r).map (Value.int .i64)) (by simp [hlen]) (fun _ => ⟨rfl, _, rfl, HN.out⟩) (by simp [hlen]) HO1.out (w.heap.size + 1) _ (Below.refl _ _) (Nat.le_refl _) ?_; intro w2 HG2 hB2; have HB3 := Lib.hid (HB2.out.trans (hB2.mono (Nat.le_succ _))); have HR := Lib.hid HG2.out; clear hB2 hmk)
    go_ret
    exact ⟨_, rfl, Nat.le_succ _, by have h := HR.out; rw [splice_all (by simp [hlen])] at h; exact h, HB3.out⟩
  · have hmk : ∀ W : World, (Instr.makeSlice 24 (.int .i64 3) (.int .i64 3)).run Try.prog W = .ok (.slice (some ⟨W.heap.size, 0, none⟩) 3 3) (W.alloc (.cells #[.int .i64 0, .int .i64 0, .int .i64 0] 3)) := fun W => by
      have := makeInts 3 (by omega) W
      simpa [List.replicate] using this
    have HS1 := Lib.hid (HT.out.step ((Below.refl _ (w.alloc (.cells #[.int .i64 x, .int .i64 y, .int .i64 z] 70))).alloc (Nat.le_refl _) (.cells #[.int .i64 0, .int .i64 0, .int .i64 0] 3)))
    have HG := Lib.hid (alloc_row' (w.alloc (.cells #[.int .i64 x, .int .i64 y, .int .i64 z] 70)) #[.int .i64 0, .int .i64 0, .int .i64 0] 3 (w.heap.size + 1) (by simp))
    have HB2 := Lib.hid (HB.out.alloc HB.out.size (.cells #[.int .i64 0, .int .i64 0, .int .i64 0] 3))
    have HN : Hid (∀ j v, ((lstR 3 r).map (Value.int .i64))[j]? = some v → ((w.alloc (.cells #[.int .i64 x, .int .i64 y, .int .i64 z] 70)).alloc (.cells #[.int .i64 0, .int .i64 0, .int .i64 0] 3)).cell? (Addr.add ⟨w.heap.size, 0, none⟩ j) = some v) := Lib.hid (fun j v hv => by
      have hrow := row_cellI HS1.out.row (i := 0 + j)
      rw [← HD.out 0 (by omega) j, show 3 - 0 = 3 from rfl, hv] at hrow
      rw [add_off]
      exact hrow)
    go_enter Try.func49, Try.ntmps49
    go_wp2_with (with_reducible refine wpList_copy_splice (o := ⟨some 12, _, _, _, _, _⟩) rfl (.tmp 8) (.tmp 11) 24 24 rfl 3 Try.underlying24 sz1 (some ⟨w.heap.size + 1, 0, none⟩) (some ⟨w.heap.size, 0, none⟩) 3 3 3 3 rfl rfl (w.heap.size + 1) 0 [Value.int .i64 0, Value.int .i64 0, Value.int .i64 0] 3 HG.out ((lstR 3 r).map (Value.int .i64)) (by simp [hlen]) (fun _ => ⟨rfl, _, rfl, HN.out⟩) (by simp [hlen]) HO1.out (w.heap.size + 1) _ (Below.refl _ _) (Nat.le_refl _) ?_; intro w2 HG2 hB2; have HB3 := Lib.hid (HB2.out.trans (hB2.mono (Nat.le_succ _))); have HR := Lib.hid HG2.out; clear hB2 hmk)
    go_ret
    exact ⟨_, rfl, Nat.le_succ _, by have h := HR.out; rw [splice_all (by simp [hlen])] at h; exact h, HB3.out⟩
end Go.Proofs.Ythpnkeecpaflfaa
