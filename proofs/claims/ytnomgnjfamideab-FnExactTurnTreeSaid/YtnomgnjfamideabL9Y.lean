/- Trees of questions: TurnTree, of both sides. -/
import Derived.Test.YtnomgnjfamideabL9V
import Derived.Test.YtnomgnjfamideabL9O
import Derived.WalkMore
import Derived.IntWalk
namespace Go.Proofs.Ytnomgnjfamideab
open Go.RowKit Go.ChangeShapes Go.WideShapes Go.Maps
set_option linter.unusedVariables false

theorem stored3 {w : World} {b : Nat} {x0 y0 z0 : Value} {t : TypeId} (h : Three w b x0 y0 z0 t) (x y z : Value) :
    Three (((w.setCell ⟨b, 0, none⟩ x).setCell ⟨b, 1, none⟩ y).setCell ⟨b, 2, none⟩ z) b x y z t ∧ Within b (b + 1) w (((w.setCell ⟨b, 0, none⟩ x).setCell ⟨b, 1, none⟩ y).setCell ⟨b, 2, none⟩ z) := by
  refine ⟨⟨?_⟩, within_set (within_set (within_set (Within.refl _ _ w) (Nat.le_refl _) (Nat.lt_succ_self _) 0 x) (Nat.le_refl _) (Nat.lt_succ_self _) 1 y) (Nat.le_refl _) (Nat.lt_succ_self _) 2 z⟩
  have := row_setI (row_setI (row_setI h.row 0 x) 1 y) 2 z
  simpa using this
theorem ok_tell9 {n : Int} : ∀ (t : T9) (p : Nat) (x : Int × Int × Int), t.ok n → x ∈ tell9 t p → x = lf9 ∨ qOK n x.1 = true
  | .leaf, p, x, _, h => by
    simp only [tell9, List.mem_singleton] at h
    exact .inl h
  | .br q y m, p, x, hok, h => by
    simp only [tell9, List.mem_cons, List.mem_append] at h
    rcases h with h | h | h
    · rw [h]; exact .inr hok.1
    · exact ok_tell9 y _ x hok.2.1 h
    · exact ok_tell9 m _ x hok.2.2 h
theorem tn9_leaf (n : Nat) : tn9 n lf9 = lf9 := if_pos rfl
theorem tn9_inner (n : Nat) {a b d : Int} (h : (a, b, d) ≠ lf9) : tn9 n (a, b, d) = (2 ^ n - 1 - a, d, b) := by unfold tn9; rw [if_neg h]
theorem make_rowN9 {R : List (Int × Int × Int)} {n : Nat} (hR : R.length = n) (h : n ≤ 1048576) (w : World) :
    (Instr.makeSlice 26 (.int .i64 (n : Int)) (.int .i64 (n : Int))).run Try.prog w = .ok (.slice (some ⟨w.heap.size, 0, none⟩) n n) (w.alloc (.cells (cellsN (rowN R 0)).toArray 56)) := by
  rw [makeNodes n h w, madeN, rowN_nil, hR]
theorem otherQ9 (N : Nat) (q : Int) (hq : qOK (N : Int) q = true) (w : World) :
    Calls Try.prog 64 #[.int .i64 (N : Int), .int .i64 q] w fun e w' => e = .returned (.tuple #[.int .i64 ((2 : Int) ^ N - 1 - q), .bool true]) ∧ w' = w := by
  have HC := Lib.hid (fun W => isQuestion_any (N : Int) q W)
  rw [hq] at HC
  have hb := qOK_iff.1 hq
  clear hq
  have hp := pow_le N (by omega)
  rw [Int.toNat_natCast] at hb
  obtain ⟨⟨hb1, hb2⟩, hb3, hb4⟩ := hb
  go_enter Try.func64, Try.ntmps64
  go_wp2_with (go_at_call 82; (with_reducible refine (HC.out _).mono ?_); rintro e wX ⟨rfl, hw⟩; have hw := hw.symm; subst hw)
  go_ret2
  exact ⟨rfl, rfl⟩
set_option maxRecDepth 100000 in
set_option maxHeartbeats 8000000 in
theorem turned_leaf (N : Nat) (w : World) :
    Calls Try.prog 32 #[.agg #[.int .i64 (-1), .int .i64 (-1), .int .i64 (-1)], .int .i64 (N : Int)] w fun e w' => e = .returned (.agg #[.int .i64 (-1), .int .i64 (-1), .int .i64 (-1)]) ∧ Below w.heap.size w w' := by
  have HT := Lib.hid (Three.new w (.int .i64 (-1)) (.int .i64 (-1)) (.int .i64 (-1)) 56 w.heap.size rfl)
  have HB := Lib.hid ((Below.refl w.heap.size w).alloc (Nat.le_refl _) (.cells #[.int .i64 (-1), .int .i64 (-1), .int .i64 (-1)] 56))
  have HR := Lib.hid (Three.new (w.alloc (.cells #[.int .i64 (-1), .int .i64 (-1), .int .i64 (-1)] 56)) (.int .i64 0) (.int .i64 0) (.int .i64 0) 56 (w.heap.size + 1) (by simp))
  replace HT := Lib.hid (HT.out.step ((Below.refl _ _).alloc (Nat.le_refl _) (.cells #[.int .i64 0, .int .i64 0, .int .i64 0] 56)))
  replace HB := Lib.hid (HB.out.alloc HB.out.size (.cells #[.int .i64 0, .int .i64 0, .int .i64 0] 56))
  have HL := Lib.hid (fun W => isLeaf_any (-1) (-1) (-1) true W (by rfl))
  go_enter Try.func32, Try.ntmps32
  go_wp2_with fail
  generalize (w.alloc (.cells #[.int .i64 (-1), .int .i64 (-1), .int .i64 (-1)] 56)).alloc (.cells #[.int .i64 0, .int .i64 0, .int .i64 0] 56) = w0 at HB HT HR ⊢
  have h0 := HT.out.c0
  have h1 := HT.out.c1
  have h2 := HT.out.c2
  with_reducible refine (HL.out _).mono ?_
  rintro e w1 ⟨rfl, hb⟩
  replace HB := Lib.hid (below_trans HB.out hb)
  replace HT := Lib.hid (HT.out.step hb)
  replace HR := Lib.hid (HR.out.step hb)
  replace h0 := HT.out.c0
  replace h1 := HT.out.c1
  replace h2 := HT.out.c2
  clear hb
  have r0 := HR.out.c0
  have r1 := HR.out.c1
  have r2 := HR.out.c2
  have rf0 := HR.out.f 0
  have rf1 := HR.out.f 1
  have rf2 := HR.out.f 2
  obtain ⟨hs, hw⟩ := stored3 HR.out (.int .i64 (-1)) (.int .i64 (-1)) (.int .i64 (-1))
  have e0 := hs.c0
  have e1 := hs.c1
  have e2 := hs.c2
  have HF := Lib.hid (HB.out.trans (hw.below (by omega) HB.out.size))
  clear hs hw
  go_wp2
  refine bodyPost_ret (v := .agg #[.int .i64 (-1), .int .i64 (-1), .int .i64 (-1)]) (by simp [results, go_sem, e0, e1, e2]) rfl ?_
  exact ⟨rfl, HF.out⟩
set_option maxRecDepth 100000 in
set_option maxHeartbeats 8000000 in
theorem turned_inner (N : Nat) (a b d : Int) (w : World) (hl : ndB (a, b, d) lf9 = false) (hq : qOK (N : Int) a = true) :
    Calls Try.prog 32 #[.agg #[.int .i64 a, .int .i64 b, .int .i64 d], .int .i64 (N : Int)] w fun e w' => e = .returned (.agg #[.int .i64 ((2 : Int) ^ N - 1 - a), .int .i64 d, .int .i64 b]) ∧ Below w.heap.size w w' := by
  have HT := Lib.hid (Three.new w (.int .i64 a) (.int .i64 b) (.int .i64 d) 56 w.heap.size rfl)
  have HB := Lib.hid ((Below.refl w.heap.size w).alloc (Nat.le_refl _) (.cells #[.int .i64 a, .int .i64 b, .int .i64 d] 56))
  have HR := Lib.hid (Three.new (w.alloc (.cells #[.int .i64 a, .int .i64 b, .int .i64 d] 56)) (.int .i64 0) (.int .i64 0) (.int .i64 0) 56 (w.heap.size + 1) (by simp))
  replace HT := Lib.hid (HT.out.step ((Below.refl _ _).alloc (Nat.le_refl _) (.cells #[.int .i64 0, .int .i64 0, .int .i64 0] 56)))
  replace HB := Lib.hid (HB.out.alloc HB.out.size (.cells #[.int .i64 0, .int .i64 0, .int .i64 0] 56))
  have HL := Lib.hid (fun W => isLeaf_any a b d false W hl)
  have HQ := Lib.hid (fun W => otherQ9 N a hq W)
  clear hl hq
  generalize (2 : Int) ^ N - 1 - a = Y at HQ ⊢
  go_enter Try.func32, Try.ntmps32
  go_wp2_with fail
  generalize (w.alloc (.cells #[.int .i64 a, .int .i64 b, .int .i64 d] 56)).alloc (.cells #[.int .i64 0, .int .i64 0, .int .i64 0] 56) = w0 at HB HT HR ⊢
  have h0 := HT.out.c0
  have h1 := HT.out.c1
  have h2 := HT.out.c2
  with_reducible refine (HL.out _).mono ?_
  rintro e w1 ⟨rfl, hb⟩
  replace HB := Lib.hid (below_trans HB.out hb)
  replace HT := Lib.hid (HT.out.step hb)
  replace HR := Lib.hid (HR.out.step hb)
  replace h0 := HT.out.c0
  replace h1 := HT.out.c1
  replace h2 := HT.out.c2
  clear hb
  have r0 := HR.out.c0
  have r1 := HR.out.c1
  have r2 := HR.out.c2
  have rf0 := HR.out.f 0
  have rf1 := HR.out.f 1
  have rf2 := HR.out.f 2
  obtain ⟨hs, hw⟩ := stored3 HR.out (.int .i64 Y) (.int .i64 d) (.int .i64 b)
  have e0 := hs.c0
  have e1 := hs.c1
  have e2 := hs.c2
  have HF := Lib.hid (HB.out.trans (hw.below (by omega) HB.out.size))
  clear hs hw
  go_wp2_with (go_at_call 64; (with_reducible refine (HQ.out _).mono ?_); rintro e wX ⟨rfl, hw⟩; have hw := hw.symm; subst hw)
  refine bodyPost_ret (v := .agg #[.int .i64 Y, .int .i64 d, .int .i64 b]) (by simp [results, go_sem, e0, e1, e2]) rfl ?_
  exact ⟨rfl, HF.out⟩
theorem turned_any (N : Nat) (x : Int × Int × Int) (w : World) (hx : x = lf9 ∨ qOK (N : Int) x.1 = true) :
    Calls Try.prog 32 #[.agg #[.int .i64 x.1, .int .i64 x.2.1, .int .i64 x.2.2], .int .i64 (N : Int)] w fun e w' => e = .returned (.agg #[.int .i64 (tn9 N x).1, .int .i64 (tn9 N x).2.1, .int .i64 (tn9 N x).2.2]) ∧ Below w.heap.size w w' := by
  by_cases hl : x = lf9
  · subst hl
    rw [tn9_leaf]
    exact turned_leaf N w
  · obtain ⟨a, b, d⟩ := x
    have hq := hx.resolve_left hl
    rw [tn9_inner N hl]
    refine turned_inner N a b d w ?_ hq
    have hq0 := (qOK_iff.1 hq).2.1
    simp only at hq0
    simp [ndB, lf9]
    omega
set_option maxRecDepth 100000 in
set_option maxHeartbeats 8000000 in
theorem turnTree_impl_no (n : Int) (A : Option Addr) (c lo hi : Nat) (ns : List (Int × Int × Int)) (w : World) (hS : NIns w lo hi A ns) (hn : ns.length ≤ 1048576) (hno : isT9 n ns = false) :
    Calls Try.prog 10 #[.int .i64 n, .agg #[.slice A ns.length c]] w fun e w' => e = .returned (.tuple #[.agg #[.slice none 0 0], .bool false]) ∧ Below w.heap.size w w' := by
  have HT := Lib.hid (One.new w (.slice A ns.length c) 28 w.heap.size rfl)
  have HB := Lib.hid ((Below.refl w.heap.size w).alloc (Nat.le_refl _) (.cells #[.slice A ns.length c] 28))
  have HR := Lib.hid (One.new (w.alloc (.cells #[.slice A ns.length c] 28)) (.slice none 0 0) 28 (w.heap.size + 1) (by simp))
  replace HT := Lib.hid (HT.out.step ((Below.refl _ _).alloc (Nat.le_refl _) (.cells #[.slice none 0 0] 28)))
  replace HB := Lib.hid (HB.out.alloc HB.out.size (.cells #[.slice none 0 0] 28))
  have HI := Lib.hid (hS.step HB.out)
  have HC := Lib.hid (fun W h => isTree_impl n A c lo hi ns W h hn)
  rw [hno] at HC
  clear hS hno
  go_enter Try.func10, Try.ntmps10
  go_wp2_with fail
  generalize (w.alloc (.cells #[.slice A ns.length c] 28)).alloc (.cells #[.slice none 0 0] 28) = w0 at HB HT HR HI ⊢
  have h0 := HT.out.c0
  with_reducible refine (HC.out _ HI.out).mono ?_
  rintro e w1 ⟨rfl, hb⟩
  replace HB := Lib.hid (below_trans HB.out hb)
  replace HT := Lib.hid (HT.out.step hb)
  replace HR := Lib.hid (HR.out.step hb)
  replace HI := Lib.hid (HI.out.step hb)
  replace h0 := HT.out.c0
  clear hb
  clear h0
  have r0 := HR.out.c0
  have rf0 := HR.out.f0
  obtain ⟨hs, hw⟩ := stored1 HR.out (.slice none 0 0)
  have e0 := hs.c0
  have HF := Lib.hid (HB.out.trans (hw.below (by omega) HB.out.size))
  clear hs hw
  go_wp2
  refine bodyPost_ret (v := .tuple #[.agg #[.slice none 0 0], .bool false]) (by simp [results, go_sem, e0]) rfl ?_
  exact ⟨rfl, HF.out⟩
set_option maxRecDepth 100000 in
set_option maxHeartbeats 8000000 in
theorem turnTree_spec_no (n : Int) (A : Option Addr) (c lo hi : Nat) (ns : List (Int × Int × Int)) (w : World) (hS : NIns w lo hi A ns) (hn : ns.length ≤ 1048576) (hno : isT9 n ns = false) :
    Calls Try.prog 8 #[.int .i64 n, .agg #[.slice A ns.length c]] w fun e w' => e = .returned (.tuple #[.agg #[.slice none 0 0], .bool false]) ∧ Below w.heap.size w w' := by
  have HT := Lib.hid (One.new w (.slice A ns.length c) 28 w.heap.size rfl)
  have HB := Lib.hid ((Below.refl w.heap.size w).alloc (Nat.le_refl _) (.cells #[.slice A ns.length c] 28))
  have HR := Lib.hid (One.new (w.alloc (.cells #[.slice A ns.length c] 28)) (.slice none 0 0) 28 (w.heap.size + 1) (by simp))
  replace HT := Lib.hid (HT.out.step ((Below.refl _ _).alloc (Nat.le_refl _) (.cells #[.slice none 0 0] 28)))
  replace HB := Lib.hid (HB.out.alloc HB.out.size (.cells #[.slice none 0 0] 28))
  have HI := Lib.hid (hS.step HB.out)
  have HC := Lib.hid (fun W h => l9Tree_any n A c lo hi ns W h hn)
  rw [hno] at HC
  clear hS hno
  go_enter Try.func8, Try.ntmps8
  go_wp2_with fail
  generalize (w.alloc (.cells #[.slice A ns.length c] 28)).alloc (.cells #[.slice none 0 0] 28) = w0 at HB HT HR HI ⊢
  have h0 := HT.out.c0
  with_reducible refine (HC.out _ HI.out).mono ?_
  rintro e w1 ⟨rfl, hb⟩
  replace HB := Lib.hid (below_trans HB.out hb)
  replace HT := Lib.hid (HT.out.step hb)
  replace HR := Lib.hid (HR.out.step hb)
  replace HI := Lib.hid (HI.out.step hb)
  replace h0 := HT.out.c0
  clear hb
  clear h0
  have r0 := HR.out.c0
  have rf0 := HR.out.f0
  obtain ⟨hs, hw⟩ := stored1 HR.out (.slice none 0 0)
  have e0 := hs.c0
  have HF := Lib.hid (HB.out.trans (hw.below (by omega) HB.out.size))
  clear hs hw
  go_wp2
  refine bodyPost_ret (v := .tuple #[.agg #[.slice none 0 0], .bool false]) (by simp [results, go_sem, e0]) rfl ?_
  exact ⟨rfl, HF.out⟩
set_option maxRecDepth 100000 in
set_option maxHeartbeats 8000000 in
theorem turnTree_spec (N : Nat) (A : Option Addr) (c lo hi : Nat) (ns : List (Int × Int × Int)) (t : T9) (w : World) (hS : NIns w lo hi A ns) (hT : Tree9 (N : Int) ns t) (hc : ns.length ≤ c) :
    Calls Try.prog 8 #[.int .i64 (N : Int), .agg #[.slice A ns.length c]] w fun e w' => ∃ B d, e = .returned (.tuple #[.agg #[.slice B (tell9 (turn9 N t) 0).length d], .bool true]) ∧ NMade w' w.heap.size w'.heap.size B (tell9 (turn9 N t) 0) ∧ Below w.heap.size w w' := by
  have HT := Lib.hid (One.new w (.slice A ns.length c) 28 w.heap.size rfl)
  have HB := Lib.hid ((Below.refl w.heap.size w).alloc (Nat.le_refl _) (.cells #[.slice A ns.length c] 28))
  have HR := Lib.hid (One.new (w.alloc (.cells #[.slice A ns.length c] 28)) (.slice none 0 0) 28 (w.heap.size + 1) (by simp))
  replace HT := Lib.hid (HT.out.step ((Below.refl _ _).alloc (Nat.le_refl _) (.cells #[.slice none 0 0] 28)))
  replace HB := Lib.hid (HB.out.alloc HB.out.size (.cells #[.slice none 0 0] 28))
  have HI := Lib.hid (hS.step HB.out)
  have hN : 1 ≤ N ∧ N ≤ 12 := by have := hT.n12; omega
  have HC := Lib.hid (fun W h => l9Tree_any (N : Int) A c lo hi ns W h (by have := hT.le127; omega))
  rw [isT9_mk hT] at HC
  have hns := At9.all hT.at0 hT.len
  have hlen := hT.len
  have HF := Lib.hid (fun W (h : NIns W lo hi A ns) => l9Turned_any N hN t A c lo hi W (hns ▸ h) (by omega) hT.ok hT.deep)
  rw [← hlen] at HF
  clear hS hT hns hlen hc
  generalize tell9 (turn9 N t) 0 = L at HF ⊢
  go_enter Try.func8, Try.ntmps8
  go_wp2_with fail
  generalize (w.alloc (.cells #[.slice A ns.length c] 28)).alloc (.cells #[.slice none 0 0] 28) = w0 at HB HT HR HI ⊢
  have h0 := HT.out.c0
  with_reducible refine (HC.out _ HI.out).mono ?_
  rintro e w1 ⟨rfl, hb⟩
  replace HB := Lib.hid (below_trans HB.out hb)
  replace HT := Lib.hid (HT.out.step hb)
  replace HR := Lib.hid (HR.out.step hb)
  replace HI := Lib.hid (HI.out.step hb)
  replace h0 := HT.out.c0
  clear hb
  have hrl := HR.out.lt
  go_wp2_with fail
  with_reducible refine (HF.out _ HI.out).mono ?_
  rintro e w2 ⟨Bt, dt, rfl, hm, hb⟩
  replace HB := Lib.hid (below_trans HB.out hb)
  replace HT := Lib.hid (HT.out.step hb)
  replace HR := Lib.hid (HR.out.step hb)
  replace HI := Lib.hid (HI.out.step hb)
  replace h0 := HT.out.c0
  have HM := Lib.hid hm
  clear hm
  clear hb
  clear h0
  have r0 := HR.out.c0
  have rf0 := HR.out.f0
  obtain ⟨hs, hw⟩ := stored1 HR.out (.slice Bt L.length dt)
  have e0 := hs.c0
  have hbs := HB.out.size
  have HF := Lib.hid (HB.out.trans (hw.below (by omega) HB.out.size))
  have HM2 := Lib.hid (HM.out.within hw (.inr (by omega)))
  clear hs hw
  go_wp2
  refine bodyPost_ret (v := .tuple #[.agg #[.slice Bt L.length dt], .bool true]) (by simp [results, go_sem, e0]) rfl ?_
  have HM3 := HM2.out.wide (lo' := w.heap.size) (by omega) HM2.out.top (Nat.le_refl _)
  first | exact ⟨_, _, rfl, HM3, HF.out⟩ | exact ⟨rfl, HM3, HF.out⟩ | exact ⟨HM3, HF.out⟩ | exact ⟨_, ⟨_, rfl⟩, HM3, HF.out⟩ | exact ⟨⟨_, rfl⟩, HM3, HF.out⟩
set_option maxRecDepth 100000 in
set_option maxHeartbeats 16000000 in
theorem turnTree_impl (N : Nat) (A : Option Addr) (c lo hi : Nat) (ns : List (Int × Int × Int)) (t : T9) (w : World) (hS : NIns w lo hi A ns) (hT : Tree9 (N : Int) ns t) :
    Calls Try.prog 10 #[.int .i64 (N : Int), .agg #[.slice A ns.length c]] w fun e w' => ∃ B d, e = .returned (.tuple #[.agg #[.slice B (tell9 (turn9 N t) 0).length d], .bool true]) ∧ NMade w' w.heap.size w'.heap.size B (tell9 (turn9 N t) 0) ∧ Below w.heap.size w w' := by
  have HT := Lib.hid (One.new w (.slice A ns.length c) 28 w.heap.size rfl)
  have HB := Lib.hid ((Below.refl w.heap.size w).alloc (Nat.le_refl _) (.cells #[.slice A ns.length c] 28))
  have HR := Lib.hid (One.new (w.alloc (.cells #[.slice A ns.length c] 28)) (.slice none 0 0) 28 (w.heap.size + 1) (by simp))
  replace HT := Lib.hid (HT.out.step ((Below.refl _ _).alloc (Nat.le_refl _) (.cells #[.slice none 0 0] 28)))
  replace HB := Lib.hid (HB.out.alloc HB.out.size (.cells #[.slice none 0 0] 28))
  have HI := Lib.hid (hS.step HB.out)
  have hN : 1 ≤ N ∧ N ≤ 12 := by have := hT.n12; omega
  have hlen7 := hT.le127
  have HC := Lib.hid (fun W h => isTree_impl (N : Int) A c lo hi ns W h (by omega))
  rw [isT9_mk hT] at HC
  have hns := At9.all hT.at0 hT.len
  have hmem : ∀ x ∈ ns, x = lf9 ∨ qOK (N : Int) x.1 = true := fun x hx => ok_tell9 t 0 x hT.ok (by rw [← hns]; exact hx)
  have HX := Lib.hid (fun k (hk : k < ns.length) W => turned_any N ns[k] W (hmem _ (List.getElem_mem hk)))
  have hRl : (ns.map (tn9 N)).length = ns.length := List.length_map _
  have HS := Lib.hid (fun k (hk : k < ns.length) => (show (rowN (ns.map (tn9 N)) k).set k (tn9 N ns[k]) = rowN (ns.map (tn9 N)) (k + 1) from by have := rowN_set (l := ns.map (tn9 N)) (k := k) (by rw [hRl]; exact hk); rwa [List.getElem_map] at this))
  have HF := Lib.hid (fun A' c' lo' hi' W h => treeFrom_any (N : Int) A' c' lo' hi' (ns.map (tn9 N)) 0 W h (by rw [hRl]; omega))
  have hrt := read9_turn hT.at0 hT.deep hT.ok
  rw [show ((0 : Nat) : Int) = 0 from rfl] at hrt
  rw [hrt, hRl] at HF
  have hmk := make_rowN9 hRl (by omega)
  have HRl := Lib.hid hRl
  have htop := hS.top
  clear hS hT hns hrt hRl hmem
  generalize tell9 (turn9 N t) 0 = L at HF ⊢
  generalize ns.map (tn9 N) = R at HS HF hmk HRl
  go_enter Try.func10, Try.ntmps10
  go_wp2_with fail
  generalize (w.alloc (.cells #[.slice A ns.length c] 28)).alloc (.cells #[.slice none 0 0] 28) = w0 at HB HT HR HI ⊢
  have h0 := HT.out.c0
  with_reducible refine (HC.out _ HI.out).mono ?_
  rintro e w1 ⟨rfl, hb⟩
  replace HB := Lib.hid (below_trans HB.out hb)
  replace HT := Lib.hid (HT.out.step hb)
  replace HR := Lib.hid (HR.out.step hb)
  replace HI := Lib.hid (HI.out.step hb)
  replace h0 := HT.out.c0
  clear hb
  have hrl := HR.out.lt
  have hws := HB.out.size
  go_upto_region 4 with (fail)
  clear hmk
  have hbk := (Below.refl _ w1).alloc (Nat.le_refl _) (.cells (cellsN (rowN R 0)).toArray 56)
  have hr1 := Lib.hid (alloc_row w1 (cellsN (rowN R 0)).toArray 56)
  clear h0
  replace HB := Lib.hid (below_trans HB.out hbk)
  replace HT := Lib.hid (HT.out.step hbk)
  replace HR := Lib.hid (HR.out.step hbk)
  replace HI := Lib.hid (HI.out.step hbk)
  clear hbk
  generalize hwa : w1.alloc (.cells (cellsN (rowN R 0)).toArray 56) = wa at hr1 HT HR HI HB ⊢
  have hlw := row_ltI hr1.out
  clear hwa
  have h0 := HT.out.c0
  go_wp2_with fail
  go_loopw [21] (fun i wr => ∃ k : Nat, k ≤ ns.length ∧ i = .int .i64 (k : Int) ∧ Hid (wr.heap[w1.heap.size]? = some (.cells (cellsN (rowN R k)).toArray 56 (0, 0))) ∧ Hid (Within w1.heap.size (w1.heap.size + 1) wa wr)) (fun i _ => ns.length - (intOf i).toNat)
  case atStart => exact ⟨0, Nat.zero_le _, rfl, hr1, Lib.hid (Within.refl _ _ _)⟩
  case round =>
    obtain ⟨k, hk, rfl, HRw, HW⟩ := hrel
    rename World => wr
    clear hr1
    by_cases hlt : k < ns.length
    · have hki : (k : Int) < (ns.length : Int) := by omega
      have HIr := HI.out.within HW.out (.inl (by omega))
      obtain ⟨bb, oo, rfl, hX⟩ := HIr.at3 hlt
      have HTA := Lib.hid (fun W => HX.out k hlt W)
      have HSk := Lib.hid (HS.out k hlt)
      generalize hx : ns[k] = x at hX HTA HSk
      clear hx
      have HTr := HT.out.within HW.out (.inl (by omega))
      replace h0 := HTr.c0
      have hc0 := hX.c0
      have hc1 := hX.c1
      have hc2 := hX.c2
      have hbl := hX.lt
      generalize hy : tn9 N x = y at HTA HSk
      clear hX hy HIr HTr
      go_upto_region 7 with (fail)
      have hb2 := (Below.refl _ wr).alloc (Nat.le_refl _) (.cells #[.int .i64 x.1, .int .i64 x.2.1, .int .i64 x.2.2] 56)
      have HXn := Lib.hid (Three.new wr (.int .i64 x.1) (.int .i64 x.2.1) (.int .i64 x.2.2) 56 wr.heap.size rfl)
      replace HRw := Lib.hid ((hb2.block _ (row_ltI HRw.out)).trans HRw.out)
      replace HW := Lib.hid (HW.out.trans (Within.of_below hb2))
      clear hb2 hc0 hc1 hc2 hbl
      generalize wr.alloc (.cells #[.int .i64 x.1, .int .i64 x.2.1, .int .i64 x.2.2] 56) = w2 at HXn HRw HW ⊢
      have x0 := HXn.out.c0
      have x1 := HXn.out.c1
      have x2 := HXn.out.c2
      go_wp2_with fail
      with_reducible refine (HTA.out _).mono ?_
      rintro e w3 ⟨rfl, hb3⟩
      have hr3 := (hb3.block _ (row_ltI HRw.out)).trans HRw.out
      have HW3 := Lib.hid (HW.out.trans (Within.of_below hb3))
      clear hb3 x0 x1 x2
      have hll : (rowN R k).length = ns.length := by rw [rowN_len R (by rw [HRl.out]; exact hk), HRl.out]
      have hlen : (cellsN (rowN R k)).length = ns.length * 3 := by rw [cellsN_len, hll]
      obtain ⟨u0, hu0⟩ : ∃ u, w3.cell? ⟨w1.heap.size, k * 3, none⟩ = some u := by
        rw [row_cellI hr3]
        exact ⟨_, Array.getElem?_eq_getElem (by rw [List.size_toArray]; omega)⟩
      obtain ⟨u1, hu1⟩ : ∃ u, w3.cell? ⟨w1.heap.size, k * 3 + 1, none⟩ = some u := by
        rw [row_cellI hr3]
        exact ⟨_, Array.getElem?_eq_getElem (by rw [List.size_toArray]; omega)⟩
      obtain ⟨u2, hu2⟩ : ∃ u, w3.cell? ⟨w1.heap.size, k * 3 + 2, none⟩ = some u := by
        rw [row_cellI hr3]
        exact ⟨_, Array.getElem?_eq_getElem (by rw [List.size_toArray]; omega)⟩
      have hf0 := row_freeI hr3 (k * 3)
      have hf1 := row_freeI hr3 (k * 3 + 1)
      have hf2 := row_freeI hr3 (k * 3 + 2)
      have hset := row_setI (row_setI (row_setI hr3 (k * 3) (.int .i64 y.1)) (k * 3 + 1) (.int .i64 y.2.1)) (k * 3 + 2) (.int .i64 y.2.2)
      rw [List.setIfInBounds_toArray, List.setIfInBounds_toArray, List.setIfInBounds_toArray, cellsN_set _ _ _ (by rw [hll]; exact hlt), HSk.out] at hset
      have HR2 := Lib.hid hset
      have HW2 := Lib.hid (within_set (within_set (within_set HW3.out (Nat.le_refl w1.heap.size) (Nat.lt_succ_self _) (k * 3) (.int .i64 y.1)) (Nat.le_refl w1.heap.size) (Nat.lt_succ_self _) (k * 3 + 1) (.int .i64 y.2.1)) (Nat.le_refl w1.heap.size) (Nat.lt_succ_self _) (k * 3 + 2) (.int .i64 y.2.2))
      clear hset hr3 hlen hll
      go_wp2
      go_roundw
      case rel => exact ⟨k + 1, by omega, by go_num, HR2, HW2⟩
      case measure => simp [intOf]; omega
    · obtain rfl : k = ns.length := by omega
      clear h0
      have hRr := HRw.out
      rw [show ns.length = R.length from HRl.out.symm, rowN_full] at hRr
      have HMs := Lib.hid (made_rowN hRr (Nat.le_refl _))
      clear hRr HRw
      replace HR := Lib.hid (HR.out.within HW.out (.inl (by omega)))
      replace HB := Lib.hid (HB.out.trans (HW.out.below (by omega) HB.out.size))
      clear HW HI HT
      have hrl := HR.out.lt
      go_wp2_with fail
      with_reducible refine (HF.out _ _ _ _ _ HMs.out.ins).mono ?_
      rintro e w5 ⟨Bt, dt, rfl, hm, hb⟩
      replace HR := Lib.hid (HR.out.step hb)
      replace HB := Lib.hid (below_trans HB.out hb)
      have HM := Lib.hid hm
      clear hm
      clear hb
      have r0 := HR.out.c0
      have rf0 := HR.out.f0
      obtain ⟨hs, hw⟩ := stored1 HR.out (.slice Bt L.length dt)
      have e0 := hs.c0
      have hbs := HB.out.size
      have HF := Lib.hid (HB.out.trans (hw.below (by omega) HB.out.size))
      have HM2 := Lib.hid (HM.out.within hw (.inr (by omega)))
      clear hs hw
      go_wp2
      refine bodyPost_ret (v := .tuple #[.agg #[.slice Bt L.length dt], .bool true]) (by simp [results, go_sem, e0]) rfl ?_
      have HM3 := HM2.out.wide (lo' := w.heap.size) (by omega) HM2.out.top (Nat.le_refl _)
      first | exact ⟨_, _, rfl, HM3, HF.out⟩ | exact ⟨rfl, HM3, HF.out⟩ | exact ⟨HM3, HF.out⟩ | exact ⟨_, ⟨_, rfl⟩, HM3, HF.out⟩ | exact ⟨⟨_, rfl⟩, HM3, HF.out⟩
theorem turnTree_both (n : Int) (ns : List (Int × Int × Int)) (h : ns.length ≤ 1048576) : ∃ (r0 : List (Int × Int × Int)) (r1 : Bool), r0.length ≤ 1048576 ∧
    (∀ (w : World) (B : Option Addr) (c lo hi : Nat), NIns w lo hi B ns → ns.length ≤ c → Calls Try.prog 10 #[.int .i64 n, .agg #[.slice B ns.length c]] w fun e w' => ∃ B d, e = .returned (.tuple #[.agg #[.slice B r0.length d], .bool r1]) ∧ NMade w' w.heap.size w'.heap.size B r0 ∧ Below w.heap.size w w') ∧
    (∀ (w : World) (B : Option Addr) (c lo hi : Nat), NIns w lo hi B ns → ns.length ≤ c → Calls Try.prog 8 #[.int .i64 n, .agg #[.slice B ns.length c]] w fun e w' => ∃ B d, e = .returned (.tuple #[.agg #[.slice B r0.length d], .bool r1]) ∧ NMade w' w.heap.size w'.heap.size B r0 ∧ Below w.heap.size w w') := by
  cases hno : isT9 n ns with
  | false => exact ⟨[], false, by simp, fun w B c lo hi hS _ => (turnTree_impl_no n B c lo hi ns w hS h hno).mono fun _ _ => zero_tree9o, fun w B c lo hi hS _ => (turnTree_spec_no n B c lo hi ns w hS h hno).mono fun _ _ => zero_tree9o⟩
  | true =>
    obtain ⟨t, hT⟩ := isT9_of hno
    have h12 := hT.n12
    obtain ⟨N, rfl⟩ : ∃ N : Nat, n = (N : Int) := ⟨n.toNat, by omega⟩
    exact ⟨tell9 (turn9 N t) 0, true, by rw [tell9_len, turn9_size]; have := T9.size_127 hT.deep; omega, fun w B c lo hi hS _ => turnTree_impl N B c lo hi ns t w hS hT, fun w B c lo hi hS hc => turnTree_spec N B c lo hi ns t w hS hT hc⟩
end Go.Proofs.Ytnomgnjfamideab
