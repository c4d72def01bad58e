/- AnswerState: both functions' contracts. -/
import Derived.Test.YtkdhmhbabbeokaaAfter2
namespace Go.Proofs.Ytkdhmhbabbeokaa
open Go.RowKit Go.ChangeShapes Go.WideShapes
set_option linter.unusedVariables false

set_option maxHeartbeats 2000000 in
theorem answerState_impl_no (A : Option Addr) (c lo hi : Nat) (zs : List Int) (m q : Int) (y : Bool) (w : World) (hS : Ins w lo hi A zs) (hl : zs.length ≤ 1048576) (hst : isSt zs m = false) :
    Calls Try.prog 47 #[.agg #[.slice A zs.length c, .int .i64 m], .agg #[.int .i64 q, .bool y]] w fun e w' => e = .returned (.tuple #[.agg #[.slice none 0 0, .int .i64 0], .bool false]) ∧ Below w.heap.size w w' := by
  have HC := Lib.hid (fun W h => isState_impl A c lo hi zs m W h hl)
  rw [hst] at HC
  have HT := Lib.hid (Two.new w (.slice A zs.length c) (.int .i64 m) 36 w.heap.size rfl)
  have HB := Lib.hid ((Below.refl w.heap.size w).alloc (Nat.le_refl _) (.cells #[.slice A zs.length c, .int .i64 m] 36))
  have HU := Lib.hid (Two.new (w.alloc (.cells #[.slice A zs.length c, .int .i64 m] 36)) (.int .i64 q) (.bool y) 58 (w.heap.size + 1) (by simp))
  replace HT := Lib.hid (HT.out.step ((Below.refl _ _).alloc (Nat.le_refl _) (.cells #[.int .i64 q, .bool y] 58)))
  replace HB := Lib.hid (HB.out.alloc HB.out.size (.cells #[.int .i64 q, .bool y] 58))
  have HR := Lib.hid (Two.new ((w.alloc (.cells #[.slice A zs.length c, .int .i64 m] 36)).alloc (.cells #[.int .i64 q, .bool y] 58)) (.slice none 0 0) (.int .i64 0) 36 (w.heap.size + 1 + 1) (by simp))
  replace HT := Lib.hid (HT.out.step ((Below.refl _ _).alloc (Nat.le_refl _) (.cells #[.slice none 0 0, .int .i64 0] 36)))
  replace HU := Lib.hid (HU.out.step ((Below.refl _ _).alloc (Nat.le_refl _) (.cells #[.slice none 0 0, .int .i64 0] 36)))
  replace HB := Lib.hid (HB.out.alloc HB.out.size (.cells #[.slice none 0 0, .int .i64 0] 36))
  have HI := Lib.hid (hS.step HB.out)
  clear hS hst
  go_enter Try.func47, Try.ntmps47
  go_wp2_with fail
  generalize ((w.alloc (.cells #[.slice A zs.length c, .int .i64 m] 36)).alloc (.cells #[.int .i64 q, .bool y] 58)).alloc (.cells #[.slice none 0 0, .int .i64 0] 36) = wa at HT HU HR HB HI ⊢
  refine (HC.out wa HI.out).mono ?_
  rintro e wb ⟨rfl, hb⟩
  replace HT := Lib.hid (HT.out.step hb)
  replace HU := Lib.hid (HU.out.step hb)
  replace HR := Lib.hid (HR.out.step hb)
  replace HI := Lib.hid (HI.out.step hb)
  replace HB := Lib.hid (below_trans HB.out hb)
  clear hb HC
  have h0 := HT.out.c0
  have h1 := HT.out.c1
  have h2 := HU.out.c0
  have h3 := HU.out.c1
  have r0 := HR.out.c0
  have r1 := HR.out.c1
  have r2 := HR.out.f0
  have r3 := HR.out.f1
  go_wp2
  obtain ⟨hs, hw⟩ := stored2 HR.out.row (.slice none 0 0) (.int .i64 0)
  generalize ((wb.setCell ⟨w.heap.size + 1 + 1, 0, none⟩ (.slice none 0 0)).setCell ⟨w.heap.size + 1 + 1, 1, none⟩ (.int .i64 0)) = wf at hs hw ⊢
  have e0 := two0 hs
  have e1 := two1 hs
  refine bodyPost_ret (v := .tuple #[.agg #[.slice none 0 0, .int .i64 0], .bool false]) (by simp [results, go_sem, e0, e1]) rfl ?_
  exact ⟨rfl, HB.out.trans (hw.below (by omega) HB.out.size)⟩
set_option maxHeartbeats 2000000 in
theorem answerState_impl_bad (A : Option Addr) (c lo hi : Nat) (zs : List Int) (m q : Int) (y : Bool) (w : World) (hS : Ins w lo hi A zs) (hl : zs.length ≤ 1048576) (hst : isSt zs m = true) (hq : qOK zs.length q = false) :
    Calls Try.prog 47 #[.agg #[.slice A zs.length c, .int .i64 m], .agg #[.int .i64 q, .bool y]] w fun e w' => e = .returned (.tuple #[.agg #[.slice none 0 0, .int .i64 0], .bool false]) ∧ Below w.heap.size w w' := by
  have HC := Lib.hid (fun W h => isState_impl A c lo hi zs m W h hl)
  rw [hst] at HC
  have HD := Lib.hid (fun W => isQuestion_any (zs.length : Int) q W)
  rw [hq] at HD
  have HT := Lib.hid (Two.new w (.slice A zs.length c) (.int .i64 m) 36 w.heap.size rfl)
  have HB := Lib.hid ((Below.refl w.heap.size w).alloc (Nat.le_refl _) (.cells #[.slice A zs.length c, .int .i64 m] 36))
  have HU := Lib.hid (Two.new (w.alloc (.cells #[.slice A zs.length c, .int .i64 m] 36)) (.int .i64 q) (.bool y) 58 (w.heap.size + 1) (by simp))
  replace HT := Lib.hid (HT.out.step ((Below.refl _ _).alloc (Nat.le_refl _) (.cells #[.int .i64 q, .bool y] 58)))
  replace HB := Lib.hid (HB.out.alloc HB.out.size (.cells #[.int .i64 q, .bool y] 58))
  have HR := Lib.hid (Two.new ((w.alloc (.cells #[.slice A zs.length c, .int .i64 m] 36)).alloc (.cells #[.int .i64 q, .bool y] 58)) (.slice none 0 0) (.int .i64 0) 36 (w.heap.size + 1 + 1) (by simp))
  replace HT := Lib.hid (HT.out.step ((Below.refl _ _).alloc (Nat.le_refl _) (.cells #[.slice none 0 0, .int .i64 0] 36)))
  replace HU := Lib.hid (HU.out.step ((Below.refl _ _).alloc (Nat.le_refl _) (.cells #[.slice none 0 0, .int .i64 0] 36)))
  replace HB := Lib.hid (HB.out.alloc HB.out.size (.cells #[.slice none 0 0, .int .i64 0] 36))
  have HI := Lib.hid (hS.step HB.out)
  clear hS hst hq
  go_enter Try.func47, Try.ntmps47
  go_wp2_with fail
  generalize ((w.alloc (.cells #[.slice A zs.length c, .int .i64 m] 36)).alloc (.cells #[.int .i64 q, .bool y] 58)).alloc (.cells #[.slice none 0 0, .int .i64 0] 36) = wa at HT HU HR HB HI ⊢
  refine (HC.out wa HI.out).mono ?_
  rintro e wb ⟨rfl, hb⟩
  replace HT := Lib.hid (HT.out.step hb)
  replace HU := Lib.hid (HU.out.step hb)
  replace HR := Lib.hid (HR.out.step hb)
  replace HI := Lib.hid (HI.out.step hb)
  replace HB := Lib.hid (below_trans HB.out hb)
  clear hb HC
  have h0 := HT.out.c0
  have h1 := HT.out.c1
  have h2 := HU.out.c0
  have h3 := HU.out.c1
  have r0 := HR.out.c0
  have r1 := HR.out.c1
  have r2 := HR.out.f0
  have r3 := HR.out.f1
  go_wp2_with fail
  refine (HD.out wb).mono ?_
  rintro e w1 ⟨rfl, rfl⟩
  go_wp2
  obtain ⟨hs, hw⟩ := stored2 HR.out.row (.slice none 0 0) (.int .i64 0)
  generalize ((w1.setCell ⟨w.heap.size + 1 + 1, 0, none⟩ (.slice none 0 0)).setCell ⟨w.heap.size + 1 + 1, 1, none⟩ (.int .i64 0)) = wf at hs hw ⊢
  have e0 := two0 hs
  have e1 := two1 hs
  refine bodyPost_ret (v := .tuple #[.agg #[.slice none 0 0, .int .i64 0], .bool false]) (by simp [results, go_sem, e0, e1]) rfl ?_
  exact ⟨rfl, HB.out.trans (hw.below (by omega) HB.out.size)⟩
set_option maxHeartbeats 2000000 in
theorem answerState_spec_no (A : Option Addr) (c lo hi : Nat) (zs : List Int) (m q : Int) (y : Bool) (w : World) (hS : Ins w lo hi A zs) (hl : zs.length ≤ 1048576) (hst : isSt zs m = false) :
    Calls Try.prog 45 #[.agg #[.slice A zs.length c, .int .i64 m], .agg #[.int .i64 q, .bool y]] w fun e w' => e = .returned (.tuple #[.agg #[.slice none 0 0, .int .i64 0], .bool false]) ∧ Below w.heap.size w w' := by
  have HC := Lib.hid (fun W h => l2State_any A c lo hi zs m W h hl)
  rw [hst] at HC
  have HT := Lib.hid (Two.new w (.slice A zs.length c) (.int .i64 m) 36 w.heap.size rfl)
  have HB := Lib.hid ((Below.refl w.heap.size w).alloc (Nat.le_refl _) (.cells #[.slice A zs.length c, .int .i64 m] 36))
  have HU := Lib.hid (Two.new (w.alloc (.cells #[.slice A zs.length c, .int .i64 m] 36)) (.int .i64 q) (.bool y) 58 (w.heap.size + 1) (by simp))
  replace HT := Lib.hid (HT.out.step ((Below.refl _ _).alloc (Nat.le_refl _) (.cells #[.int .i64 q, .bool y] 58)))
  replace HB := Lib.hid (HB.out.alloc HB.out.size (.cells #[.int .i64 q, .bool y] 58))
  have HR := Lib.hid (Two.new ((w.alloc (.cells #[.slice A zs.length c, .int .i64 m] 36)).alloc (.cells #[.int .i64 q, .bool y] 58)) (.slice none 0 0) (.int .i64 0) 36 (w.heap.size + 1 + 1) (by simp))
  replace HT := Lib.hid (HT.out.step ((Below.refl _ _).alloc (Nat.le_refl _) (.cells #[.slice none 0 0, .int .i64 0] 36)))
  replace HU := Lib.hid (HU.out.step ((Below.refl _ _).alloc (Nat.le_refl _) (.cells #[.slice none 0 0, .int .i64 0] 36)))
  replace HB := Lib.hid (HB.out.alloc HB.out.size (.cells #[.slice none 0 0, .int .i64 0] 36))
  have HI := Lib.hid (hS.step HB.out)
  clear hS hst
  go_enter Try.func45, Try.ntmps45
  go_wp2_with fail
  generalize ((w.alloc (.cells #[.slice A zs.length c, .int .i64 m] 36)).alloc (.cells #[.int .i64 q, .bool y] 58)).alloc (.cells #[.slice none 0 0, .int .i64 0] 36) = wa at HT HU HR HB HI ⊢
  refine (HC.out wa HI.out).mono ?_
  rintro e wb ⟨rfl, hb⟩
  replace HT := Lib.hid (HT.out.step hb)
  replace HU := Lib.hid (HU.out.step hb)
  replace HR := Lib.hid (HR.out.step hb)
  replace HI := Lib.hid (HI.out.step hb)
  replace HB := Lib.hid (below_trans HB.out hb)
  clear hb HC
  have h0 := HT.out.c0
  have h1 := HT.out.c1
  have h2 := HU.out.c0
  have h3 := HU.out.c1
  have r0 := HR.out.c0
  have r1 := HR.out.c1
  have r2 := HR.out.f0
  have r3 := HR.out.f1
  go_wp2
  obtain ⟨hs, hw⟩ := stored2 HR.out.row (.slice none 0 0) (.int .i64 0)
  generalize ((wb.setCell ⟨w.heap.size + 1 + 1, 0, none⟩ (.slice none 0 0)).setCell ⟨w.heap.size + 1 + 1, 1, none⟩ (.int .i64 0)) = wf at hs hw ⊢
  have e0 := two0 hs
  have e1 := two1 hs
  refine bodyPost_ret (v := .tuple #[.agg #[.slice none 0 0, .int .i64 0], .bool false]) (by simp [results, go_sem, e0, e1]) rfl ?_
  exact ⟨rfl, HB.out.trans (hw.below (by omega) HB.out.size)⟩
set_option maxHeartbeats 2000000 in
theorem answerState_spec_bad (A : Option Addr) (c lo hi : Nat) (zs : List Int) (m q : Int) (y : Bool) (w : World) (hS : Ins w lo hi A zs) (hl : zs.length ≤ 1048576) (hst : isSt zs m = true) (hq : qOK zs.length q = false) :
    Calls Try.prog 45 #[.agg #[.slice A zs.length c, .int .i64 m], .agg #[.int .i64 q, .bool y]] w fun e w' => e = .returned (.tuple #[.agg #[.slice none 0 0, .int .i64 0], .bool false]) ∧ Below w.heap.size w w' := by
  have HC := Lib.hid (fun W h => l2State_any A c lo hi zs m W h hl)
  rw [hst] at HC
  have HD := Lib.hid (fun W => l2Question_any A zs.length c m q W)
  rw [hq] at HD
  have HT := Lib.hid (Two.new w (.slice A zs.length c) (.int .i64 m) 36 w.heap.size rfl)
  have HB := Lib.hid ((Below.refl w.heap.size w).alloc (Nat.le_refl _) (.cells #[.slice A zs.length c, .int .i64 m] 36))
  have HU := Lib.hid (Two.new (w.alloc (.cells #[.slice A zs.length c, .int .i64 m] 36)) (.int .i64 q) (.bool y) 58 (w.heap.size + 1) (by simp))
  replace HT := Lib.hid (HT.out.step ((Below.refl _ _).alloc (Nat.le_refl _) (.cells #[.int .i64 q, .bool y] 58)))
  replace HB := Lib.hid (HB.out.alloc HB.out.size (.cells #[.int .i64 q, .bool y] 58))
  have HR := Lib.hid (Two.new ((w.alloc (.cells #[.slice A zs.length c, .int .i64 m] 36)).alloc (.cells #[.int .i64 q, .bool y] 58)) (.slice none 0 0) (.int .i64 0) 36 (w.heap.size + 1 + 1) (by simp))
  replace HT := Lib.hid (HT.out.step ((Below.refl _ _).alloc (Nat.le_refl _) (.cells #[.slice none 0 0, .int .i64 0] 36)))
  replace HU := Lib.hid (HU.out.step ((Below.refl _ _).alloc (Nat.le_refl _) (.cells #[.slice none 0 0, .int .i64 0] 36)))
  replace HB := Lib.hid (HB.out.alloc HB.out.size (.cells #[.slice none 0 0, .int .i64 0] 36))
  have HI := Lib.hid (hS.step HB.out)
  clear hS hst hq
  go_enter Try.func45, Try.ntmps45
  go_wp2_with fail
  generalize ((w.alloc (.cells #[.slice A zs.length c, .int .i64 m] 36)).alloc (.cells #[.int .i64 q, .bool y] 58)).alloc (.cells #[.slice none 0 0, .int .i64 0] 36) = wa at HT HU HR HB HI ⊢
  refine (HC.out wa HI.out).mono ?_
  rintro e wb ⟨rfl, hb⟩
  replace HT := Lib.hid (HT.out.step hb)
  replace HU := Lib.hid (HU.out.step hb)
  replace HR := Lib.hid (HR.out.step hb)
  replace HI := Lib.hid (HI.out.step hb)
  replace HB := Lib.hid (below_trans HB.out hb)
  clear hb HC
  have h0 := HT.out.c0
  have h1 := HT.out.c1
  have h2 := HU.out.c0
  have h3 := HU.out.c1
  have r0 := HR.out.c0
  have r1 := HR.out.c1
  have r2 := HR.out.f0
  have r3 := HR.out.f1
  go_wp2_with fail
  refine (HD.out wb).mono ?_
  rintro e w1 ⟨rfl, hb⟩
  replace HR := Lib.hid (HR.out.step hb)
  replace HB := Lib.hid (below_trans HB.out hb)
  clear hb h0 h1 h2 h3 r0 r1 r2 r3
  have r0 := HR.out.c0
  have r1 := HR.out.c1
  have r2 := HR.out.f0
  have r3 := HR.out.f1
  go_wp2
  obtain ⟨hs, hw⟩ := stored2 HR.out.row (.slice none 0 0) (.int .i64 0)
  generalize ((w1.setCell ⟨w.heap.size + 1 + 1, 0, none⟩ (.slice none 0 0)).setCell ⟨w.heap.size + 1 + 1, 1, none⟩ (.int .i64 0)) = wf at hs hw ⊢
  have e0 := two0 hs
  have e1 := two1 hs
  refine bodyPost_ret (v := .tuple #[.agg #[.slice none 0 0, .int .i64 0], .bool false]) (by simp [results, go_sem, e0, e1]) rfl ?_
  exact ⟨rfl, HB.out.trans (hw.below (by omega) HB.out.size)⟩
set_option maxHeartbeats 2000000 in
theorem answerState_spec (A : Option Addr) (c lo hi : Nat) (zs : List Int) (m q : Int) (y : Bool) (w : World) (hS : Ins w lo hi A zs) (hst : isSt zs m = true) (hq : qOK zs.length q = true) :
    Calls Try.prog 45 #[.agg #[.slice A zs.length c, .int .i64 m], .agg #[.int .i64 q, .bool y]] w fun e w' => ∃ g c', e = .returned (.tuple #[.agg #[.slice (some ⟨g, 0, none⟩) zs.length c', .int .i64 m], .bool true]) ∧ w.heap.size ≤ g ∧ Own w' g (g + 1) (some ⟨g, 0, none⟩) (afters zs m q y) ∧ Below w.heap.size w w' := by
  have hl := (isSt_len hst).2.1
  have HC := Lib.hid (fun W h => l2State_any A c lo hi zs m W h (by omega))
  rw [hst] at HC
  have HD := Lib.hid (fun W => l2Question_any A zs.length c m q W)
  rw [hq] at HD
  have HT := Lib.hid (Two.new w (.slice A zs.length c) (.int .i64 m) 36 w.heap.size rfl)
  have HB := Lib.hid ((Below.refl w.heap.size w).alloc (Nat.le_refl _) (.cells #[.slice A zs.length c, .int .i64 m] 36))
  have HU := Lib.hid (Two.new (w.alloc (.cells #[.slice A zs.length c, .int .i64 m] 36)) (.int .i64 q) (.bool y) 58 (w.heap.size + 1) (by simp))
  replace HT := Lib.hid (HT.out.step ((Below.refl _ _).alloc (Nat.le_refl _) (.cells #[.int .i64 q, .bool y] 58)))
  replace HB := Lib.hid (HB.out.alloc HB.out.size (.cells #[.int .i64 q, .bool y] 58))
  have HR := Lib.hid (Two.new ((w.alloc (.cells #[.slice A zs.length c, .int .i64 m] 36)).alloc (.cells #[.int .i64 q, .bool y] 58)) (.slice none 0 0) (.int .i64 0) 36 (w.heap.size + 1 + 1) (by simp))
  replace HT := Lib.hid (HT.out.step ((Below.refl _ _).alloc (Nat.le_refl _) (.cells #[.slice none 0 0, .int .i64 0] 36)))
  replace HU := Lib.hid (HU.out.step ((Below.refl _ _).alloc (Nat.le_refl _) (.cells #[.slice none 0 0, .int .i64 0] 36)))
  replace HB := Lib.hid (HB.out.alloc HB.out.size (.cells #[.slice none 0 0, .int .i64 0] 36))
  have HI := Lib.hid (hS.step HB.out)
  have HL := Lib.hid (fun W h => l2After_any A c lo hi zs m q y W h hst)
  clear hS hst hq
  go_enter Try.func45, Try.ntmps45
  go_wp2_with fail
  generalize ((w.alloc (.cells #[.slice A zs.length c, .int .i64 m] 36)).alloc (.cells #[.int .i64 q, .bool y] 58)).alloc (.cells #[.slice none 0 0, .int .i64 0] 36) = wa at HT HU HR HB HI ⊢
  refine (HC.out wa HI.out).mono ?_
  rintro e wb ⟨rfl, hb⟩
  replace HT := Lib.hid (HT.out.step hb)
  replace HU := Lib.hid (HU.out.step hb)
  replace HR := Lib.hid (HR.out.step hb)
  replace HI := Lib.hid (HI.out.step hb)
  replace HB := Lib.hid (below_trans HB.out hb)
  clear hb HC
  have h0 := HT.out.c0
  have h1 := HT.out.c1
  have h2 := HU.out.c0
  have h3 := HU.out.c1
  have r0 := HR.out.c0
  have r1 := HR.out.c1
  have r2 := HR.out.f0
  have r3 := HR.out.f1
  go_wp2_with fail
  refine (HD.out wb).mono ?_
  rintro e w1 ⟨rfl, hb⟩
  replace HT := Lib.hid (HT.out.step hb)
  replace HU := Lib.hid (HU.out.step hb)
  replace HR := Lib.hid (HR.out.step hb)
  replace HI := Lib.hid (HI.out.step hb)
  replace HB := Lib.hid (below_trans HB.out hb)
  clear hb h0 h1 h2 h3 r0 r1 r2 r3
  have h0 := HT.out.c0
  have h1 := HT.out.c1
  have h2 := HU.out.c0
  have h3 := HU.out.c1
  go_wp2_with fail
  refine (HL.out w1 HI.out).mono ?_
  rintro e wd ⟨g, c', rfl, hg, ho, hb⟩
  have hgu : w.heap.size + 1 + 1 < g := Nat.lt_of_lt_of_le HR.out.lt hg
  have HO := Lib.hid ho
  replace HR := Lib.hid (HR.out.step hb)
  replace HB := Lib.hid (below_trans HB.out hb)
  clear hb ho h0 h1 h2 h3 HT HU HI
  have r0 := HR.out.c0
  have r1 := HR.out.c1
  have r2 := HR.out.f0
  have r3 := HR.out.f1
  go_wp2
  obtain ⟨hs, hw⟩ := stored2 HR.out.row (.slice (some ⟨g, 0, none⟩) zs.length c') (.int .i64 m)
  generalize ((wd.setCell ⟨w.heap.size + 1 + 1, 0, none⟩ (.slice (some ⟨g, 0, none⟩) zs.length c')).setCell ⟨w.heap.size + 1 + 1, 1, none⟩ (.int .i64 m)) = wf at hs hw ⊢
  have e0 := two0 hs
  have e1 := two1 hs
  refine bodyPost_ret (v := .tuple #[.agg #[.slice (some ⟨g, 0, none⟩) zs.length c', .int .i64 m], .bool true]) (by simp [results, go_sem, e0, e1]) rfl ?_
  exact ⟨g, c', rfl, by omega, own_same HO.out (hw.block g (own_lt HO.out) (.inr (by omega))), HB.out.trans (hw.below (by omega) HB.out.size)⟩
theorem answerState_both (zs : List Int) (m : Int) (h : zs.length ≤ 1048576) (q : Int) (y : Bool) : ∃ (r0 : List Int) (u0 : Int) (r1 : Bool), r0.length ≤ 1048576 ∧
    (∀ (w : World) (B : Option Addr) (c lo hi : Nat), Ins w lo hi B zs → Calls Try.prog 47 #[.agg #[.slice B zs.length c, .int .i64 m], .agg #[.int .i64 q, .bool y]] w fun e w' => ∃ B c', e = .returned (.tuple #[.agg #[.slice B r0.length c', .int .i64 u0], .bool r1]) ∧ Res w' w.heap.size w'.heap.size B r0 ∧ Below w.heap.size w w') ∧
    (∀ (w : World) (B : Option Addr) (c lo hi : Nat), Ins w lo hi B zs → Calls Try.prog 45 #[.agg #[.slice B zs.length c, .int .i64 m], .agg #[.int .i64 q, .bool y]] w fun e w' => ∃ B c', e = .returned (.tuple #[.agg #[.slice B r0.length c', .int .i64 u0], .bool r1]) ∧ Res w' w.heap.size w'.heap.size B r0 ∧ Below w.heap.size w w') := by
  cases hst : isSt zs m with
  | false =>
    refine ⟨[], 0, false, by simp, fun w B c lo hi hS => ?_, fun w B c lo hi hS => ?_⟩
    · refine (answerState_impl_no B c lo hi zs m q y w hS h hst).mono ?_
      rintro e w' ⟨rfl, hb⟩
      exact ⟨none, 0, rfl, Res.none w' _ _ (Nat.le_refl _), hb⟩
    · refine (answerState_spec_no B c lo hi zs m q y w hS h hst).mono ?_
      rintro e w' ⟨rfl, hb⟩
      exact ⟨none, 0, rfl, Res.none w' _ _ (Nat.le_refl _), hb⟩
  | true =>
    cases hq : qOK zs.length q with
    | false =>
      refine ⟨[], 0, false, by simp, fun w B c lo hi hS => ?_, fun w B c lo hi hS => ?_⟩
      · refine (answerState_impl_bad B c lo hi zs m q y w hS h hst hq).mono ?_
        rintro e w' ⟨rfl, hb⟩
        exact ⟨none, 0, rfl, Res.none w' _ _ (Nat.le_refl _), hb⟩
      · refine (answerState_spec_bad B c lo hi zs m q y w hS h hst hq).mono ?_
        rintro e w' ⟨rfl, hb⟩
        exact ⟨none, 0, rfl, Res.none w' _ _ (Nat.le_refl _), hb⟩
    | true =>
      have hal := afters_len zs m q y
      refine ⟨afters zs m q y, m, true, by rw [hal]; exact h, fun w B c lo hi hS => ?_, fun w B c lo hi hS => ?_⟩
      · refine (answerState_impl B c lo hi zs m q y w hS hst hq).mono ?_
        rintro e w' ⟨g, rfl, hg, hr, hb⟩
        exact ⟨_, zs.length, by rw [hal], ⟨.inr ⟨g, _, rfl, hg, row_ltI hr, hr, by simp, fun j x hx => by simp [hx]⟩, Nat.le_refl _⟩, hb⟩
      · refine (answerState_spec B c lo hi zs m q y w hS hst hq).mono ?_
        rintro e w' ⟨g, c', rfl, hg, ho, hb⟩
        exact ⟨_, c', by rw [hal], ⟨ho.wide hg (own_lt ho), Nat.le_refl _⟩, hb⟩
set_option maxHeartbeats 1000000 in
theorem toAsked_any (q : Int) (y : Bool) (w : World) :
    Calls Try.prog 46 #[.agg #[.int .i64 q, .bool y]] w fun e w' => e = .returned (.agg #[.int .i64 q, .bool y]) ∧ Below w.heap.size w w' := by
  go_enter Try.func46, Try.ntmps46
  go_wp2
  refine bodyPost_ret (v := .agg #[.int .i64 q, .bool y]) (by simp [results, go_sem]) rfl ?_
  exact ⟨rfl, (((Below.refl _ _).alloc (Nat.le_refl _) _).alloc (by simp) _).alloc (by simp; omega) _⟩
end Go.Proofs.Ytkdhmhbabbeokaa
