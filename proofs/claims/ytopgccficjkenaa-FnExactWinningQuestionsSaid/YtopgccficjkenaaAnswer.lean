/- AnswerState: both functions' contracts. -/
import Derived.Test.YtopgccficjkenaaAfter2
namespace Go.Proofs.Ytopgccficjkenaa
open Go.RowKit Go.ChangeShapes Go.WideShapes
set_option linter.unusedVariables false

set_option maxHeartbeats 2000000 in
theorem answerState_impl_no (A : Option Addr) (c lo hi : Nat) (zs : List Int) (m q : Int) (y : Bool) (w : World) (hS : Ins w lo hi A zs) (hl : zs.length ≤ 1048576) (hst : isSt zs m = false) :
    Calls Try.prog 45 #[.agg #[.slice A zs.length c, .int .i64 m], .agg #[.int .i64 q, .bool y]] w fun e w' => e = .returned (.tuple #[.agg #[.slice none 0 0, .int .i64 0], .bool false]) ∧ Below w.heap.size w w' := by
  have HC := Lib.hid (fun W h => isState_impl A c lo hi zs m W h hl)
  rw [hst] at HC
  have HT := Lib.hid (Two.new w (.slice A zs.length c) (.int .i64 m) 26 w.heap.size rfl)
  have HB := Lib.hid ((Below.refl w.heap.size w).alloc (Nat.le_refl _) (.cells #[.slice A zs.length c, .int .i64 m] 26))
  have HU := Lib.hid (Two.new (w.alloc (.cells #[.slice A zs.length c, .int .i64 m] 26)) (.int .i64 q) (.bool y) 54 (w.heap.size + 1) (by simp))
  replace HT := Lib.hid (HT.out.step ((Below.refl _ _).alloc (Nat.le_refl _) (.cells #[.int .i64 q, .bool y] 54)))
  replace HB := Lib.hid (HB.out.alloc HB.out.size (.cells #[.int .i64 q, .bool y] 54))
  have HR := Lib.hid (Two.new ((w.alloc (.cells #[.slice A zs.length c, .int .i64 m] 26)).alloc (.cells #[.int .i64 q, .bool y] 54)) (.slice none 0 0) (.int .i64 0) 26 (w.heap.size + 1 + 1) (by simp))
  replace HT := Lib.hid (HT.out.step ((Below.refl _ _).alloc (Nat.le_refl _) (.cells #[.slice none 0 0, .int .i64 0] 26)))
  replace HU := Lib.hid (HU.out.step ((Below.refl _ _).alloc (Nat.le_refl _) (.cells #[.slice none 0 0, .int .i64 0] 26)))
  replace HB := Lib.hid (HB.out.alloc HB.out.size (.cells #[.slice none 0 0, .int .i64 0] 26))
  have HI := Lib.hid (hS.step HB.out)
  clear hS hst
  go_enter Try.func45, Try.ntmps45
  go_wp2_with fail
  generalize ((w.alloc (.cells #[.slice A zs.length c, .int .i64 m] 26)).alloc (.cells #[.int .i64 q, .bool y] 54)).alloc (.cells #[.slice none 0 0, .int .i64 0] 26) = wa at HT HU HR HB HI ⊢
  refine (HC.out wa HI.out).mono ?_
  rintro e wb ⟨rfl, hb⟩
  replace HT := Lib.hid (HT.out.step hb)
  replace HU := Lib.hid (HU.out.step hb)
  replace HR := Lib.hid (HR.out.step hb)
  replace HI := Lib.hid (HI.out.step hb)
  replace HB := Lib.hid (below_trans HB.out hb)
  clear hb HC
  have h0 := HT.out.c0
  have h1 := HT.out.c1
  have h2 := HU.out.c0
  have h3 := HU.out.c1
  have r0 := HR.out.c0
  have r1 := HR.out.c1
  have r2 := HR.out.f0
  have r3 := HR.out.f1
  go_wp2
  obtain ⟨hs, hw⟩ := stored2 HR.out.row (.slice none 0 0) (.int .i64 0)
  generalize ((wb.setCell ⟨w.heap.size + 1 + 1, 0, none⟩ (.slice none 0 0)).setCell ⟨w.heap.size + 1 + 1, 1, none⟩ (.int .i64 0)) = wf at hs hw ⊢
  have e0 := two0 hs
  have e1 := two1 hs
  refine bodyPost_ret (v := .tuple #[.agg #[.slice none 0 0, .int .i64 0], .bool false]) (by simp [results, go_sem, e0, e1]) rfl ?_
  exact ⟨rfl, HB.out.trans (hw.below (by omega) HB.out.size)⟩
set_option maxHeartbeats 2000000 in
theorem answerState_impl_bad (A : Option Addr) (c lo hi : Nat) (zs : List Int) (m q : Int) (y : Bool) (w : World) (hS : Ins w lo hi A zs) (hl : zs.length ≤ 1048576) (hst : isSt zs m = true) (hq : qOK zs.length q = false) :
    Calls Try.prog 45 #[.agg #[.slice A zs.length c, .int .i64 m], .agg #[.int .i64 q, .bool y]] w fun e w' => e = .returned (.tuple #[.agg #[.slice none 0 0, .int .i64 0], .bool false]) ∧ Below w.heap.size w w' := by
  have HC := Lib.hid (fun W h => isState_impl A c lo hi zs m W h hl)
  rw [hst] at HC
  have HD := Lib.hid (fun W => isQuestion_any (zs.length : Int) q W)
  rw [hq] at HD
  have HT := Lib.hid (Two.new w (.slice A zs.length c) (.int .i64 m) 26 w.heap.size rfl)
  have HB := Lib.hid ((Below.refl w.heap.size w).alloc (Nat.le_refl _) (.cells #[.slice A zs.length c, .int .i64 m] 26))
  have HU := Lib.hid (Two.new (w.alloc (.cells #[.slice A zs.length c, .int .i64 m] 26)) (.int .i64 q) (.bool y) 54 (w.heap.size + 1) (by simp))
  replace HT := Lib.hid (HT.out.step ((Below.refl _ _).alloc (Nat.le_refl _) (.cells #[.int .i64 q, .bool y] 54)))
  replace HB := Lib.hid (HB.out.alloc HB.out.size (.cells #[.int .i64 q, .bool y] 54))
  have HR := Lib.hid (Two.new ((w.alloc (.cells #[.slice A zs.length c, .int .i64 m] 26)).alloc (.cells #[.int .i64 q, .bool y] 54)) (.slice none 0 0) (.int .i64 0) 26 (w.heap.size + 1 + 1) (by simp))
  replace HT := Lib.hid (HT.out.step ((Below.refl _ _).alloc (Nat.le_refl _) (.cells #[.slice none 0 0, .int .i64 0] 26)))
  replace HU := Lib.hid (HU.out.step ((Below.refl _ _).alloc (Nat.le_refl _) (.cells #[.slice none 0 0, .int .i64 0] 26)))
  replace HB := Lib.hid (HB.out.alloc HB.out.size (.cells #[.slice none 0 0, .int .i64 0] 26))
  have HI := Lib.hid (hS.step HB.out)
  clear hS hst hq
  go_enter Try.func45, Try.ntmps45
  go_wp2_with fail
  generalize ((w.alloc (.cells #[.slice A zs.length c, .int .i64 m] 26)).alloc (.cells #[.int .i64 q, .bool y] 54)).alloc (.cells #[.slice none 0 0, .int .i64 0] 26) = wa at HT HU HR HB HI ⊢
  refine (HC.out wa HI.out).mono ?_
  rintro e wb ⟨rfl, hb⟩
  replace HT := Lib.hid (HT.out.step hb)
  replace HU := Lib.hid (HU.out.step hb)
  replace HR := Lib.hid (HR.out.step hb)
  replace HI := Lib.hid (HI.out.step hb)
  replace HB := Lib.hid (below_trans HB.out hb)
  clear hb HC
  have h0 := HT.out.c0
  have h1 := HT.out.c1
  have h2 := HU.out.c0
  have h3 := HU.out.c1
  have r0 := HR.out.c0
  have r1 := HR.out.c1
  have r2 := HR.out.f0
  have r3 := HR.out.f1
  go_wp2_with fail
  refine (HD.out wb).mono ?_
  rintro e w1 ⟨rfl, rfl⟩
  go_wp2
  obtain ⟨hs, hw⟩ := stored2 HR.out.row (.slice none 0 0) (.int .i64 0)
  generalize ((w1.setCell ⟨w.heap.size + 1 + 1, 0, none⟩ (.slice none 0 0)).setCell ⟨w.heap.size + 1 + 1, 1, none⟩ (.int .i64 0)) = wf at hs hw ⊢
  have e0 := two0 hs
  have e1 := two1 hs
  refine bodyPost_ret (v := .tuple #[.agg #[.slice none 0 0, .int .i64 0], .bool false]) (by simp [results, go_sem, e0, e1]) rfl ?_
  exact ⟨rfl, HB.out.trans (hw.below (by omega) HB.out.size)⟩
end Go.Proofs.Ytopgccficjkenaa
