/- The answerer: the state at the end of answers, of the program and of the specification. -/
import Derived.Test.YtbgdnidbdfhgjaaL8D
namespace Go.Proofs.Ytbgdnidbdfhgjaa
open Go.RowKit Go.ChangeShapes Go.WideShapes Go.Maps
set_option linter.unusedVariables false

theorem stored2z {w : World} {b : Nat} {x0 y0 : Value} {t : TypeId} (h : Two w b x0 y0 t) (x y : Value) : ((w.setCell ⟨b, 0, none⟩ x).setCell ⟨b, 1, none⟩ y).heap[b]? = some (.cells #[x, y] t (0, 0)) ∧ Within b (b + 1) w ((w.setCell ⟨b, 0, none⟩ x).setCell ⟨b, 1, none⟩ y) := stored2 h.row x y
theorem own_ins8 {w : World} {g : Nat} {l : List Int} (h : Own w g (g + 1) (some ⟨g, 0, none⟩) l) : Ins w g (g + 1) (some ⟨g, 0, none⟩) l := ⟨h.ints, own_lt h⟩
theorem Own.to_res {w : World} {g B : Nat} {l : List Int} (h : Own w g (g + 1) (some ⟨g, 0, none⟩) l) (hB : B ≤ g) : Res w B w.heap.size (some ⟨g, 0, none⟩) l := ⟨h.wide hB (by have := own_lt h; omega), Nat.le_refl _⟩
set_option maxRecDepth 100000 in
set_option maxHeartbeats 8000000 in
theorem answerList_impl_no1 (A : Option Addr) (c lo hi : Nat) (zs : List Int) (m : Int) (A2 : Option Addr) (c2 lo2 hi2 : Nat) (qs : List Int) (A3 : Option Addr) (c3 lo3 hi3 : Nat) (bs : List Bool) (w : World) (hS : Ins w lo hi A zs) (hQ : Ins w lo2 hi2 A2 qs) (hA : BIns w lo3 hi3 A3 bs) (hn : zs.length ≤ 1048576) (hn2 : qs.length ≤ 1048576) (hn3 : bs.length ≤ 1048576) (hok : lOK zs m qs = false) :
    Calls Try.prog 20 #[.agg #[.slice A zs.length c, .int .i64 m], .slice A2 qs.length c2, .slice A3 bs.length c3] w fun e w' => e = .returned (.tuple #[.agg #[.slice none 0 0, .int .i64 0], .bool false]) ∧ Below w.heap.size w w' := by
  have HT := Lib.hid (Two.new w (.slice A zs.length c) (.int .i64 m) 27 (w.heap.size) rfl)
  have HB := Lib.hid ((Below.refl w.heap.size w).alloc (Nat.le_refl _) (.cells #[.slice A zs.length c, .int .i64 m] 27))
  have HR := Lib.hid (Two.new (w.alloc (.cells #[.slice A zs.length c, .int .i64 m] 27)) (.slice none 0 0) (.int .i64 0) 27 (w.heap.size + 1) (by simp))
  replace HT := Lib.hid (HT.out.step ((Below.refl _ _).alloc (Nat.le_refl _) (.cells #[.slice none 0 0, .int .i64 0] 27)))
  replace HB := Lib.hid (HB.out.alloc HB.out.size (.cells #[.slice none 0 0, .int .i64 0] 27))
  have htop := hS.top
  have htop2 := hQ.top
  have htop3 := hA.top
  have HI := Lib.hid (hS.step HB.out)
  have HQ := Lib.hid (hQ.step HB.out)
  have HA := Lib.hid (hA.step HB.out)
  have HG := Lib.hid (fun W h h2 => areListed_any A c lo hi zs m A2 c2 lo2 hi2 qs W h h2 hn hn2)
  rw [hok] at HG
  clear hS hQ hA hok
  go_enter Try.func20, Try.ntmps20
  go_wp2_with fail
  generalize (w.alloc (.cells #[.slice A zs.length c, .int .i64 m] 27)).alloc (.cells #[.slice none 0 0, .int .i64 0] 27) = w0 at HT HR HB HI HQ HA ⊢
  have h0 := HT.out.c0
  have h1 := HT.out.c1
  with_reducible refine (HG.out _ HI.out HQ.out).mono ?_
  rintro e w1 ⟨rfl, hb⟩
  replace HT := Lib.hid (HT.out.step hb)
  replace HR := Lib.hid (HR.out.step hb)
  replace HB := Lib.hid (below_trans HB.out hb)
  replace HI := Lib.hid (HI.out.step hb)
  replace HQ := Lib.hid (HQ.out.step hb)
  replace HA := Lib.hid (HA.out.step hb)
  replace h0 := HT.out.c0
  replace h1 := HT.out.c1
  clear hb
  clear h0 h1
  have q0 := HR.out.c0
  have q1 := HR.out.c1
  have q2 := HR.out.f0
  have q3 := HR.out.f1
  go_wp2
  obtain ⟨hs, hw⟩ := stored2 HR.out.row (.slice none 0 0) (.int .i64 0)
  generalize ((w1.setCell ⟨w.heap.size + 1, 0, none⟩ (.slice none 0 0)).setCell ⟨w.heap.size + 1, 1, none⟩ (.int .i64 0)) = wf at hs hw ⊢
  have e0 := two0 hs
  have e1 := two1 hs
  refine bodyPost_ret (v := .tuple #[.agg #[.slice none 0 0, .int .i64 0], .bool false]) (by simp [results, go_sem, e0, e1]) rfl ?_
  exact ⟨rfl, HB.out.trans (hw.below (by omega) HB.out.size)⟩
set_option maxRecDepth 100000 in
set_option maxHeartbeats 8000000 in
theorem answerList_impl_no2 (A : Option Addr) (c lo hi : Nat) (zs : List Int) (m : Int) (A2 : Option Addr) (c2 lo2 hi2 : Nat) (qs : List Int) (A3 : Option Addr) (c3 lo3 hi3 : Nat) (bs : List Bool) (w : World) (hS : Ins w lo hi A zs) (hQ : Ins w lo2 hi2 A2 qs) (hA : BIns w lo3 hi3 A3 bs) (hn : zs.length ≤ 1048576) (hn2 : qs.length ≤ 1048576) (hn3 : bs.length ≤ 1048576) (hok : lOK zs m qs = true) (hne : ¬ bs.length = qs.length) :
    Calls Try.prog 20 #[.agg #[.slice A zs.length c, .int .i64 m], .slice A2 qs.length c2, .slice A3 bs.length c3] w fun e w' => e = .returned (.tuple #[.agg #[.slice none 0 0, .int .i64 0], .bool false]) ∧ Below w.heap.size w w' := by
  have HT := Lib.hid (Two.new w (.slice A zs.length c) (.int .i64 m) 27 (w.heap.size) rfl)
  have HB := Lib.hid ((Below.refl w.heap.size w).alloc (Nat.le_refl _) (.cells #[.slice A zs.length c, .int .i64 m] 27))
  have HR := Lib.hid (Two.new (w.alloc (.cells #[.slice A zs.length c, .int .i64 m] 27)) (.slice none 0 0) (.int .i64 0) 27 (w.heap.size + 1) (by simp))
  replace HT := Lib.hid (HT.out.step ((Below.refl _ _).alloc (Nat.le_refl _) (.cells #[.slice none 0 0, .int .i64 0] 27)))
  replace HB := Lib.hid (HB.out.alloc HB.out.size (.cells #[.slice none 0 0, .int .i64 0] 27))
  have htop := hS.top
  have htop2 := hQ.top
  have htop3 := hA.top
  have HI := Lib.hid (hS.step HB.out)
  have HQ := Lib.hid (hQ.step HB.out)
  have HA := Lib.hid (hA.step HB.out)
  have HG := Lib.hid (fun W h h2 => areListed_any A c lo hi zs m A2 c2 lo2 hi2 qs W h h2 hn hn2)
  rw [hok] at HG
  have hneI : ¬ (bs.length : Int) = (qs.length : Int) := by omega
  clear hS hQ hA hok hne
  go_enter Try.func20, Try.ntmps20
  go_wp2_with fail
  generalize (w.alloc (.cells #[.slice A zs.length c, .int .i64 m] 27)).alloc (.cells #[.slice none 0 0, .int .i64 0] 27) = w0 at HT HR HB HI HQ HA ⊢
  have h0 := HT.out.c0
  have h1 := HT.out.c1
  with_reducible refine (HG.out _ HI.out HQ.out).mono ?_
  rintro e w1 ⟨rfl, hb⟩
  replace HT := Lib.hid (HT.out.step hb)
  replace HR := Lib.hid (HR.out.step hb)
  replace HB := Lib.hid (below_trans HB.out hb)
  replace HI := Lib.hid (HI.out.step hb)
  replace HQ := Lib.hid (HQ.out.step hb)
  replace HA := Lib.hid (HA.out.step hb)
  replace h0 := HT.out.c0
  replace h1 := HT.out.c1
  clear hb
  clear h0 h1
  have q0 := HR.out.c0
  have q1 := HR.out.c1
  have q2 := HR.out.f0
  have q3 := HR.out.f1
  go_wp2
  obtain ⟨hs, hw⟩ := stored2 HR.out.row (.slice none 0 0) (.int .i64 0)
  generalize ((w1.setCell ⟨w.heap.size + 1, 0, none⟩ (.slice none 0 0)).setCell ⟨w.heap.size + 1, 1, none⟩ (.int .i64 0)) = wf at hs hw ⊢
  have e0 := two0 hs
  have e1 := two1 hs
  refine bodyPost_ret (v := .tuple #[.agg #[.slice none 0 0, .int .i64 0], .bool false]) (by simp [results, go_sem, e0, e1]) rfl ?_
  exact ⟨rfl, HB.out.trans (hw.below (by omega) HB.out.size)⟩
set_option maxRecDepth 100000 in
set_option maxHeartbeats 8000000 in
theorem answerList_spec_no1 (A : Option Addr) (c lo hi : Nat) (zs : List Int) (m : Int) (A2 : Option Addr) (c2 lo2 hi2 : Nat) (qs : List Int) (A3 : Option Addr) (c3 lo3 hi3 : Nat) (bs : List Bool) (w : World) (hS : Ins w lo hi A zs) (hQ : Ins w lo2 hi2 A2 qs) (hA : BIns w lo3 hi3 A3 bs) (hn : zs.length ≤ 1048576) (hn2 : qs.length ≤ 1048576) (hn3 : bs.length ≤ 1048576) (hok : lOK zs m qs = false) :
    Calls Try.prog 16 #[.agg #[.slice A zs.length c, .int .i64 m], .slice A2 qs.length c2, .slice A3 bs.length c3] w fun e w' => e = .returned (.tuple #[.agg #[.slice none 0 0, .int .i64 0], .bool false]) ∧ Below w.heap.size w w' := by
  have HT := Lib.hid (Two.new w (.slice A zs.length c) (.int .i64 m) 27 (w.heap.size) rfl)
  have HB := Lib.hid ((Below.refl w.heap.size w).alloc (Nat.le_refl _) (.cells #[.slice A zs.length c, .int .i64 m] 27))
  have HR := Lib.hid (Two.new (w.alloc (.cells #[.slice A zs.length c, .int .i64 m] 27)) (.slice none 0 0) (.int .i64 0) 27 (w.heap.size + 1) (by simp))
  replace HT := Lib.hid (HT.out.step ((Below.refl _ _).alloc (Nat.le_refl _) (.cells #[.slice none 0 0, .int .i64 0] 27)))
  replace HB := Lib.hid (HB.out.alloc HB.out.size (.cells #[.slice none 0 0, .int .i64 0] 27))
  have htop := hS.top
  have htop2 := hQ.top
  have htop3 := hA.top
  have HI := Lib.hid (hS.step HB.out)
  have HQ := Lib.hid (hQ.step HB.out)
  have HA := Lib.hid (hA.step HB.out)
  have HG := Lib.hid (fun W h h2 => l8Good_any A c lo hi zs m A2 c2 lo2 hi2 qs W h h2 hn hn2)
  rw [hok] at HG
  clear hS hQ hA hok
  go_enter Try.func16, Try.ntmps16
  go_wp2_with fail
  generalize (w.alloc (.cells #[.slice A zs.length c, .int .i64 m] 27)).alloc (.cells #[.slice none 0 0, .int .i64 0] 27) = w0 at HT HR HB HI HQ HA ⊢
  have h0 := HT.out.c0
  have h1 := HT.out.c1
  with_reducible refine (HG.out _ HI.out HQ.out).mono ?_
  rintro e w1 ⟨rfl, hb⟩
  replace HT := Lib.hid (HT.out.step hb)
  replace HR := Lib.hid (HR.out.step hb)
  replace HB := Lib.hid (below_trans HB.out hb)
  replace HI := Lib.hid (HI.out.step hb)
  replace HQ := Lib.hid (HQ.out.step hb)
  replace HA := Lib.hid (HA.out.step hb)
  replace h0 := HT.out.c0
  replace h1 := HT.out.c1
  clear hb
  clear h0 h1
  have q0 := HR.out.c0
  have q1 := HR.out.c1
  have q2 := HR.out.f0
  have q3 := HR.out.f1
  go_wp2
  obtain ⟨hs, hw⟩ := stored2 HR.out.row (.slice none 0 0) (.int .i64 0)
  generalize ((w1.setCell ⟨w.heap.size + 1, 0, none⟩ (.slice none 0 0)).setCell ⟨w.heap.size + 1, 1, none⟩ (.int .i64 0)) = wf at hs hw ⊢
  have e0 := two0 hs
  have e1 := two1 hs
  refine bodyPost_ret (v := .tuple #[.agg #[.slice none 0 0, .int .i64 0], .bool false]) (by simp [results, go_sem, e0, e1]) rfl ?_
  exact ⟨rfl, HB.out.trans (hw.below (by omega) HB.out.size)⟩
set_option maxRecDepth 100000 in
set_option maxHeartbeats 8000000 in
theorem answerList_spec_no2 (A : Option Addr) (c lo hi : Nat) (zs : List Int) (m : Int) (A2 : Option Addr) (c2 lo2 hi2 : Nat) (qs : List Int) (A3 : Option Addr) (c3 lo3 hi3 : Nat) (bs : List Bool) (w : World) (hS : Ins w lo hi A zs) (hQ : Ins w lo2 hi2 A2 qs) (hA : BIns w lo3 hi3 A3 bs) (hn : zs.length ≤ 1048576) (hn2 : qs.length ≤ 1048576) (hn3 : bs.length ≤ 1048576) (hok : lOK zs m qs = true) (hne : ¬ bs.length = qs.length) :
    Calls Try.prog 16 #[.agg #[.slice A zs.length c, .int .i64 m], .slice A2 qs.length c2, .slice A3 bs.length c3] w fun e w' => e = .returned (.tuple #[.agg #[.slice none 0 0, .int .i64 0], .bool false]) ∧ Below w.heap.size w w' := by
  have HT := Lib.hid (Two.new w (.slice A zs.length c) (.int .i64 m) 27 (w.heap.size) rfl)
  have HB := Lib.hid ((Below.refl w.heap.size w).alloc (Nat.le_refl _) (.cells #[.slice A zs.length c, .int .i64 m] 27))
  have HR := Lib.hid (Two.new (w.alloc (.cells #[.slice A zs.length c, .int .i64 m] 27)) (.slice none 0 0) (.int .i64 0) 27 (w.heap.size + 1) (by simp))
  replace HT := Lib.hid (HT.out.step ((Below.refl _ _).alloc (Nat.le_refl _) (.cells #[.slice none 0 0, .int .i64 0] 27)))
  replace HB := Lib.hid (HB.out.alloc HB.out.size (.cells #[.slice none 0 0, .int .i64 0] 27))
  have htop := hS.top
  have htop2 := hQ.top
  have htop3 := hA.top
  have HI := Lib.hid (hS.step HB.out)
  have HQ := Lib.hid (hQ.step HB.out)
  have HA := Lib.hid (hA.step HB.out)
  have HG := Lib.hid (fun W h h2 => l8Good_any A c lo hi zs m A2 c2 lo2 hi2 qs W h h2 hn hn2)
  rw [hok] at HG
  have hneI : ¬ (bs.length : Int) = (qs.length : Int) := by omega
  clear hS hQ hA hok hne
  go_enter Try.func16, Try.ntmps16
  go_wp2_with fail
  generalize (w.alloc (.cells #[.slice A zs.length c, .int .i64 m] 27)).alloc (.cells #[.slice none 0 0, .int .i64 0] 27) = w0 at HT HR HB HI HQ HA ⊢
  have h0 := HT.out.c0
  have h1 := HT.out.c1
  with_reducible refine (HG.out _ HI.out HQ.out).mono ?_
  rintro e w1 ⟨rfl, hb⟩
  replace HT := Lib.hid (HT.out.step hb)
  replace HR := Lib.hid (HR.out.step hb)
  replace HB := Lib.hid (below_trans HB.out hb)
  replace HI := Lib.hid (HI.out.step hb)
  replace HQ := Lib.hid (HQ.out.step hb)
  replace HA := Lib.hid (HA.out.step hb)
  replace h0 := HT.out.c0
  replace h1 := HT.out.c1
  clear hb
  clear h0 h1
  have q0 := HR.out.c0
  have q1 := HR.out.c1
  have q2 := HR.out.f0
  have q3 := HR.out.f1
  go_wp2
  obtain ⟨hs, hw⟩ := stored2 HR.out.row (.slice none 0 0) (.int .i64 0)
  generalize ((w1.setCell ⟨w.heap.size + 1, 0, none⟩ (.slice none 0 0)).setCell ⟨w.heap.size + 1, 1, none⟩ (.int .i64 0)) = wf at hs hw ⊢
  have e0 := two0 hs
  have e1 := two1 hs
  refine bodyPost_ret (v := .tuple #[.agg #[.slice none 0 0, .int .i64 0], .bool false]) (by simp [results, go_sem, e0, e1]) rfl ?_
  exact ⟨rfl, HB.out.trans (hw.below (by omega) HB.out.size)⟩
set_option maxRecDepth 100000 in
set_option maxHeartbeats 8000000 in
theorem answerList_impl (A : Option Addr) (c lo hi : Nat) (zs : List Int) (m : Int) (A2 : Option Addr) (c2 lo2 hi2 : Nat) (qs : List Int) (A3 : Option Addr) (c3 lo3 hi3 : Nat) (bs : List Bool) (w : World) (hS : Ins w lo hi A zs) (hQ : Ins w lo2 hi2 A2 qs) (hA : BIns w lo3 hi3 A3 bs) (hL : Listed zs m qs) (hbl : bs.length = qs.length) :
    Calls Try.prog 20 #[.agg #[.slice A zs.length c, .int .i64 m], .slice A2 qs.length c2, .slice A3 bs.length c3] w fun e w' => ∃ B c', e = .returned (.tuple #[.agg #[.slice B zs.length c', .int .i64 m], .bool true]) ∧ Res w' w.heap.size w'.heap.size B (endZ m zs qs bs) ∧ Below w.heap.size w w' := by
  have HT := Lib.hid (Two.new w (.slice A zs.length c) (.int .i64 m) 27 (w.heap.size) rfl)
  have HB := Lib.hid ((Below.refl w.heap.size w).alloc (Nat.le_refl _) (.cells #[.slice A zs.length c, .int .i64 m] 27))
  have HR := Lib.hid (Two.new (w.alloc (.cells #[.slice A zs.length c, .int .i64 m] 27)) (.slice none 0 0) (.int .i64 0) 27 (w.heap.size + 1) (by simp))
  replace HT := Lib.hid (HT.out.step ((Below.refl _ _).alloc (Nat.le_refl _) (.cells #[.slice none 0 0, .int .i64 0] 27)))
  replace HB := Lib.hid (HB.out.alloc HB.out.size (.cells #[.slice none 0 0, .int .i64 0] 27))
  have htop := hS.top
  have htop2 := hQ.top
  have htop3 := hA.top
  have HI := Lib.hid (hS.step HB.out)
  have HQ := Lib.hid (hQ.step HB.out)
  have HA := Lib.hid (hA.step HB.out)
  have HL := Lib.hid hL
  have h8 := hL.q8
  have hl := hL.len
  have HG := Lib.hid (fun W h h2 => areListed_any A c lo hi zs m A2 c2 lo2 hi2 qs W h h2 (by omega) (by omega))
  rw [hL.ok1] at HG
  have HCp := Lib.hid (fun W h => copyState_any A c lo hi zs m W h hl.1 hl.2)
  have hbq := hbl
  have hlen1 : bs.length ≤ qs.length := Nat.le_of_eq hbl
  have hlen2 : qs.length ≤ bs.length := Nat.le_of_eq hbl.symm
  have hlenI : (bs.length : Int) = (qs.length : Int) := by omega
  clear hS hQ hA hL hbl hbq
  go_enter Try.func20, Try.ntmps20
  go_wp2_with fail
  generalize (w.alloc (.cells #[.slice A zs.length c, .int .i64 m] 27)).alloc (.cells #[.slice none 0 0, .int .i64 0] 27) = w0 at HT HR HB HI HQ HA ⊢
  have h0 := HT.out.c0
  have h1 := HT.out.c1
  with_reducible refine (HG.out _ HI.out HQ.out).mono ?_
  rintro e w1 ⟨rfl, hb⟩
  replace HT := Lib.hid (HT.out.step hb)
  replace HR := Lib.hid (HR.out.step hb)
  replace HB := Lib.hid (below_trans HB.out hb)
  replace HI := Lib.hid (HI.out.step hb)
  replace HQ := Lib.hid (HQ.out.step hb)
  replace HA := Lib.hid (HA.out.step hb)
  replace h0 := HT.out.c0
  replace h1 := HT.out.c1
  clear hb
  clear HG
  go_wp2_with fail
  have HSZ0 := Lib.hid (show w.heap.size + 2 ≤ w1.heap.size by have := HR.out.lt; omega)
  with_reducible refine (HCp.out w1 HI.out).mono ?_
  rintro e w2 ⟨g, rfl, hg, hr, hb⟩
  replace HT := Lib.hid (HT.out.step hb)
  replace HR := Lib.hid (HR.out.step hb)
  replace HB := Lib.hid (below_trans HB.out hb)
  replace HI := Lib.hid (HI.out.step hb)
  replace HQ := Lib.hid (HQ.out.step hb)
  replace HA := Lib.hid (HA.out.step hb)
  replace h0 := HT.out.c0
  replace h1 := HT.out.c1
  have HO := Lib.hid (show Own _ g (g + 1) (some ⟨g, 0, none⟩) zs from .inr ⟨g, _, rfl, Nat.le_refl _, Nat.lt_succ_self _, hr, by simp, fun j x hx => by simp [hx]⟩)
  clear hr
  clear hb
  clear h0 h1
  clear HCp hlenI
  have hgw : w.heap.size + 2 ≤ g := Nat.le_trans HSZ0.out hg
  have HGE := Lib.hid (own_lt HO.out)
  have hb9 := (Below.refl w2.heap.size w2).alloc (Nat.le_refl _) (.cells #[.slice (some ⟨g, 0, none⟩) zs.length zs.length, .int .i64 m] 27)
  have HE := Lib.hid (Two.new w2 (.slice (some ⟨g, 0, none⟩) zs.length zs.length) (.int .i64 m) 27 w2.heap.size rfl)
  have hbx := HR.out.lt
  replace HT := Lib.hid (HT.out.step hb9)
  replace HR := Lib.hid (HR.out.step hb9)
  replace HB := Lib.hid (below_trans HB.out hb9)
  replace HI := Lib.hid (HI.out.step hb9)
  replace HQ := Lib.hid (HQ.out.step hb9)
  replace HA := Lib.hid (HA.out.step hb9)
  replace HO := Lib.hid (own_same HO.out (hb9.block g (own_lt HO.out)))
  clear hb9
  go_wp2_with fail
  have HEB := Lib.hid (own_lt HO.out)
  obtain ⟨eb, heb⟩ : ∃ x, x = w2.heap.size := ⟨_, rfl⟩
  rw [← heb] at HE ⊢
  have hge : g ≠ eb := by have := HGE.out; omega
  have heb2 : w.heap.size + 2 ≤ eb := by have := HGE.out; omega
  generalize hw3 : w2.alloc (.cells #[.slice (some ⟨g, 0, none⟩) zs.length zs.length, .int .i64 m] 27) = w3 at HE HT HR HI HQ HA HB HO ⊢
  clear hw3 HEB heb
  go_loopw [27] (fun i wr => ∃ (k g' : Nat) (c' : Nat), k ≤ qs.length ∧ i = .int .i64 (k : Int) ∧ Hid (Two wr eb (.slice (some ⟨g', 0, none⟩) zs.length c') (.int .i64 m) 27) ∧ Hid (Two wr (w.heap.size + 1) (.slice none 0 0) (.int .i64 0) 27) ∧ Hid (Own wr g' (g' + 1) (some ⟨g', 0, none⟩) (endZ m zs (qs.take k) (bs.take k))) ∧ g' ≠ eb ∧ w.heap.size + 2 ≤ g' ∧ Hid (Ins wr lo2 hi2 A2 qs) ∧ Hid (BIns wr lo3 hi3 A3 bs) ∧ Hid (Below w.heap.size w wr)) (fun i _ => qs.length - (intOf i).toNat)
  case atStart => exact ⟨0, g, zs.length, Nat.zero_le _, rfl, HE, HR, by simpa [endZ] using HO, hge, hgw, HQ, HA, HB⟩
  case round =>
    clear HE HT HR HI HQ HA HB HO
    obtain ⟨k, g', c', hk, rfl, HE, HR, HO, hge', hgw', HQ, HA, HB⟩ := hrel
    by_cases hlt : k < qs.length
    · obtain ⟨b, o, rfl, _, hb, hc⟩ := HQ.out.ints.at_ hlt
      obtain ⟨b3, o3, rfl, _, hb3, hc3⟩ := HA.out.at_ (k := k) (by omega)
      have HC3 := Lib.hid (One8.mk hc3)
      have HNX := Lib.hid (endZ_take m qs zs bs k _ _ (List.getElem?_eq_getElem hlt) (List.getElem?_eq_getElem (show k < bs.length by omega)))
      have hst := endZ_isSt m (qs.take k) zs (bs.take k) HL.out.st
      have hzl := endZ_len m (qs.take k) zs (bs.take k)
      have hqk := HL.out.ok _ (List.getElem_mem hlt)
      generalize endZ m zs (qs.take k) (bs.take k) = z at hst hzl HO HNX
      generalize qs[k] = q at hc hqk HNX
      generalize bs[k]'(by omega) = y at hc3 HC3 HNX
      have HAf := Lib.hid (fun W h => answerState_impl (some ⟨g', 0, none⟩) c' g' (g' + 1) z m q y W h hst (by rw [hzl]; exact hqk))
      rw [hzl] at HAf
      have hki : (k : Int) < (qs.length : Int) := by omega
      have hki3 : (k : Int) < (bs.length : Int) := by omega
      clear hc3 hst
      have HSZ := Lib.hid (show w.heap.size + 2 ≤ wr.heap.size by have := HR.out.lt; omega)
      have HSE := Lib.hid HE.out.lt
      have h0 := HE.out.c0
      have h1 := HE.out.c1
      have hc3 := HC3.out.c
      have hwz := HSZ.out
      have hwe := HSE.out
      go_wp2_with fail
      go_region_with (first
        | (go_at_call 58; (with_reducible refine (HAf.out wr.drew (own_ins8 (own_same HO.out rfl))).mono ?_); rintro e v1 ⟨g2, rfl, hg2, hr2, hb⟩; have HZ1 := Lib.hid (below_trans (Below.refl _ wr).drew hb); have HE_1 := Lib.hid (HE.out.step HZ1.out); have HR_1 := Lib.hid (HR.out.step HZ1.out); have HQ_1 := Lib.hid (HQ.out.step HZ1.out); have HA_1 := Lib.hid (HA.out.step HZ1.out); have HC3_1 := Lib.hid (HC3.out.step HZ1.out); have HO_1 := Lib.hid (own_same HO.out (HZ1.out.block g' (own_lt HO.out))); have HB_1 := Lib.hid (below_trans HB.out HZ1.out); have HSZ_1 := Lib.hid (Nat.le_trans HSZ.out HZ1.out.size); have HSE_1 := Lib.hid (Nat.lt_of_lt_of_le HSE.out HZ1.out.size); have HO2 := Lib.hid (show Own _ g2 (g2 + 1) (some ⟨g2, 0, none⟩) (afters z m q y) from .inr ⟨g2, _, rfl, Nat.le_refl _, Nat.lt_succ_self _, hr2, by simp, fun j x hx => by simp [hx]⟩); have hg3 : wr.heap.size ≤ g2 := hg2; clear hr2 hg2; have q0 := HE_1.out.c0; have q1 := HE_1.out.c1; have q2 := HE_1.out.f0; have q3 := HE_1.out.f1; clear hb))
      all_goals
        clear HC3 HE HR HQ HA HO HB HZ1 HAf hc hc3 h0 h1
        obtain ⟨hs, hw⟩ := stored2 HE_1.out.row (.slice (some ⟨g2, 0, none⟩) zs.length zs.length) (.int .i64 m)
        have HS2 := Lib.hid hs
        have HW2 := Lib.hid hw
        clear hs hw
        have hge2 : g2 ≠ eb := by omega
        have hgw2 : w.heap.size + 2 ≤ g2 := by omega
        have heb0 : w.heap.size + 2 ≤ eb := by omega
        go_wp2
        generalize ((v1.setCell ⟨eb, 0, none⟩ (.slice (some ⟨g2, 0, none⟩) zs.length zs.length)).setCell ⟨eb, 1, none⟩ (.int .i64 m)) = wf at HS2 HW2 ⊢
        go_roundw
        case rel => exact ⟨k + 1, g2, zs.length, by omega, by go_num, Lib.hid ⟨HS2.out⟩, Lib.hid (HR_1.out.within HW2.out (.inl (by omega))), Lib.hid (by rw [HNX.out]; exact own_same HO2.out (HW2.out.block g2 (own_lt HO2.out) (by omega))), hge2, hgw2, Lib.hid (HQ_1.out.within HW2.out (.inl (by omega))), Lib.hid (HA_1.out.within HW2.out (.inl (by omega))), Lib.hid (HB_1.out.trans (HW2.out.below (by omega) HB_1.out.size))⟩
        case measure => simp [intOf]; omega
    · obtain rfl : k = qs.length := by omega
      rw [List.take_length, List.take_of_length_le (by omega)] at HO
      have h0 := HE.out.c0
      have h1 := HE.out.c1
      have q0 := HR.out.c0
      have q1 := HR.out.c1
      have q2 := HR.out.f0
      have q3 := HR.out.f1
      go_wp2
      obtain ⟨hs, hw⟩ := stored2 HR.out.row (.slice (some ⟨g', 0, none⟩) zs.length c') (.int .i64 m)
      generalize ((wr.setCell ⟨w.heap.size + 1, 0, none⟩ (.slice (some ⟨g', 0, none⟩) zs.length c')).setCell ⟨w.heap.size + 1, 1, none⟩ (.int .i64 m)) = wf at hs hw ⊢
      have e0 := two0 hs
      have e1 := two1 hs
      refine bodyPost_ret (v := .tuple #[.agg #[.slice (some ⟨g', 0, none⟩) zs.length c', .int .i64 m], .bool true]) (by simp [results, go_sem, e0, e1]) rfl ?_
      exact ⟨_, c', rfl, (own_same HO.out (hw.block g' (own_lt HO.out) (.inr (by omega)))).to_res (by omega), HB.out.trans (hw.below (by omega) HB.out.size)⟩
set_option maxRecDepth 100000 in
set_option maxHeartbeats 8000000 in
theorem answerList_spec (A : Option Addr) (c lo hi : Nat) (zs : List Int) (m : Int) (A2 : Option Addr) (c2 lo2 hi2 : Nat) (qs : List Int) (A3 : Option Addr) (c3 lo3 hi3 : Nat) (bs : List Bool) (w : World) (hS : Ins w lo hi A zs) (hQ : Ins w lo2 hi2 A2 qs) (hA : BIns w lo3 hi3 A3 bs) (hL : Listed zs m qs) (hbl : bs.length = qs.length) :
    Calls Try.prog 16 #[.agg #[.slice A zs.length c, .int .i64 m], .slice A2 qs.length c2, .slice A3 bs.length c3] w fun e w' => ∃ B c', e = .returned (.tuple #[.agg #[.slice B zs.length c', .int .i64 m], .bool true]) ∧ Res w' w.heap.size w'.heap.size B (endZ m zs qs bs) ∧ Below w.heap.size w w' := by
  have HT := Lib.hid (Two.new w (.slice A zs.length c) (.int .i64 m) 27 (w.heap.size) rfl)
  have HB := Lib.hid ((Below.refl w.heap.size w).alloc (Nat.le_refl _) (.cells #[.slice A zs.length c, .int .i64 m] 27))
  have HR := Lib.hid (Two.new (w.alloc (.cells #[.slice A zs.length c, .int .i64 m] 27)) (.slice none 0 0) (.int .i64 0) 27 (w.heap.size + 1) (by simp))
  replace HT := Lib.hid (HT.out.step ((Below.refl _ _).alloc (Nat.le_refl _) (.cells #[.slice none 0 0, .int .i64 0] 27)))
  replace HB := Lib.hid (HB.out.alloc HB.out.size (.cells #[.slice none 0 0, .int .i64 0] 27))
  have htop := hS.top
  have htop2 := hQ.top
  have htop3 := hA.top
  have HI := Lib.hid (hS.step HB.out)
  have HQ := Lib.hid (hQ.step HB.out)
  have HA := Lib.hid (hA.step HB.out)
  have h8 := hL.q8
  have hl := hL.len
  have HG := Lib.hid (fun W h h2 => l8Good_any A c lo hi zs m A2 c2 lo2 hi2 qs W h h2 (by omega) (by omega))
  rw [hL.ok1] at HG
  have HOw := Lib.hid (fun W h => l1Own_row A c lo hi zs W h hl.1 hl.2)
  have HEn := Lib.hid (fun g c' W h1 h2 h3 => l8End_any (some ⟨g, 0, none⟩) c' g (g + 1) zs m A2 c2 lo2 hi2 qs A3 c3 lo3 hi3 bs W h1 h2 hL h3 hbl)
  have hlenI : (bs.length : Int) = (qs.length : Int) := by omega
  clear hS hQ hA hL hbl
  go_enter Try.func16, Try.ntmps16
  go_wp2_with fail
  generalize (w.alloc (.cells #[.slice A zs.length c, .int .i64 m] 27)).alloc (.cells #[.slice none 0 0, .int .i64 0] 27) = w0 at HT HR HB HI HQ HA ⊢
  have h0 := HT.out.c0
  have h1 := HT.out.c1
  with_reducible refine (HG.out _ HI.out HQ.out).mono ?_
  rintro e w1 ⟨rfl, hb⟩
  replace HT := Lib.hid (HT.out.step hb)
  replace HR := Lib.hid (HR.out.step hb)
  replace HB := Lib.hid (below_trans HB.out hb)
  replace HI := Lib.hid (HI.out.step hb)
  replace HQ := Lib.hid (HQ.out.step hb)
  replace HA := Lib.hid (HA.out.step hb)
  replace h0 := HT.out.c0
  replace h1 := HT.out.c1
  clear hb
  clear HG
  have HSZ0 := Lib.hid (show w.heap.size + 2 ≤ w1.heap.size by have := HR.out.lt; omega)
  clear h0 h1
  go_wp2_with fail
  go_region_held3 (fun w' => w'.cell? ⟨w.heap.size, 0, none⟩ = some (.slice A zs.length c) ∧ w'.cell? ⟨w.heap.size, 1, none⟩ = some (.int .i64 m))
    (first
     | exact ⟨(HT.out.step (Below.refl _ w1).drew).c0, (HT.out.step (Below.refl _ w1).drew).c1⟩
     | exact ⟨(HT_1.out).c0, (HT_1.out).c1⟩
     | exact ⟨(HT_2.out).c0, (HT_2.out).c1⟩
     | exact ⟨((HT_2.out).within (within_set (within_set (Within.refl (w.heap.size + 1) (w.heap.size + 1 + 1) v2) (Nat.le_refl _) (Nat.lt_succ_self _) 0 _) (Nat.le_refl _) (Nat.lt_succ_self _) 1 _) (.inl (by omega))).c0, ((HT_2.out).within (within_set (within_set (Within.refl (w.heap.size + 1) (w.heap.size + 1 + 1) v2) (Nat.le_refl _) (Nat.lt_succ_self _) 0 _) (Nat.le_refl _) (Nat.lt_succ_self _) 1 _) (.inl (by omega))).c1⟩)
    (first
     | (go_at_call 54; (with_reducible refine (HEn.out g cg v1 (own_ins8 HO.out) HQ_1.out HA_1.out).mono ?_); rintro e v2 ⟨A', c', rfl, he, hb⟩; have HZ2 := Lib.hid (below_trans HZ1.out hb); have HT_2 := Lib.hid (HT.out.step HZ2.out); have HR_2 := Lib.hid (HR.out.step HZ2.out); have HB_2 := Lib.hid (below_trans HB.out HZ2.out); have HI_2 := Lib.hid (HI.out.step HZ2.out); have HQ_2 := Lib.hid (HQ.out.step HZ2.out); have HA_2 := Lib.hid (HA.out.step HZ2.out); have HEA := Lib.hid he; have HO2 := Lib.hid (own_same HO.out (hb.block g (own_lt HO.out))); have hv1 := HZ1.out.size; clear he; have q0 := HR_2.out.c0; have q1 := HR_2.out.c1; have q2 := HR_2.out.f0; have q3 := HR_2.out.f1; clear hb)
     | (go_at_call 55; (with_reducible refine (HOw.out w1.drew (HI.out.step (Below.refl _ w1).drew)).mono ?_); rintro e v1 ⟨g, cg, rfl, hg, ho, hb⟩; have HZ1 := Lib.hid (below_trans (Below.refl _ w1).drew hb); have HT_1 := Lib.hid (HT.out.step HZ1.out); have HR_1 := Lib.hid (HR.out.step HZ1.out); have HB_1 := Lib.hid (below_trans HB.out HZ1.out); have HI_1 := Lib.hid (HI.out.step HZ1.out); have HQ_1 := Lib.hid (HQ.out.step HZ1.out); have HA_1 := Lib.hid (HA.out.step HZ1.out); have HO := Lib.hid ho; have hgz : w1.heap.size ≤ g := hg; clear ho hg; clear hb))
  all_goals
    go_wp2
    obtain ⟨hs, hw⟩ := stored2 HR_2.out.row (.slice A' zs.length c') (.int .i64 m)
    generalize ((v2.setCell ⟨w.heap.size + 1, 0, none⟩ (.slice A' zs.length c')).setCell ⟨w.heap.size + 1, 1, none⟩ (.int .i64 m)) = wf at hs hw ⊢
    have e0 := two0 hs
    have e1 := two1 hs
    refine bodyPost_ret (v := .tuple #[.agg #[.slice A' zs.length c', .int .i64 m], .bool true]) (by simp [results, go_sem, e0, e1]) rfl ?_
    refine ⟨A', c', rfl, ?_, HB_2.out.trans (hw.below (by omega) HB_2.out.size)⟩
    have hz0 := HSZ0.out
    rcases HEA.out with ⟨hk0, rfl, rfl⟩ | ⟨g2, rfl, hg2, ho2⟩
    · have e9 : endZ m zs qs bs = zs := by have : qs = [] := List.eq_nil_of_length_eq_zero hk0; subst this; simp [endZ]
      rw [e9]
      exact (own_same HO2.out (hw.block g (own_lt HO2.out) (.inr (by omega)))).to_res (by omega)
    · exact (own_same ho2 (hw.block g2 (own_lt ho2) (.inr (by omega)))).to_res (by omega)
theorem answerList_both (zs : List Int) (m : Int) (h : zs.length ≤ 1048576) (qs : List Int) (h2 : qs.length ≤ 1048576) (bs : List Bool) (h3 : bs.length ≤ 1048576) : ∃ (r0 : List Int) (u0 : Int) (r1 : Bool), r0.length ≤ 1048576 ∧
    (∀ (w : World) (B : Option Addr) (c lo hi : Nat) (B2 : Option Addr) (c2 lo2 hi2 : Nat) (B3 : Option Addr) (c3 lo3 hi3 : Nat), Ins w lo hi B zs → Ins w lo2 hi2 B2 qs → BRes w lo3 hi3 B3 bs → Calls Try.prog 20 #[.agg #[.slice B zs.length c, .int .i64 m], .slice B2 qs.length c2, .slice B3 bs.length c3] w fun e w' => ∃ B c', e = .returned (.tuple #[.agg #[.slice B r0.length c', .int .i64 u0], .bool r1]) ∧ Res w' w.heap.size w'.heap.size B r0 ∧ Below w.heap.size w w') ∧
    (∀ (w : World) (B : Option Addr) (c lo hi : Nat) (B2 : Option Addr) (c2 lo2 hi2 : Nat) (B3 : Option Addr) (c3 lo3 hi3 : Nat), Ins w lo hi B zs → Ins w lo2 hi2 B2 qs → BRes w lo3 hi3 B3 bs → Calls Try.prog 16 #[.agg #[.slice B zs.length c, .int .i64 m], .slice B2 qs.length c2, .slice B3 bs.length c3] w fun e w' => ∃ B c', e = .returned (.tuple #[.agg #[.slice B r0.length c', .int .i64 u0], .bool r1]) ∧ Res w' w.heap.size w'.heap.size B r0 ∧ Below w.heap.size w w') := by
  cases hok : lOK zs m qs with
  | false => exact ⟨[], 0, false, by simp, fun w B c lo hi B2 c2 lo2 hi2 B3 c3 lo3 hi3 hS hS2 hS3 => (answerList_impl_no1 B c lo hi zs m B2 c2 lo2 hi2 qs B3 c3 lo3 hi3 bs w hS hS2 hS3.ins h h2 h3 hok).mono (by rintro e w' ⟨rfl, hb⟩; exact ⟨none, 0, rfl, ⟨.inl ⟨rfl, rfl⟩, Nat.le_refl _⟩, hb⟩), fun w B c lo hi B2 c2 lo2 hi2 B3 c3 lo3 hi3 hS hS2 hS3 => (answerList_spec_no1 B c lo hi zs m B2 c2 lo2 hi2 qs B3 c3 lo3 hi3 bs w hS hS2 hS3.ins h h2 h3 hok).mono (by rintro e w' ⟨rfl, hb⟩; exact ⟨none, 0, rfl, ⟨.inl ⟨rfl, rfl⟩, Nat.le_refl _⟩, hb⟩)⟩
  | true =>
    by_cases hbl : bs.length = qs.length
    · have hL := lOK_iff.1 hok
      refine ⟨endZ m zs qs bs, m, true, by rw [endZ_len]; exact h, ?_, ?_⟩
      · rw [endZ_len]; exact fun w B c lo hi B2 c2 lo2 hi2 B3 c3 lo3 hi3 hS hS2 hS3 => answerList_impl B c lo hi zs m B2 c2 lo2 hi2 qs B3 c3 lo3 hi3 bs w hS hS2 hS3.ins hL hbl
      · rw [endZ_len]; exact fun w B c lo hi B2 c2 lo2 hi2 B3 c3 lo3 hi3 hS hS2 hS3 => answerList_spec B c lo hi zs m B2 c2 lo2 hi2 qs B3 c3 lo3 hi3 bs w hS hS2 hS3.ins hL hbl
    · exact ⟨[], 0, false, by simp, fun w B c lo hi B2 c2 lo2 hi2 B3 c3 lo3 hi3 hS hS2 hS3 => (answerList_impl_no2 B c lo hi zs m B2 c2 lo2 hi2 qs B3 c3 lo3 hi3 bs w hS hS2 hS3.ins h h2 h3 hok hbl).mono (by rintro e w' ⟨rfl, hb⟩; exact ⟨none, 0, rfl, ⟨.inl ⟨rfl, rfl⟩, Nat.le_refl _⟩, hb⟩), fun w B c lo hi B2 c2 lo2 hi2 B3 c3 lo3 hi3 hS hS2 hS3 => (answerList_spec_no2 B c lo hi zs m B2 c2 lo2 hi2 qs B3 c3 lo3 hi3 bs w hS hS2 hS3.ins h h2 h3 hok hbl).mono (by rintro e w' ⟨rfl, hb⟩; exact ⟨none, 0, rfl, ⟨.inl ⟨rfl, rfl⟩, Nat.le_refl _⟩, hb⟩)⟩
end Go.Proofs.Ytbgdnidbdfhgjaa
