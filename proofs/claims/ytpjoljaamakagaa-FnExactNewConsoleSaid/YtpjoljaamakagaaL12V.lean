/- Rooms of states, states of rooms: the program's. -/
import Derived.Test.YtpjoljaamakagaaL12U
namespace Go.Proofs.Ytpjoljaamakagaa
open Go.RowKit Go.ChangeShapes Go.WideShapes
set_option linter.unusedVariables false
set_option linter.unusedSimpArgs false

set_option maxRecDepth 100000 in
set_option maxHeartbeats 8000000 in
theorem newRoom_impl_yes (A : Option Addr) (c lo hi : Nat) (zs : List Int) (m : Int) (w : World) (hS : Ins w lo hi A zs) (hn : zs.length ≤ 1048576) (hst : isSt zs m = true) :
    Calls Try.prog 18 #[.agg #[.slice A zs.length c, .int .i64 m]] w fun e w' => e = .returned (.tuple #[.agg (rmA (rz zs) zs.length m 0), .bool true]) ∧ Below w.heap.size w w' := by
  have HA := Lib.hid ((Two.new w (.slice A zs.length c) (.int .i64 m) 35 w.heap.size rfl).step ((Below.refl _ _).alloc (Nat.le_refl _) (.cells #[.int .i64 0, .int .i64 0, .int .i64 0, .int .i64 0, .int .i64 0, .int .i64 0, .int .i64 0, .int .i64 0, .int .i64 0, .int .i64 0, .int .i64 0, .int .i64 0, .int .i64 0, .int .i64 0, .int .i64 0] 26)))
  have HT := Lib.hid (Rw.new (w.alloc (.cells #[.slice A zs.length c, .int .i64 m] 35)) #[.int .i64 0, .int .i64 0, .int .i64 0, .int .i64 0, .int .i64 0, .int .i64 0, .int .i64 0, .int .i64 0, .int .i64 0, .int .i64 0, .int .i64 0, .int .i64 0, .int .i64 0, .int .i64 0, .int .i64 0] 26 (w.heap.size + 1) (by simp))
  have HB := Lib.hid (((Below.refl w.heap.size w).alloc (Nat.le_refl _) (.cells #[.slice A zs.length c, .int .i64 m] 35)).alloc (by simp) (.cells #[.int .i64 0, .int .i64 0, .int .i64 0, .int .i64 0, .int .i64 0, .int .i64 0, .int .i64 0, .int .i64 0, .int .i64 0, .int .i64 0, .int .i64 0, .int .i64 0, .int .i64 0, .int .i64 0, .int .i64 0] 26))
  have HS := Lib.hid (hS.step HB.out)
  have HI := Lib.hid (fun W lo' hi' (h : Ins W lo' hi' A zs) => isState_impl A c lo' hi' zs m W h hn)
  rw [hst] at HI
  have hl := isSt_len hst
  have HK := Lib.hid (fun W lo' hi' (h : Ins W lo' hi' A zs) => roomOf_any A c lo' hi' zs m 0 W h hl.2.1)
  clear hS hst
  go_enter Try.func18, Try.ntmps18
  go_upto_region 1 with fail
  generalize (w.alloc (.cells #[.slice A zs.length c, .int .i64 m] 35)).alloc (.cells #[.int .i64 0, .int .i64 0, .int .i64 0, .int .i64 0, .int .i64 0, .int .i64 0, .int .i64 0, .int .i64 0, .int .i64 0, .int .i64 0, .int .i64 0, .int .i64 0, .int .i64 0, .int .i64 0, .int .i64 0] 26) = wa at HA HT HB HS ⊢
  have a0 := HA.out.c0
  have a1 := HA.out.c1
  go_wp2_with fail
  refine (HI.out _ _ _ HS.out).mono ?_
  rintro e w1 ⟨rfl, hb⟩
  replace HA := Lib.hid (HA.out.step hb)
  replace HT := Lib.hid (HT.out.step hb)
  replace HS := Lib.hid (HS.out.step hb)
  replace HB := Lib.hid (below_trans HB.out hb)
  clear hb HI a0 a1
  have a0 := HA.out.c0
  have a1 := HA.out.c1
  go_wp2_with fail
  refine (HK.out _ _ _ HS.out).mono ?_
  rintro e w2 ⟨rfl, hb⟩
  replace HT := Lib.hid (HT.out.step hb)
  replace HB := Lib.hid (below_trans HB.out hb)
  clear hb HK a0 a1 HA HS
  simp only [rmA]
  have d0 := HT.out.cell (i := 0) (v := .int .i64 0) rfl
  have d1 := HT.out.cell (i := 1) (v := .int .i64 0) rfl
  have d2 := HT.out.cell (i := 2) (v := .int .i64 0) rfl
  have d3 := HT.out.cell (i := 3) (v := .int .i64 0) rfl
  have d4 := HT.out.cell (i := 4) (v := .int .i64 0) rfl
  have d5 := HT.out.cell (i := 5) (v := .int .i64 0) rfl
  have d6 := HT.out.cell (i := 6) (v := .int .i64 0) rfl
  have d7 := HT.out.cell (i := 7) (v := .int .i64 0) rfl
  have d8 := HT.out.cell (i := 8) (v := .int .i64 0) rfl
  have d9 := HT.out.cell (i := 9) (v := .int .i64 0) rfl
  have d10 := HT.out.cell (i := 10) (v := .int .i64 0) rfl
  have d11 := HT.out.cell (i := 11) (v := .int .i64 0) rfl
  have d12 := HT.out.cell (i := 12) (v := .int .i64 0) rfl
  have d13 := HT.out.cell (i := 13) (v := .int .i64 0) rfl
  have d14 := HT.out.cell (i := 14) (v := .int .i64 0) rfl
  have f0 := HT.out.free 0
  have f1 := HT.out.free 1
  have f2 := HT.out.free 2
  have f3 := HT.out.free 3
  have f4 := HT.out.free 4
  have f5 := HT.out.free 5
  have f6 := HT.out.free 6
  have f7 := HT.out.free 7
  have f8 := HT.out.free 8
  have f9 := HT.out.free 9
  have f10 := HT.out.free 10
  have f11 := HT.out.free 11
  have f12 := HT.out.free 12
  have f13 := HT.out.free 13
  have f14 := HT.out.free 14
  obtain ⟨hs, hw⟩ := stored15 (q := fun _ => 0) (n0 := 0) (m0 := 0) (c0 := 0) HT.out (rz zs) zs.length m 0
  have HB4 := Lib.hid (HB.out.trans (hw.below (by omega) (by have := HT.out.lt; omega)))
  clear hw HT HB
  go_wp2
  generalize (((((((((((((((w2.setCell ⟨w.heap.size + 1, 0, none⟩ (.int .i64 (rz zs 0))).setCell ⟨w.heap.size + 1, 1, none⟩ (.int .i64 (rz zs 1))).setCell ⟨w.heap.size + 1, 2, none⟩ (.int .i64 (rz zs 2))).setCell ⟨w.heap.size + 1, 3, none⟩ (.int .i64 (rz zs 3))).setCell ⟨w.heap.size + 1, 4, none⟩ (.int .i64 (rz zs 4))).setCell ⟨w.heap.size + 1, 5, none⟩ (.int .i64 (rz zs 5))).setCell ⟨w.heap.size + 1, 6, none⟩ (.int .i64 (rz zs 6))).setCell ⟨w.heap.size + 1, 7, none⟩ (.int .i64 (rz zs 7))).setCell ⟨w.heap.size + 1, 8, none⟩ (.int .i64 (rz zs 8))).setCell ⟨w.heap.size + 1, 9, none⟩ (.int .i64 (rz zs 9))).setCell ⟨w.heap.size + 1, 10, none⟩ (.int .i64 (rz zs 10))).setCell ⟨w.heap.size + 1, 11, none⟩ (.int .i64 (rz zs 11))).setCell ⟨w.heap.size + 1, 12, none⟩ (.int .i64 zs.length)).setCell ⟨w.heap.size + 1, 13, none⟩ (.int .i64 m)).setCell ⟨w.heap.size + 1, 14, none⟩ (.int .i64 0)) = wf at hs HB4 ⊢
  have e0 := (Lib.hid hs).out.cell (i := 0) (v := .int .i64 (rz zs 0)) rfl
  have e1 := (Lib.hid hs).out.cell (i := 1) (v := .int .i64 (rz zs 1)) rfl
  have e2 := (Lib.hid hs).out.cell (i := 2) (v := .int .i64 (rz zs 2)) rfl
  have e3 := (Lib.hid hs).out.cell (i := 3) (v := .int .i64 (rz zs 3)) rfl
  have e4 := (Lib.hid hs).out.cell (i := 4) (v := .int .i64 (rz zs 4)) rfl
  have e5 := (Lib.hid hs).out.cell (i := 5) (v := .int .i64 (rz zs 5)) rfl
  have e6 := (Lib.hid hs).out.cell (i := 6) (v := .int .i64 (rz zs 6)) rfl
  have e7 := (Lib.hid hs).out.cell (i := 7) (v := .int .i64 (rz zs 7)) rfl
  have e8 := (Lib.hid hs).out.cell (i := 8) (v := .int .i64 (rz zs 8)) rfl
  have e9 := (Lib.hid hs).out.cell (i := 9) (v := .int .i64 (rz zs 9)) rfl
  have e10 := (Lib.hid hs).out.cell (i := 10) (v := .int .i64 (rz zs 10)) rfl
  have e11 := (Lib.hid hs).out.cell (i := 11) (v := .int .i64 (rz zs 11)) rfl
  have e12 := (Lib.hid hs).out.cell (i := 12) (v := .int .i64 zs.length) rfl
  have e13 := (Lib.hid hs).out.cell (i := 13) (v := .int .i64 m) rfl
  have e14 := (Lib.hid hs).out.cell (i := 14) (v := .int .i64 0) rfl
  refine bodyPost_ret (v := .tuple #[.agg (rmA (rz zs) zs.length m 0), .bool true]) (by simp [results, go_sem, e0, e1, e2, e3, e4, e5, e6, e7, e8, e9, e10, e11, e12, e13, e14]; try rfl) rfl ?_
  exact ⟨rfl, HB4.out⟩

set_option maxRecDepth 100000 in
set_option maxHeartbeats 8000000 in
theorem newRoom_impl_no (A : Option Addr) (c lo hi : Nat) (zs : List Int) (m : Int) (w : World) (hS : Ins w lo hi A zs) (hn : zs.length ≤ 1048576) (hst : isSt zs m = false) :
    Calls Try.prog 18 #[.agg #[.slice A zs.length c, .int .i64 m]] w fun e w' => e = .returned (.tuple #[.agg (rmA (fun _ => 0) 0 0 0), .bool false]) ∧ Below w.heap.size w w' := by
  have HA := Lib.hid ((Two.new w (.slice A zs.length c) (.int .i64 m) 35 w.heap.size rfl).step ((Below.refl _ _).alloc (Nat.le_refl _) (.cells #[.int .i64 0, .int .i64 0, .int .i64 0, .int .i64 0, .int .i64 0, .int .i64 0, .int .i64 0, .int .i64 0, .int .i64 0, .int .i64 0, .int .i64 0, .int .i64 0, .int .i64 0, .int .i64 0, .int .i64 0] 26)))
  have HT := Lib.hid (Rw.new (w.alloc (.cells #[.slice A zs.length c, .int .i64 m] 35)) #[.int .i64 0, .int .i64 0, .int .i64 0, .int .i64 0, .int .i64 0, .int .i64 0, .int .i64 0, .int .i64 0, .int .i64 0, .int .i64 0, .int .i64 0, .int .i64 0, .int .i64 0, .int .i64 0, .int .i64 0] 26 (w.heap.size + 1) (by simp))
  have HB := Lib.hid (((Below.refl w.heap.size w).alloc (Nat.le_refl _) (.cells #[.slice A zs.length c, .int .i64 m] 35)).alloc (by simp) (.cells #[.int .i64 0, .int .i64 0, .int .i64 0, .int .i64 0, .int .i64 0, .int .i64 0, .int .i64 0, .int .i64 0, .int .i64 0, .int .i64 0, .int .i64 0, .int .i64 0, .int .i64 0, .int .i64 0, .int .i64 0] 26))
  have HS := Lib.hid (hS.step HB.out)
  have HI := Lib.hid (fun W lo' hi' (h : Ins W lo' hi' A zs) => isState_impl A c lo' hi' zs m W h hn)
  rw [hst] at HI
  clear hS hst
  go_enter Try.func18, Try.ntmps18
  go_upto_region 1 with fail
  generalize (w.alloc (.cells #[.slice A zs.length c, .int .i64 m] 35)).alloc (.cells #[.int .i64 0, .int .i64 0, .int .i64 0, .int .i64 0, .int .i64 0, .int .i64 0, .int .i64 0, .int .i64 0, .int .i64 0, .int .i64 0, .int .i64 0, .int .i64 0, .int .i64 0, .int .i64 0, .int .i64 0] 26) = wa at HA HT HB HS ⊢
  have a0 := HA.out.c0
  have a1 := HA.out.c1
  go_wp2_with fail
  refine (HI.out _ _ _ HS.out).mono ?_
  rintro e w1 ⟨rfl, hb⟩
  replace HA := Lib.hid (HA.out.step hb)
  replace HT := Lib.hid (HT.out.step hb)
  replace HS := Lib.hid (HS.out.step hb)
  replace HB := Lib.hid (below_trans HB.out hb)
  clear hb HI a0 a1
  have d0 := HT.out.cell (i := 0) (v := .int .i64 0) rfl
  have d1 := HT.out.cell (i := 1) (v := .int .i64 0) rfl
  have d2 := HT.out.cell (i := 2) (v := .int .i64 0) rfl
  have d3 := HT.out.cell (i := 3) (v := .int .i64 0) rfl
  have d4 := HT.out.cell (i := 4) (v := .int .i64 0) rfl
  have d5 := HT.out.cell (i := 5) (v := .int .i64 0) rfl
  have d6 := HT.out.cell (i := 6) (v := .int .i64 0) rfl
  have d7 := HT.out.cell (i := 7) (v := .int .i64 0) rfl
  have d8 := HT.out.cell (i := 8) (v := .int .i64 0) rfl
  have d9 := HT.out.cell (i := 9) (v := .int .i64 0) rfl
  have d10 := HT.out.cell (i := 10) (v := .int .i64 0) rfl
  have d11 := HT.out.cell (i := 11) (v := .int .i64 0) rfl
  have d12 := HT.out.cell (i := 12) (v := .int .i64 0) rfl
  have d13 := HT.out.cell (i := 13) (v := .int .i64 0) rfl
  have d14 := HT.out.cell (i := 14) (v := .int .i64 0) rfl
  have f0 := HT.out.free 0
  have f1 := HT.out.free 1
  have f2 := HT.out.free 2
  have f3 := HT.out.free 3
  have f4 := HT.out.free 4
  have f5 := HT.out.free 5
  have f6 := HT.out.free 6
  have f7 := HT.out.free 7
  have f8 := HT.out.free 8
  have f9 := HT.out.free 9
  have f10 := HT.out.free 10
  have f11 := HT.out.free 11
  have f12 := HT.out.free 12
  have f13 := HT.out.free 13
  have f14 := HT.out.free 14
  obtain ⟨hs, hw⟩ := stored15 (q := fun _ => 0) (n0 := 0) (m0 := 0) (c0 := 0) HT.out (fun _ => 0) 0 0 0
  clear HA HS
  have HB4 := Lib.hid (HB.out.trans (hw.below (by omega) (by have := HT.out.lt; omega)))
  clear hw HT HB
  go_wp2
  generalize (((((((((((((((w1.setCell ⟨w.heap.size + 1, 0, none⟩ (.int .i64 0)).setCell ⟨w.heap.size + 1, 1, none⟩ (.int .i64 0)).setCell ⟨w.heap.size + 1, 2, none⟩ (.int .i64 0)).setCell ⟨w.heap.size + 1, 3, none⟩ (.int .i64 0)).setCell ⟨w.heap.size + 1, 4, none⟩ (.int .i64 0)).setCell ⟨w.heap.size + 1, 5, none⟩ (.int .i64 0)).setCell ⟨w.heap.size + 1, 6, none⟩ (.int .i64 0)).setCell ⟨w.heap.size + 1, 7, none⟩ (.int .i64 0)).setCell ⟨w.heap.size + 1, 8, none⟩ (.int .i64 0)).setCell ⟨w.heap.size + 1, 9, none⟩ (.int .i64 0)).setCell ⟨w.heap.size + 1, 10, none⟩ (.int .i64 0)).setCell ⟨w.heap.size + 1, 11, none⟩ (.int .i64 0)).setCell ⟨w.heap.size + 1, 12, none⟩ (.int .i64 0)).setCell ⟨w.heap.size + 1, 13, none⟩ (.int .i64 0)).setCell ⟨w.heap.size + 1, 14, none⟩ (.int .i64 0)) = wf at hs HB4 ⊢
  have e0 := (Lib.hid hs).out.cell (i := 0) (v := .int .i64 0) rfl
  have e1 := (Lib.hid hs).out.cell (i := 1) (v := .int .i64 0) rfl
  have e2 := (Lib.hid hs).out.cell (i := 2) (v := .int .i64 0) rfl
  have e3 := (Lib.hid hs).out.cell (i := 3) (v := .int .i64 0) rfl
  have e4 := (Lib.hid hs).out.cell (i := 4) (v := .int .i64 0) rfl
  have e5 := (Lib.hid hs).out.cell (i := 5) (v := .int .i64 0) rfl
  have e6 := (Lib.hid hs).out.cell (i := 6) (v := .int .i64 0) rfl
  have e7 := (Lib.hid hs).out.cell (i := 7) (v := .int .i64 0) rfl
  have e8 := (Lib.hid hs).out.cell (i := 8) (v := .int .i64 0) rfl
  have e9 := (Lib.hid hs).out.cell (i := 9) (v := .int .i64 0) rfl
  have e10 := (Lib.hid hs).out.cell (i := 10) (v := .int .i64 0) rfl
  have e11 := (Lib.hid hs).out.cell (i := 11) (v := .int .i64 0) rfl
  have e12 := (Lib.hid hs).out.cell (i := 12) (v := .int .i64 0) rfl
  have e13 := (Lib.hid hs).out.cell (i := 13) (v := .int .i64 0) rfl
  have e14 := (Lib.hid hs).out.cell (i := 14) (v := .int .i64 0) rfl
  refine bodyPost_ret (v := .tuple #[.agg (rmA (fun _ => 0) 0 0 0), .bool false]) (by simp [results, go_sem, e0, e1, e2, e3, e4, e5, e6, e7, e8, e9, e10, e11, e12, e13, e14]; try rfl) rfl ?_
  exact ⟨rfl, HB4.out⟩
end Go.Proofs.Ytpjoljaamakagaa
