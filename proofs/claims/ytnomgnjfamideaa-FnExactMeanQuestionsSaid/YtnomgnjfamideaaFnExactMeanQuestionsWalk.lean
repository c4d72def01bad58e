/- The law FnExactMeanQuestions: its walk over the two functions' contracts. -/
import Derived.Test.YtnomgnjfamideaaL9Q
import Derived.Test.YtnomgnjfamideaaL9M
import Derived.Test.YtnomgnjfamideaaOpenT
import Derived.Deep.RegionHeld3
namespace Go.Proofs.Ytnomgnjfamideaa
open Go.RowKit
set_option linter.unusedVariables false

set_option maxRecDepth 100000 in
set_option maxHeartbeats 40000000 in
theorem fnExactMeanQuestions_walk (n : Int) (At : Option Addr) (ct : Nat) (t : List (Int × Int × Int)) (W : World) (wfn : (Lit.int .i64 n).wf = true) (hSt : Nds W 0 W.heap.size At t) (hct : t.length ≤ ct) (hcmt : ct ≤ maxLen) (hsh : W.ShapedOpen Try.prog) :
    Calls Try.prog 12 #[.int .i64 n, .agg #[.slice At t.length ct]] W fun e w' => e = .returned (.bool true) ∧ Below W.heap.size W w' := by
  clear hsh
  unfold maxLen at hcmt
  by_cases ht : t.length ≤ 1048576
  case neg =>
    have HB := Lib.hid ((Below.refl W.heap.size W).alloc (Nat.le_refl _) (.cells #[.slice At t.length ct] 24))
    have C0 := Lib.hid (fun w => szTree_any At ct t.length 1048576 w (by unfold maxLen; omega) (by omega))
    rw [show (((1048576 : Nat) : Int)) = 1048576 from rfl] at C0
    rw [szI_no (by omega)] at C0
    clear hSt hct
    go_enter Try.func12, Try.ntmps12
    go_wp2_with fail
    refine (C0.out _).mono ?_
    rintro e w1 ⟨rfl, hb⟩
    replace HB := Lib.hid (below_trans HB.out hb)
    clear hb C0
    go_wp2
    go_ret
    exact ⟨rfl, HB.out⟩
  have hkeept := ht
  obtain ⟨r0, u0, r1, hI, hC⟩ := meanQuestions_both n t ht
  have CI := Lib.hid hI
  have CS := Lib.hid hC
  clear hI hC
  have HB := Lib.hid ((Below.refl W.heap.size W).alloc (Nat.le_refl _) (.cells #[.slice At t.length ct] 24))
  have HXt := Lib.hid (One.new W (.slice At t.length ct) 24 W.heap.size rfl)
  have HIt := Lib.hid ((NIns.mk hSt (Nat.le_refl _)).step HB.out)
  have ZB : Hid (W.heap.size < (W.alloc (.cells #[.slice At t.length ct] 24)).heap.size) := Lib.hid (by simp)
  have C0 := Lib.hid (fun w => szTree_any At ct t.length 1048576 w (by unfold maxLen; omega) (by omega))
  rw [show (((1048576 : Nat) : Int)) = 1048576 from rfl, szI_yes ht] at C0
  have hsz0 : (0 : Int) ≤ ((1048576 - t.length : Nat) : Int) := by omega
  clear hSt hct
  go_enter Try.func12, Try.ntmps12
  go_wp2_with fail
  generalize W.alloc (.cells #[.slice At t.length ct] 24) = w0 at HIt HXt HB ZB ⊢
  have ht0 := HXt.out.c0
  generalize ((1048576 - t.length : Nat) : Int) = left at C0 hsz0
  go_wp2_with fail
  with_reducible refine (C0.out _).mono ?_
  rintro e w1 ⟨rfl, hb⟩
  have Z0 : Hid (w0.heap.size ≤ w1.heap.size) := Lib.hid hb.size
  replace HIt := Lib.hid (HIt.out.step hb)
  replace HXt := Lib.hid (HXt.out.step hb)
  replace HB := Lib.hid (below_trans HB.out hb)
  replace ht0 := HXt.out.c0
  clear hb
  go_wp2_with fail
  with_reducible refine (toTree_any At ct 0 W.heap.size t _ HIt.out ht).mono ?_
  rintro e w2 ⟨Btw, rfl, hr, hb⟩
  have Z1 : Hid (w1.heap.size ≤ w2.heap.size) := Lib.hid hb.size
  replace HIt := Lib.hid (HIt.out.step hb)
  replace HXt := Lib.hid (HXt.out.step hb)
  replace HB := Lib.hid (below_trans HB.out hb)
  replace ht0 := HXt.out.c0
  have RBtw := Lib.hid hr
  clear hr
  clear hb
  go_wp2_with fail
  with_reducible refine (CS.out _ Btw _ _ _ RBtw.out.ins).mono ?_
  rintro e w3 ⟨rfl, hb⟩
  have Z2 : Hid (w2.heap.size ≤ w3.heap.size) := Lib.hid hb.size
  replace HIt := Lib.hid (HIt.out.step hb)
  replace HXt := Lib.hid (HXt.out.step hb)
  replace HB := Lib.hid (below_trans HB.out hb)
  replace RBtw := Lib.hid (RBtw.out.step hb)
  replace ht0 := HXt.out.c0
  clear hb
  have hb : Below w3.heap.size w3 (w3.alloc (.cells #[.int .i64 r0, .int .i64 u0] 62)) := (Below.refl _ _).alloc (Nat.le_refl _) _
  have ght0 := (HXt.out.step hb).c0
  go_wp2_with fail
  clear ght0 ht0
  have HVw0 := Lib.hid (Two.new w3 (.int .i64 r0) (.int .i64 u0) 62 w3.heap.size rfl)
  have Z3 : Hid (w3.heap.size < (w3.alloc (.cells #[.int .i64 r0, .int .i64 u0] 62)).heap.size) := Lib.hid (by simp)
  replace HIt := Lib.hid (HIt.out.step hb)
  replace HXt := Lib.hid (HXt.out.step hb)
  replace HB := Lib.hid (below_trans HB.out hb)
  replace RBtw := Lib.hid (RBtw.out.step hb)
  clear hb
  generalize w3.alloc (.cells #[.int .i64 r0, .int .i64 u0] 62) = w4 at HIt HXt HB RBtw HVw0 Z3 ⊢
  have ht0 := HXt.out.c0
  have vw00 := HVw0.out.c0
  have vw01 := HVw0.out.c1
  clear RBtw
  go_wp2_with fail
  with_reducible refine (toTree_any At ct 0 W.heap.size t _ HIt.out ht).mono ?_
  rintro e w5 ⟨Btx, rfl, hr, hb⟩
  have Z4 : Hid (w4.heap.size ≤ w5.heap.size) := Lib.hid hb.size
  replace HIt := Lib.hid (HIt.out.step hb)
  replace HXt := Lib.hid (HXt.out.step hb)
  replace HB := Lib.hid (below_trans HB.out hb)
  replace HVw0 := Lib.hid (HVw0.out.step hb)
  replace ht0 := HXt.out.c0
  replace vw00 := HVw0.out.c0
  replace vw01 := HVw0.out.c1
  have RBtx := Lib.hid hr
  clear hr
  clear hb
  have hb : Below w5.heap.size w5 (w5.alloc (.cells #[.slice Btx t.length t.length] 29)) := (Below.refl _ _).alloc (Nat.le_refl _) _
  have ght0 := (HXt.out.step hb).c0
  have gvw00 := (HVw0.out.step hb).c0
  have gvw01 := (HVw0.out.step hb).c1
  go_wp2_with fail
  clear ght0 ht0 gvw00 vw00 gvw01 vw01
  have HXBtx := Lib.hid (One.new w5 (.slice Btx t.length t.length) 29 w5.heap.size rfl)
  have Z5 : Hid (w5.heap.size < (w5.alloc (.cells #[.slice Btx t.length t.length] 29)).heap.size) := Lib.hid (by simp)
  replace HIt := Lib.hid (HIt.out.step hb)
  replace HXt := Lib.hid (HXt.out.step hb)
  replace HB := Lib.hid (below_trans HB.out hb)
  replace HVw0 := Lib.hid (HVw0.out.step hb)
  replace RBtx := Lib.hid (RBtx.out.step hb)
  clear hb
  generalize w5.alloc (.cells #[.slice Btx t.length t.length] 29) = w6 at HIt HXt HB HVw0 RBtx HXBtx Z5 ⊢
  have ht0 := HXt.out.c0
  have vw00 := HVw0.out.c0
  have vw01 := HVw0.out.c1
  have hxt0 := HXBtx.out.c0
  go_wp2_with fail
  with_reducible refine (CI.out _ Btx _ _ _ RBtx.out.ins).mono ?_
  rintro e w7 ⟨rfl, hb⟩
  have Z6 : Hid (w6.heap.size ≤ w7.heap.size) := Lib.hid hb.size
  replace HIt := Lib.hid (HIt.out.step hb)
  replace HXt := Lib.hid (HXt.out.step hb)
  replace HB := Lib.hid (below_trans HB.out hb)
  replace HVw0 := Lib.hid (HVw0.out.step hb)
  replace RBtx := Lib.hid (RBtx.out.step hb)
  replace HXBtx := Lib.hid (HXBtx.out.step hb)
  replace ht0 := HXt.out.c0
  replace vw00 := HVw0.out.c0
  replace vw01 := HVw0.out.c1
  replace hxt0 := HXBtx.out.c0
  clear hb
  have hb : Below w7.heap.size w7 (w7.alloc (.cells #[.int .i64 r0, .int .i64 u0] 62)) := (Below.refl _ _).alloc (Nat.le_refl _) _
  have ght0 := (HXt.out.step hb).c0
  have gvw00 := (HVw0.out.step hb).c0
  have gvw01 := (HVw0.out.step hb).c1
  have ghxt0 := (HXBtx.out.step hb).c0
  go_wp2_with fail
  clear ght0 ht0 gvw00 vw00 gvw01 vw01 ghxt0 hxt0
  have HVg0 := Lib.hid (Two.new w7 (.int .i64 r0) (.int .i64 u0) 62 w7.heap.size rfl)
  have Z7 : Hid (w7.heap.size < (w7.alloc (.cells #[.int .i64 r0, .int .i64 u0] 62)).heap.size) := Lib.hid (by simp)
  replace HIt := Lib.hid (HIt.out.step hb)
  replace HXt := Lib.hid (HXt.out.step hb)
  replace HB := Lib.hid (below_trans HB.out hb)
  replace HVw0 := Lib.hid (HVw0.out.step hb)
  replace RBtx := Lib.hid (RBtx.out.step hb)
  replace HXBtx := Lib.hid (HXBtx.out.step hb)
  clear hb
  generalize w7.alloc (.cells #[.int .i64 r0, .int .i64 u0] 62) = w8 at HIt HXt HB HVw0 RBtx HXBtx HVg0 Z7 ⊢
  have ht0 := HXt.out.c0
  have vw00 := HVw0.out.c0
  have vw01 := HVw0.out.c1
  have hxt0 := HXBtx.out.c0
  have vg00 := HVg0.out.c0
  have vg01 := HVg0.out.c1
  go_wp2_with fail
  with_reducible refine (eqIntA2_same7 r0 u0 _).mono ?_
  rintro e w9 ⟨rfl, hb⟩
  have Z8 : Hid (w8.heap.size ≤ w9.heap.size) := Lib.hid hb.size
  replace HIt := Lib.hid (HIt.out.step hb)
  replace HXt := Lib.hid (HXt.out.step hb)
  replace HB := Lib.hid (below_trans HB.out hb)
  replace HVw0 := Lib.hid (HVw0.out.step hb)
  replace RBtx := Lib.hid (RBtx.out.step hb)
  replace HXBtx := Lib.hid (HXBtx.out.step hb)
  replace HVg0 := Lib.hid (HVg0.out.step hb)
  replace ht0 := HXt.out.c0
  replace vw00 := HVw0.out.c0
  replace vw01 := HVw0.out.c1
  replace hxt0 := HXBtx.out.c0
  replace vg00 := HVg0.out.c0
  replace vg01 := HVg0.out.c1
  clear hb
  go_wp2_with fail
  clear ht0 vw00 vw01 hxt0 vg00 vg01
  go_region_held3 (fun w' => w'.cell? ⟨W.heap.size, 0, none⟩ = some (.slice At t.length ct) ∧ w'.cell? ⟨w5.heap.size, 0, none⟩ = some (.slice Btx t.length t.length))
    (first
     | exact ⟨(HXt.out.step (Below.refl _ w9).drew).c0, (HXBtx.out.step (Below.refl _ w9).drew).c0⟩
     | exact ⟨HXt_1.out.c0, HXBtx_1.out.c0⟩
     | exact ⟨HXt_2.out.c0, HXBtx_2.out.c0⟩)
    (first
     | (go_at_call 19; (with_reducible refine (eqTree_same Btx BY t.length t.length _ _ _ _ t _ RX_1.out.ins HY1.out.ins ht).mono ?_); rintro e v2 ⟨rfl, hb⟩; have HZ2 := Lib.hid (below_trans HZ1.out hb); have HIt_2 := Lib.hid (HIt.out.step HZ2.out); have HXt_2 := Lib.hid (HXt.out.step HZ2.out); have HB_2 := Lib.hid (below_trans HB.out HZ2.out); have HVw0_2 := Lib.hid (HVw0.out.step HZ2.out); have RBtx_2 := Lib.hid (RBtx.out.step HZ2.out); have HXBtx_2 := Lib.hid (HXBtx.out.step HZ2.out); have HVg0_2 := Lib.hid (HVg0.out.step HZ2.out); clear hb)
     | (go_at_call 17; (with_reducible refine (toTree_any At ct 0 W.heap.size t _ (HIt.out.step (Below.refl _ w9).drew) ht).mono ?_); rintro e v1 ⟨BY, rfl, hr, hb⟩; have HZ1 := Lib.hid (below_trans (Below.refl _ w9).drew hb); have HY1 := Lib.hid hr; have HIt_1 := Lib.hid (HIt.out.step HZ1.out); have HXt_1 := Lib.hid (HXt.out.step HZ1.out); have HB_1 := Lib.hid (below_trans HB.out HZ1.out); have HVw0_1 := Lib.hid (HVw0.out.step HZ1.out); have RX_1 := Lib.hid (RBtx.out.step HZ1.out); have HXBtx_1 := Lib.hid (HXBtx.out.step HZ1.out); have HVg0_1 := Lib.hid (HVg0.out.step HZ1.out); clear hb hr))
  all_goals
    clear HIt HXt HB HVw0 RBtx HXBtx HVg0 HIt_1 HXt_1 HB_1 HVw0_1 RX_1 HXBtx_1 HVg0_1 HY1 HZ1
    have HIt := HIt_2
    have HXt := HXt_2
    have HB := HB_2
    have HVw0 := HVw0_2
    have RBtx := RBtx_2
    have HXBtx := HXBtx_2
    have HVg0 := HVg0_2
    clear HIt_2 HXt_2 HB_2 HVw0_2 RBtx_2 HXBtx_2 HVg0_2
    obtain ⟨w10, hwv⟩ : ∃ x, x = v2 := ⟨_, rfl⟩
    have Z9 : Hid (w9.heap.size ≤ v2.heap.size) := Lib.hid (HZ2.out.size)
    rw [← hwv] at Z9 HIt HXt HB HVw0 RBtx HXBtx HVg0 ⊢
    clear hwv HZ2
    have ht0 := HXt.out.c0
    have vw00 := HVw0.out.c0
    have vw01 := HVw0.out.c1
    have hxt0 := HXBtx.out.c0
    have vg00 := HVg0.out.c0
    have vg01 := HVg0.out.c1
    go_wp2
    go_ret
    exact ⟨rfl, HB.out⟩
end Go.Proofs.Ytnomgnjfamideaa
