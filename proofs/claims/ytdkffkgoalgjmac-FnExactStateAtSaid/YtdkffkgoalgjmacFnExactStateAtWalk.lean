/- The law FnExactStateAt: its walk over the two functions' contracts. -/
import Derived.Test.YtdkffkgoalgjmacL9S
import Derived.Test.YtdkffkgoalgjmacL9M
import Derived.Test.YtdkffkgoalgjmacOpenT
import Derived.Deep.RegionHeld3
namespace Go.Proofs.Ytdkffkgoalgjmac
open Go.RowKit
set_option linter.unusedVariables false

set_option maxRecDepth 100000 in
set_option maxHeartbeats 40000000 in
theorem fnExactStateAt_walk (n : Int) (At : Option Addr) (ct : Nat) (t : List (Int × Int × Int)) (k : Int) (m : Int) (W : World) (wfn : (Lit.int .i64 n).wf = true) (hSt : Nds W 0 W.heap.size At t) (hct : t.length ≤ ct) (hcmt : ct ≤ maxLen) (wfk : (Lit.int .i64 k).wf = true) (wfm : (Lit.int .i64 m).wf = true) (hsh : W.ShapedOpen Try.prog) :
    Calls Try.prog 3 #[.int .i64 n, .agg #[.slice At t.length ct], .int .i64 k, .int .i64 m] W fun e w' => e = .returned (.bool true) ∧ Below W.heap.size W w' := by
  clear hsh
  unfold maxLen at hcmt
  by_cases ht : t.length ≤ 1048576
  case neg =>
    have HB := Lib.hid ((Below.refl W.heap.size W).alloc (Nat.le_refl _) (.cells #[.slice At t.length ct] 24))
    have C0 := Lib.hid (fun w => szTree_any At ct t.length 1048576 w (by unfold maxLen; omega) (by omega))
    rw [show (((1048576 : Nat) : Int)) = 1048576 from rfl] at C0
    rw [szI_no (by omega)] at C0
    clear hSt hct
    go_enter Try.func3, Try.ntmps3
    go_wp2_with fail
    refine (C0.out _).mono ?_
    rintro e w1 ⟨rfl, hb⟩
    replace HB := Lib.hid (below_trans HB.out hb)
    clear hb C0
    go_wp2
    go_ret
    exact ⟨rfl, HB.out⟩
  have hkeept := ht
  obtain ⟨r0, u0, r1, l0, hI, hC⟩ := stateAt_both n t ht k m
  have CI := Lib.hid hI
  have CS := Lib.hid hC
  clear hI hC
  have HB := Lib.hid ((Below.refl W.heap.size W).alloc (Nat.le_refl _) (.cells #[.slice At t.length ct] 24))
  have HXt := Lib.hid (One.new W (.slice At t.length ct) 24 W.heap.size rfl)
  have HIt := Lib.hid ((NIns.mk hSt (Nat.le_refl _)).step HB.out)
  have ZB : Hid (W.heap.size < (W.alloc (.cells #[.slice At t.length ct] 24)).heap.size) := Lib.hid (by simp)
  have C0 := Lib.hid (fun w => szTree_any At ct t.length 1048576 w (by unfold maxLen; omega) (by omega))
  rw [show (((1048576 : Nat) : Int)) = 1048576 from rfl, szI_yes ht] at C0
  have hsz0 : (0 : Int) ≤ ((1048576 - t.length : Nat) : Int) := by omega
  clear hSt hct
  go_enter Try.func3, Try.ntmps3
  go_wp2_with fail
  generalize W.alloc (.cells #[.slice At t.length ct] 24) = w0 at HIt HXt HB ZB ⊢
  have ht0 := HXt.out.c0
  generalize ((1048576 - t.length : Nat) : Int) = left at C0 hsz0
  go_wp2_with fail
  with_reducible refine (C0.out _).mono ?_
  rintro e w1 ⟨rfl, hb⟩
  have Z0 : Hid (w0.heap.size ≤ w1.heap.size) := Lib.hid hb.size
  replace HIt := Lib.hid (HIt.out.step hb)
  replace HXt := Lib.hid (HXt.out.step hb)
  replace HB := Lib.hid (below_trans HB.out hb)
  replace ht0 := HXt.out.c0
  clear hb
  go_wp2_with fail
  with_reducible refine (toTree_any At ct 0 W.heap.size t _ HIt.out ht).mono ?_
  rintro e w2 ⟨Btw, rfl, hr, hb⟩
  have Z1 : Hid (w1.heap.size ≤ w2.heap.size) := Lib.hid hb.size
  replace HIt := Lib.hid (HIt.out.step hb)
  replace HXt := Lib.hid (HXt.out.step hb)
  replace HB := Lib.hid (below_trans HB.out hb)
  replace ht0 := HXt.out.c0
  have RBtw := Lib.hid hr
  clear hr
  clear hb
  go_wp2_with fail
  with_reducible refine (CS.out _ Btw _ _ _ RBtw.out.ins).mono ?_
  rintro e w3 ⟨Bw0, cw0, rfl, hr, hb⟩
  have Z2 : Hid (w2.heap.size ≤ w3.heap.size) := Lib.hid hb.size
  replace HIt := Lib.hid (HIt.out.step hb)
  replace HXt := Lib.hid (HXt.out.step hb)
  replace HB := Lib.hid (below_trans HB.out hb)
  replace RBtw := Lib.hid (RBtw.out.step hb)
  replace ht0 := HXt.out.c0
  have Rw0 := Lib.hid hr
  clear hr
  clear hb
  have hb : Below w3.heap.size w3 (w3.alloc (.cells #[.slice Bw0 r0.length cw0, .int .i64 u0] 28)) := (Below.refl _ _).alloc (Nat.le_refl _) _
  have ght0 := (HXt.out.step hb).c0
  go_wp2_with fail
  clear ght0 ht0
  have HVw0 := Lib.hid (Two.new w3 (.slice Bw0 r0.length cw0) (.int .i64 u0) 28 w3.heap.size rfl)
  have Z3 : Hid (w3.heap.size < (w3.alloc (.cells #[.slice Bw0 r0.length cw0, .int .i64 u0] 28)).heap.size) := Lib.hid (by simp)
  replace HIt := Lib.hid (HIt.out.step hb)
  replace HXt := Lib.hid (HXt.out.step hb)
  replace HB := Lib.hid (below_trans HB.out hb)
  replace RBtw := Lib.hid (RBtw.out.step hb)
  replace Rw0 := Lib.hid (Rw0.out.step hb)
  clear hb
  generalize w3.alloc (.cells #[.slice Bw0 r0.length cw0, .int .i64 u0] 28) = w4 at HIt HXt HB RBtw Rw0 HVw0 Z3 ⊢
  have ht0 := HXt.out.c0
  have vw00 := HVw0.out.c0
  have vw01 := HVw0.out.c1
  clear RBtw
  go_wp2_with fail
  with_reducible refine (toTree_any At ct 0 W.heap.size t _ HIt.out ht).mono ?_
  rintro e w5 ⟨Btx, rfl, hr, hb⟩
  have Z4 : Hid (w4.heap.size ≤ w5.heap.size) := Lib.hid hb.size
  replace HIt := Lib.hid (HIt.out.step hb)
  replace HXt := Lib.hid (HXt.out.step hb)
  replace HB := Lib.hid (below_trans HB.out hb)
  replace Rw0 := Lib.hid (Rw0.out.step hb)
  replace HVw0 := Lib.hid (HVw0.out.step hb)
  replace ht0 := HXt.out.c0
  replace vw00 := HVw0.out.c0
  replace vw01 := HVw0.out.c1
  have RBtx := Lib.hid hr
  clear hr
  clear hb
  have hb : Below w5.heap.size w5 (w5.alloc (.cells #[.slice Btx t.length t.length] 33)) := (Below.refl _ _).alloc (Nat.le_refl _) _
  have ght0 := (HXt.out.step hb).c0
  have gvw00 := (HVw0.out.step hb).c0
  have gvw01 := (HVw0.out.step hb).c1
  go_wp2_with fail
  clear ght0 ht0 gvw00 vw00 gvw01 vw01
  have HXBtx := Lib.hid (One.new w5 (.slice Btx t.length t.length) 33 w5.heap.size rfl)
  have Z5 : Hid (w5.heap.size < (w5.alloc (.cells #[.slice Btx t.length t.length] 33)).heap.size) := Lib.hid (by simp)
  replace HIt := Lib.hid (HIt.out.step hb)
  replace HXt := Lib.hid (HXt.out.step hb)
  replace HB := Lib.hid (below_trans HB.out hb)
  replace Rw0 := Lib.hid (Rw0.out.step hb)
  replace HVw0 := Lib.hid (HVw0.out.step hb)
  replace RBtx := Lib.hid (RBtx.out.step hb)
  clear hb
  generalize w5.alloc (.cells #[.slice Btx t.length t.length] 33) = w6 at HIt HXt HB Rw0 HVw0 RBtx HXBtx Z5 ⊢
  have ht0 := HXt.out.c0
  have vw00 := HVw0.out.c0
  have vw01 := HVw0.out.c1
  have hxt0 := HXBtx.out.c0
  go_wp2_with fail
  with_reducible refine (CI.out _ Btx _ _ _ RBtx.out.ins).mono ?_
  rintro e w7 ⟨Bg0, cg0, rfl, hr, hb⟩
  have Z6 : Hid (w6.heap.size ≤ w7.heap.size) := Lib.hid hb.size
  replace HIt := Lib.hid (HIt.out.step hb)
  replace HXt := Lib.hid (HXt.out.step hb)
  replace HB := Lib.hid (below_trans HB.out hb)
  replace Rw0 := Lib.hid (Rw0.out.step hb)
  replace HVw0 := Lib.hid (HVw0.out.step hb)
  replace RBtx := Lib.hid (RBtx.out.step hb)
  replace HXBtx := Lib.hid (HXBtx.out.step hb)
  replace ht0 := HXt.out.c0
  replace vw00 := HVw0.out.c0
  replace vw01 := HVw0.out.c1
  replace hxt0 := HXBtx.out.c0
  have Rg0 := Lib.hid hr
  clear hr
  clear hb
  have hb : Below w7.heap.size w7 (w7.alloc (.cells #[.slice Bg0 r0.length cg0, .int .i64 u0] 28)) := (Below.refl _ _).alloc (Nat.le_refl _) _
  have ght0 := (HXt.out.step hb).c0
  have gvw00 := (HVw0.out.step hb).c0
  have gvw01 := (HVw0.out.step hb).c1
  have ghxt0 := (HXBtx.out.step hb).c0
  go_wp2_with fail
  clear ght0 ht0 gvw00 vw00 gvw01 vw01 ghxt0 hxt0
  have HVg0 := Lib.hid (Two.new w7 (.slice Bg0 r0.length cg0) (.int .i64 u0) 28 w7.heap.size rfl)
  have Z7 : Hid (w7.heap.size < (w7.alloc (.cells #[.slice Bg0 r0.length cg0, .int .i64 u0] 28)).heap.size) := Lib.hid (by simp)
  replace HIt := Lib.hid (HIt.out.step hb)
  replace HXt := Lib.hid (HXt.out.step hb)
  replace HB := Lib.hid (below_trans HB.out hb)
  replace Rw0 := Lib.hid (Rw0.out.step hb)
  replace HVw0 := Lib.hid (HVw0.out.step hb)
  replace RBtx := Lib.hid (RBtx.out.step hb)
  replace HXBtx := Lib.hid (HXBtx.out.step hb)
  replace Rg0 := Lib.hid (Rg0.out.step hb)
  clear hb
  generalize w7.alloc (.cells #[.slice Bg0 r0.length cg0, .int .i64 u0] 28) = w8 at HIt HXt HB Rw0 HVw0 RBtx HXBtx Rg0 HVg0 Z7 ⊢
  have ht0 := HXt.out.c0
  have vw00 := HVw0.out.c0
  have vw01 := HVw0.out.c1
  have hxt0 := HXBtx.out.c0
  have vg00 := HVg0.out.c0
  have vg01 := HVg0.out.c1
  go_wp2_with fail
  with_reducible refine (eqState_same Bg0 Bw0 cg0 cw0 _ _ _ _ r0 u0 _ Rg0.out.ins Rw0.out.ins l0).mono ?_
  rintro e w9 ⟨rfl, hb⟩
  have Z8 : Hid (w8.heap.size ≤ w9.heap.size) := Lib.hid hb.size
  replace HIt := Lib.hid (HIt.out.step hb)
  replace HXt := Lib.hid (HXt.out.step hb)
  replace HB := Lib.hid (below_trans HB.out hb)
  replace Rw0 := Lib.hid (Rw0.out.step hb)
  replace HVw0 := Lib.hid (HVw0.out.step hb)
  replace RBtx := Lib.hid (RBtx.out.step hb)
  replace HXBtx := Lib.hid (HXBtx.out.step hb)
  replace Rg0 := Lib.hid (Rg0.out.step hb)
  replace HVg0 := Lib.hid (HVg0.out.step hb)
  replace ht0 := HXt.out.c0
  replace vw00 := HVw0.out.c0
  replace vw01 := HVw0.out.c1
  replace hxt0 := HXBtx.out.c0
  replace vg00 := HVg0.out.c0
  replace vg01 := HVg0.out.c1
  clear hb
  go_wp2_with fail
  clear ht0 vw00 vw01 hxt0 vg00 vg01
  go_region_held3 (fun w' => w'.cell? ⟨W.heap.size, 0, none⟩ = some (.slice At t.length ct) ∧ w'.cell? ⟨w5.heap.size, 0, none⟩ = some (.slice Btx t.length t.length))
    (first
     | exact ⟨(HXt.out.step (Below.refl _ w9).drew).c0, (HXBtx.out.step (Below.refl _ w9).drew).c0⟩
     | exact ⟨HXt_1.out.c0, HXBtx_1.out.c0⟩
     | exact ⟨HXt_2.out.c0, HXBtx_2.out.c0⟩)
    (first
     | (go_at_call 13; (with_reducible refine (eqTree_same Btx BY t.length t.length _ _ _ _ t _ RX_1.out.ins HY1.out.ins ht).mono ?_); rintro e v2 ⟨rfl, hb⟩; have HZ2 := Lib.hid (below_trans HZ1.out hb); have HIt_2 := Lib.hid (HIt.out.step HZ2.out); have HXt_2 := Lib.hid (HXt.out.step HZ2.out); have HB_2 := Lib.hid (below_trans HB.out HZ2.out); have Rw0_2 := Lib.hid (Rw0.out.step HZ2.out); have HVw0_2 := Lib.hid (HVw0.out.step HZ2.out); have RBtx_2 := Lib.hid (RBtx.out.step HZ2.out); have HXBtx_2 := Lib.hid (HXBtx.out.step HZ2.out); have Rg0_2 := Lib.hid (Rg0.out.step HZ2.out); have HVg0_2 := Lib.hid (HVg0.out.step HZ2.out); clear hb)
     | (go_at_call 10; (with_reducible refine (toTree_any At ct 0 W.heap.size t _ (HIt.out.step (Below.refl _ w9).drew) ht).mono ?_); rintro e v1 ⟨BY, rfl, hr, hb⟩; have HZ1 := Lib.hid (below_trans (Below.refl _ w9).drew hb); have HY1 := Lib.hid hr; have HIt_1 := Lib.hid (HIt.out.step HZ1.out); have HXt_1 := Lib.hid (HXt.out.step HZ1.out); have HB_1 := Lib.hid (below_trans HB.out HZ1.out); have Rw0_1 := Lib.hid (Rw0.out.step HZ1.out); have HVw0_1 := Lib.hid (HVw0.out.step HZ1.out); have RX_1 := Lib.hid (RBtx.out.step HZ1.out); have HXBtx_1 := Lib.hid (HXBtx.out.step HZ1.out); have Rg0_1 := Lib.hid (Rg0.out.step HZ1.out); have HVg0_1 := Lib.hid (HVg0.out.step HZ1.out); clear hb hr))
  all_goals
    clear HIt HXt HB Rw0 HVw0 RBtx HXBtx Rg0 HVg0 HIt_1 HXt_1 HB_1 Rw0_1 HVw0_1 RX_1 HXBtx_1 Rg0_1 HVg0_1 HY1 HZ1
    have HIt := HIt_2
    have HXt := HXt_2
    have HB := HB_2
    have Rw0 := Rw0_2
    have HVw0 := HVw0_2
    have RBtx := RBtx_2
    have HXBtx := HXBtx_2
    have Rg0 := Rg0_2
    have HVg0 := HVg0_2
    clear HIt_2 HXt_2 HB_2 Rw0_2 HVw0_2 RBtx_2 HXBtx_2 Rg0_2 HVg0_2
    obtain ⟨w10, hwv⟩ : ∃ x, x = v2 := ⟨_, rfl⟩
    have Z9 : Hid (w9.heap.size ≤ v2.heap.size) := Lib.hid (HZ2.out.size)
    rw [← hwv] at Z9 HIt HXt HB Rw0 HVw0 RBtx HXBtx Rg0 HVg0 ⊢
    clear hwv HZ2
    have ht0 := HXt.out.c0
    have vw00 := HVw0.out.c0
    have vw01 := HVw0.out.c1
    have hxt0 := HXBtx.out.c0
    have vg00 := HVg0.out.c0
    have vg01 := HVg0.out.c1
    go_wp2_with fail
    with_reducible refine (markTree_any Btx t.length _ _ t _ RBtx.out ht).mono ?_
    rintro e w11 ⟨rfl, hr, hw⟩
    have ZZ := And.intro ZB.out (And.intro Z0.out ( And.intro Z1.out ( And.intro Z2.out ( And.intro Z3.out ( And.intro Z4.out ( And.intro Z5.out ( And.intro Z6.out ( And.intro Z7.out ( And.intro Z8.out ( And.intro Z9.out (trivial)))))))))))
    replace HIt := Lib.hid (HIt.out.within hw (by omega))
    replace HXt := Lib.hid (HXt.out.within hw (by omega))
    replace HB := Lib.hid (HB.out.trans (hw.below (by omega) HB.out.size))
    replace Rw0 := Lib.hid (Rw0.out.within hw (by omega))
    replace HVw0 := Lib.hid (HVw0.out.within hw (by omega))
    replace HXBtx := Lib.hid (HXBtx.out.within hw (by omega))
    replace Rg0 := Lib.hid (Rg0.out.within hw (by omega))
    replace HVg0 := Lib.hid (HVg0.out.within hw (by omega))
    have Z10 : Hid (w10.heap.size ≤ w11.heap.size) := Lib.hid hw.size
    replace ht0 := HXt.out.c0
    replace vw00 := HVw0.out.c0
    replace vw01 := HVw0.out.c1
    replace hxt0 := HXBtx.out.c0
    replace vg00 := HVg0.out.c0
    replace vg01 := HVg0.out.c1
    clear hr
    clear hw ZZ
    clear RBtx
    go_wp2_with fail
    with_reducible refine (eqState_same Bg0 Bw0 cg0 cw0 _ _ _ _ r0 u0 _ Rg0.out.ins Rw0.out.ins l0).mono ?_
    rintro e w12 ⟨rfl, hb⟩
    have Z11 : Hid (w11.heap.size ≤ w12.heap.size) := Lib.hid hb.size
    replace HIt := Lib.hid (HIt.out.step hb)
    replace HXt := Lib.hid (HXt.out.step hb)
    replace HB := Lib.hid (below_trans HB.out hb)
    replace Rw0 := Lib.hid (Rw0.out.step hb)
    replace HVw0 := Lib.hid (HVw0.out.step hb)
    replace HXBtx := Lib.hid (HXBtx.out.step hb)
    replace Rg0 := Lib.hid (Rg0.out.step hb)
    replace HVg0 := Lib.hid (HVg0.out.step hb)
    replace ht0 := HXt.out.c0
    replace vw00 := HVw0.out.c0
    replace vw01 := HVw0.out.c1
    replace hxt0 := HXBtx.out.c0
    replace vg00 := HVg0.out.c0
    replace vg01 := HVg0.out.c1
    clear hb
    have hq0 : (0 : Int) ≤ ((r0.length : Int) + 1) := by omega
    go_wp2_with fail
    with_reducible refine (markState_any Bg0 cg0 _ _ r0 u0 _ Rg0.out l0).mono ?_
    rintro e w13 ⟨rfl, hr, hw⟩
    have ZZ := And.intro ZB.out (And.intro Z0.out ( And.intro Z1.out ( And.intro Z2.out ( And.intro Z3.out ( And.intro Z4.out ( And.intro Z5.out ( And.intro Z6.out ( And.intro Z7.out ( And.intro Z8.out ( And.intro Z9.out ( And.intro Z10.out ( And.intro Z11.out (trivial)))))))))))))
    replace HIt := Lib.hid (HIt.out.within hw (by omega))
    replace HXt := Lib.hid (HXt.out.within hw (by omega))
    replace HB := Lib.hid (HB.out.trans (hw.below (by omega) HB.out.size))
    replace Rw0 := Lib.hid (Rw0.out.within hw (by omega))
    replace HVw0 := Lib.hid (HVw0.out.within hw (by omega))
    replace HXBtx := Lib.hid (HXBtx.out.within hw (by omega))
    replace HVg0 := Lib.hid (HVg0.out.within hw (by omega))
    have Z12 : Hid (w12.heap.size ≤ w13.heap.size) := Lib.hid hw.size
    replace ht0 := HXt.out.c0
    replace vw00 := HVw0.out.c0
    replace vw01 := HVw0.out.c1
    replace hxt0 := HXBtx.out.c0
    replace vg00 := HVg0.out.c0
    replace vg01 := HVg0.out.c1
    have M0 := Lib.hid hr
    clear hr
    clear hw ZZ
    clear Rg0
    go_wp2_with fail
    with_reducible refine (heldState_any Bg0 cg0 _ _ r0.length u0 _ M0.out.ins l0).mono ?_
    rintro e w14 ⟨rfl, hb⟩
    have Z13 : Hid (w13.heap.size ≤ w14.heap.size) := Lib.hid hb.size
    replace HIt := Lib.hid (HIt.out.step hb)
    replace HXt := Lib.hid (HXt.out.step hb)
    replace HB := Lib.hid (below_trans HB.out hb)
    replace Rw0 := Lib.hid (Rw0.out.step hb)
    replace HVw0 := Lib.hid (HVw0.out.step hb)
    replace HXBtx := Lib.hid (HXBtx.out.step hb)
    replace HVg0 := Lib.hid (HVg0.out.step hb)
    replace M0 := Lib.hid (M0.out.step hb)
    replace ht0 := HXt.out.c0
    replace vw00 := HVw0.out.c0
    replace vw01 := HVw0.out.c1
    replace hxt0 := HXBtx.out.c0
    replace vg00 := HVg0.out.c0
    replace vg01 := HVg0.out.c1
    clear hb
    go_wp2_with fail
    with_reducible refine (toTree_any At ct 0 W.heap.size t _ HIt.out ht).mono ?_
    rintro e w15 ⟨Bth, rfl, hr, hb⟩
    have Z14 : Hid (w14.heap.size ≤ w15.heap.size) := Lib.hid hb.size
    replace HIt := Lib.hid (HIt.out.step hb)
    replace HXt := Lib.hid (HXt.out.step hb)
    replace HB := Lib.hid (below_trans HB.out hb)
    replace Rw0 := Lib.hid (Rw0.out.step hb)
    replace HVw0 := Lib.hid (HVw0.out.step hb)
    replace HXBtx := Lib.hid (HXBtx.out.step hb)
    replace HVg0 := Lib.hid (HVg0.out.step hb)
    replace M0 := Lib.hid (M0.out.step hb)
    replace ht0 := HXt.out.c0
    replace vw00 := HVw0.out.c0
    replace vw01 := HVw0.out.c1
    replace hxt0 := HXBtx.out.c0
    replace vg00 := HVg0.out.c0
    replace vg01 := HVg0.out.c1
    have RBth := Lib.hid hr
    clear hr
    clear hb
    go_wp2_with fail
    with_reducible refine (CI.out _ Bth _ _ _ RBth.out.ins).mono ?_
    rintro e w16 ⟨Bh0, ch0, rfl, hr, hb⟩
    have Z15 : Hid (w15.heap.size ≤ w16.heap.size) := Lib.hid hb.size
    replace HIt := Lib.hid (HIt.out.step hb)
    replace HXt := Lib.hid (HXt.out.step hb)
    replace HB := Lib.hid (below_trans HB.out hb)
    replace Rw0 := Lib.hid (Rw0.out.step hb)
    replace HVw0 := Lib.hid (HVw0.out.step hb)
    replace HXBtx := Lib.hid (HXBtx.out.step hb)
    replace HVg0 := Lib.hid (HVg0.out.step hb)
    replace M0 := Lib.hid (M0.out.step hb)
    replace RBth := Lib.hid (RBth.out.step hb)
    replace ht0 := HXt.out.c0
    replace vw00 := HVw0.out.c0
    replace vw01 := HVw0.out.c1
    replace hxt0 := HXBtx.out.c0
    replace vg00 := HVg0.out.c0
    replace vg01 := HVg0.out.c1
    have Rh0 := Lib.hid hr
    clear hr
    clear hb
    have hb : Below w16.heap.size w16 (w16.alloc (.cells #[.slice Bh0 r0.length ch0, .int .i64 u0] 28)) := (Below.refl _ _).alloc (Nat.le_refl _) _
    have ght0 := (HXt.out.step hb).c0
    have gvw00 := (HVw0.out.step hb).c0
    have gvw01 := (HVw0.out.step hb).c1
    have ghxt0 := (HXBtx.out.step hb).c0
    have gvg00 := (HVg0.out.step hb).c0
    have gvg01 := (HVg0.out.step hb).c1
    go_wp2_with fail
    clear ght0 ht0 gvw00 vw00 gvw01 vw01 ghxt0 hxt0 gvg00 vg00 gvg01 vg01
    have HVh0 := Lib.hid (Two.new w16 (.slice Bh0 r0.length ch0) (.int .i64 u0) 28 w16.heap.size rfl)
    have Z16 : Hid (w16.heap.size < (w16.alloc (.cells #[.slice Bh0 r0.length ch0, .int .i64 u0] 28)).heap.size) := Lib.hid (by simp)
    replace HIt := Lib.hid (HIt.out.step hb)
    replace HXt := Lib.hid (HXt.out.step hb)
    replace HB := Lib.hid (below_trans HB.out hb)
    replace Rw0 := Lib.hid (Rw0.out.step hb)
    replace HVw0 := Lib.hid (HVw0.out.step hb)
    replace HXBtx := Lib.hid (HXBtx.out.step hb)
    replace HVg0 := Lib.hid (HVg0.out.step hb)
    replace M0 := Lib.hid (M0.out.step hb)
    replace RBth := Lib.hid (RBth.out.step hb)
    replace Rh0 := Lib.hid (Rh0.out.step hb)
    clear hb
    generalize w16.alloc (.cells #[.slice Bh0 r0.length ch0, .int .i64 u0] 28) = w17 at HIt HXt HB Rw0 HVw0 HXBtx HVg0 M0 RBth Rh0 HVh0 Z16 ⊢
    have ht0 := HXt.out.c0
    have vw00 := HVw0.out.c0
    have vw01 := HVw0.out.c1
    have hxt0 := HXBtx.out.c0
    have vg00 := HVg0.out.c0
    have vg01 := HVg0.out.c1
    have vh00 := HVh0.out.c0
    have vh01 := HVh0.out.c1
    clear RBth
    go_wp2_with fail
    with_reducible refine (eqState_same Bh0 Bw0 ch0 cw0 _ _ _ _ r0 u0 _ Rh0.out.ins Rw0.out.ins l0).mono ?_
    rintro e w18 ⟨rfl, hb⟩
    have Z17 : Hid (w17.heap.size ≤ w18.heap.size) := Lib.hid hb.size
    replace HIt := Lib.hid (HIt.out.step hb)
    replace HXt := Lib.hid (HXt.out.step hb)
    replace HB := Lib.hid (below_trans HB.out hb)
    replace Rw0 := Lib.hid (Rw0.out.step hb)
    replace HVw0 := Lib.hid (HVw0.out.step hb)
    replace HXBtx := Lib.hid (HXBtx.out.step hb)
    replace HVg0 := Lib.hid (HVg0.out.step hb)
    replace M0 := Lib.hid (M0.out.step hb)
    replace Rh0 := Lib.hid (Rh0.out.step hb)
    replace HVh0 := Lib.hid (HVh0.out.step hb)
    replace ht0 := HXt.out.c0
    replace vw00 := HVw0.out.c0
    replace vw01 := HVw0.out.c1
    replace hxt0 := HXBtx.out.c0
    replace vg00 := HVg0.out.c0
    replace vg01 := HVg0.out.c1
    replace vh00 := HVh0.out.c0
    replace vh01 := HVh0.out.c1
    clear hb
    go_wp2_with fail
    with_reducible refine (heldState_any Bg0 cg0 _ _ r0.length u0 _ M0.out.ins l0).mono ?_
    rintro e w19 ⟨rfl, hb⟩
    have Z18 : Hid (w18.heap.size ≤ w19.heap.size) := Lib.hid hb.size
    replace HIt := Lib.hid (HIt.out.step hb)
    replace HXt := Lib.hid (HXt.out.step hb)
    replace HB := Lib.hid (below_trans HB.out hb)
    replace Rw0 := Lib.hid (Rw0.out.step hb)
    replace HVw0 := Lib.hid (HVw0.out.step hb)
    replace HXBtx := Lib.hid (HXBtx.out.step hb)
    replace HVg0 := Lib.hid (HVg0.out.step hb)
    replace M0 := Lib.hid (M0.out.step hb)
    replace Rh0 := Lib.hid (Rh0.out.step hb)
    replace HVh0 := Lib.hid (HVh0.out.step hb)
    replace ht0 := HXt.out.c0
    replace vw00 := HVw0.out.c0
    replace vw01 := HVw0.out.c1
    replace hxt0 := HXBtx.out.c0
    replace vg00 := HVg0.out.c0
    replace vg01 := HVg0.out.c1
    replace vh00 := HVh0.out.c0
    replace vh01 := HVh0.out.c1
    clear hb
    go_wp2
    go_ret
    exact ⟨rfl, HB.out⟩
end Go.Proofs.Ytdkffkgoalgjmac
