/- The law FnExactIsGoodTree: its walk over the two functions' contracts. -/
import Derived.Test.YtdkffkgoalgjmacL9G
import Derived.Test.YtdkffkgoalgjmacL9M
import Derived.Test.YtdkffkgoalgjmacOpenT
import Derived.Deep.RegionHeld3
namespace Go.Proofs.Ytdkffkgoalgjmac
open Go.RowKit
set_option linter.unusedVariables false

set_option maxRecDepth 100000 in
set_option maxHeartbeats 40000000 in
theorem fnExactIsGoodTree_walk (n : Int) (At : Option Addr) (ct : Nat) (t : List (Int × Int × Int)) (m : Int) (W : World) (wfn : (Lit.int .i64 n).wf = true) (hSt : Nds W 0 W.heap.size At t) (hct : t.length ≤ ct) (hcmt : ct ≤ maxLen) (wfm : (Lit.int .i64 m).wf = true) (hsh : W.ShapedOpen Try.prog) :
    Calls Try.prog 5 #[.int .i64 n, .agg #[.slice At t.length ct], .int .i64 m] W fun e w' => e = .returned (.bool true) ∧ Below W.heap.size W w' := by
  clear hsh
  unfold maxLen at hcmt
  by_cases ht : t.length ≤ 1048576
  case neg =>
    have HB := Lib.hid ((Below.refl W.heap.size W).alloc (Nat.le_refl _) (.cells #[.slice At t.length ct] 24))
    have C0 := Lib.hid (fun w => szTree_any At ct t.length 1048576 w (by unfold maxLen; omega) (by omega))
    rw [show (((1048576 : Nat) : Int)) = 1048576 from rfl] at C0
    rw [szI_no (by omega)] at C0
    clear hSt hct
    go_enter Try.func5, Try.ntmps5
    go_wp2_with fail
    refine (C0.out _).mono ?_
    rintro e w1 ⟨rfl, hb⟩
    replace HB := Lib.hid (below_trans HB.out hb)
    clear hb C0
    go_wp2
    go_ret
    exact ⟨rfl, HB.out⟩
  have hkeept := ht
  obtain ⟨r0, r1, hI, hC⟩ := isGoodTree_both n t ht m
  have CI := Lib.hid hI
  have CS := Lib.hid hC
  clear hI hC
  have HB := Lib.hid ((Below.refl W.heap.size W).alloc (Nat.le_refl _) (.cells #[.slice At t.length ct] 24))
  have HXt := Lib.hid (One.new W (.slice At t.length ct) 24 W.heap.size rfl)
  have HIt := Lib.hid ((NIns.mk hSt (Nat.le_refl _)).step HB.out)
  have ZB : Hid (W.heap.size < (W.alloc (.cells #[.slice At t.length ct] 24)).heap.size) := Lib.hid (by simp)
  have C0 := Lib.hid (fun w => szTree_any At ct t.length 1048576 w (by unfold maxLen; omega) (by omega))
  rw [show (((1048576 : Nat) : Int)) = 1048576 from rfl, szI_yes ht] at C0
  have hsz0 : (0 : Int) ≤ ((1048576 - t.length : Nat) : Int) := by omega
  clear hSt hct
  go_enter Try.func5, Try.ntmps5
  go_wp2_with fail
  generalize W.alloc (.cells #[.slice At t.length ct] 24) = w0 at HIt HXt HB ZB ⊢
  have ht0 := HXt.out.c0
  generalize ((1048576 - t.length : Nat) : Int) = left at C0 hsz0
  go_wp2_with fail
  with_reducible refine (C0.out _).mono ?_
  rintro e w1 ⟨rfl, hb⟩
  have Z0 : Hid (w0.heap.size ≤ w1.heap.size) := Lib.hid hb.size
  replace HIt := Lib.hid (HIt.out.step hb)
  replace HXt := Lib.hid (HXt.out.step hb)
  replace HB := Lib.hid (below_trans HB.out hb)
  replace ht0 := HXt.out.c0
  clear hb
  go_wp2_with fail
  with_reducible refine (toTree_any At ct 0 W.heap.size t _ HIt.out ht).mono ?_
  rintro e w2 ⟨Btw, rfl, hr, hb⟩
  have Z1 : Hid (w1.heap.size ≤ w2.heap.size) := Lib.hid hb.size
  replace HIt := Lib.hid (HIt.out.step hb)
  replace HXt := Lib.hid (HXt.out.step hb)
  replace HB := Lib.hid (below_trans HB.out hb)
  replace ht0 := HXt.out.c0
  have RBtw := Lib.hid hr
  clear hr
  clear hb
  go_wp2_with fail
  with_reducible refine (CS.out _ Btw _ _ _ RBtw.out.ins).mono ?_
  rintro e w3 ⟨rfl, hb⟩
  have Z2 : Hid (w2.heap.size ≤ w3.heap.size) := Lib.hid hb.size
  replace HIt := Lib.hid (HIt.out.step hb)
  replace HXt := Lib.hid (HXt.out.step hb)
  replace HB := Lib.hid (below_trans HB.out hb)
  replace RBtw := Lib.hid (RBtw.out.step hb)
  replace ht0 := HXt.out.c0
  clear hb
  clear RBtw
  go_wp2_with fail
  with_reducible refine (toTree_any At ct 0 W.heap.size t _ HIt.out ht).mono ?_
  rintro e w4 ⟨Btx, rfl, hr, hb⟩
  have Z3 : Hid (w3.heap.size ≤ w4.heap.size) := Lib.hid hb.size
  replace HIt := Lib.hid (HIt.out.step hb)
  replace HXt := Lib.hid (HXt.out.step hb)
  replace HB := Lib.hid (below_trans HB.out hb)
  replace ht0 := HXt.out.c0
  have RBtx := Lib.hid hr
  clear hr
  clear hb
  have hb : Below w4.heap.size w4 (w4.alloc (.cells #[.slice Btx t.length t.length] 33)) := (Below.refl _ _).alloc (Nat.le_refl _) _
  have ght0 := (HXt.out.step hb).c0
  go_wp2_with fail
  clear ght0 ht0
  have HXBtx := Lib.hid (One.new w4 (.slice Btx t.length t.length) 33 w4.heap.size rfl)
  have Z4 : Hid (w4.heap.size < (w4.alloc (.cells #[.slice Btx t.length t.length] 33)).heap.size) := Lib.hid (by simp)
  replace HIt := Lib.hid (HIt.out.step hb)
  replace HXt := Lib.hid (HXt.out.step hb)
  replace HB := Lib.hid (below_trans HB.out hb)
  replace RBtx := Lib.hid (RBtx.out.step hb)
  clear hb
  generalize w4.alloc (.cells #[.slice Btx t.length t.length] 33) = w5 at HIt HXt HB RBtx HXBtx Z4 ⊢
  have ht0 := HXt.out.c0
  have hxt0 := HXBtx.out.c0
  go_wp2_with fail
  with_reducible refine (CI.out _ Btx _ _ _ RBtx.out.ins).mono ?_
  rintro e w6 ⟨rfl, hb⟩
  have Z5 : Hid (w5.heap.size ≤ w6.heap.size) := Lib.hid hb.size
  replace HIt := Lib.hid (HIt.out.step hb)
  replace HXt := Lib.hid (HXt.out.step hb)
  replace HB := Lib.hid (below_trans HB.out hb)
  replace RBtx := Lib.hid (RBtx.out.step hb)
  replace HXBtx := Lib.hid (HXBtx.out.step hb)
  replace ht0 := HXt.out.c0
  replace hxt0 := HXBtx.out.c0
  clear hb
  go_wp2_with fail
  clear ht0 hxt0
  go_region_held3 (fun w' => w'.cell? ⟨W.heap.size, 0, none⟩ = some (.slice At t.length ct) ∧ w'.cell? ⟨w4.heap.size, 0, none⟩ = some (.slice Btx t.length t.length))
    (first
     | exact ⟨(HXt.out.step (Below.refl _ w6).drew).c0, (HXBtx.out.step (Below.refl _ w6).drew).c0⟩
     | exact ⟨HXt_1.out.c0, HXBtx_1.out.c0⟩
     | exact ⟨HXt_2.out.c0, HXBtx_2.out.c0⟩)
    (first
     | (go_at_call 13; (with_reducible refine (eqTree_same Btx BY t.length t.length _ _ _ _ t _ RX_1.out.ins HY1.out.ins ht).mono ?_); rintro e v2 ⟨rfl, hb⟩; have HZ2 := Lib.hid (below_trans HZ1.out hb); have HIt_2 := Lib.hid (HIt.out.step HZ2.out); have HXt_2 := Lib.hid (HXt.out.step HZ2.out); have HB_2 := Lib.hid (below_trans HB.out HZ2.out); have RBtx_2 := Lib.hid (RBtx.out.step HZ2.out); have HXBtx_2 := Lib.hid (HXBtx.out.step HZ2.out); clear hb)
     | (go_at_call 10; (with_reducible refine (toTree_any At ct 0 W.heap.size t _ (HIt.out.step (Below.refl _ w6).drew) ht).mono ?_); rintro e v1 ⟨BY, rfl, hr, hb⟩; have HZ1 := Lib.hid (below_trans (Below.refl _ w6).drew hb); have HY1 := Lib.hid hr; have HIt_1 := Lib.hid (HIt.out.step HZ1.out); have HXt_1 := Lib.hid (HXt.out.step HZ1.out); have HB_1 := Lib.hid (below_trans HB.out HZ1.out); have RX_1 := Lib.hid (RBtx.out.step HZ1.out); have HXBtx_1 := Lib.hid (HXBtx.out.step HZ1.out); clear hb hr))
  all_goals
    clear HIt HXt HB RBtx HXBtx HIt_1 HXt_1 HB_1 RX_1 HXBtx_1 HY1 HZ1
    have HIt := HIt_2
    have HXt := HXt_2
    have HB := HB_2
    have RBtx := RBtx_2
    have HXBtx := HXBtx_2
    clear HIt_2 HXt_2 HB_2 RBtx_2 HXBtx_2
    obtain ⟨w7, hwv⟩ : ∃ x, x = v2 := ⟨_, rfl⟩
    have Z6 : Hid (w6.heap.size ≤ v2.heap.size) := Lib.hid (HZ2.out.size)
    rw [← hwv] at Z6 HIt HXt HB RBtx HXBtx ⊢
    clear hwv HZ2
    have ht0 := HXt.out.c0
    have hxt0 := HXBtx.out.c0
    go_wp2
    go_ret
    exact ⟨rfl, HB.out⟩
end Go.Proofs.Ytdkffkgoalgjmac
