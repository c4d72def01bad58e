/- The law FnExactPlayTree: its walk over the two functions' contracts. -/
import Derived.Test.YtnomgnjfamideaaL9P
import Derived.Test.YtnomgnjfamideaaL9M
import Derived.Test.YtnomgnjfamideaaOpenT
import Derived.Deep.RegionHeld3
namespace Go.Proofs.Ytnomgnjfamideaa
open Go.RowKit
set_option linter.unusedVariables false

set_option maxRecDepth 100000 in
set_option maxHeartbeats 40000000 in
theorem fnExactPlayTree_walk (n : Int) (At : Option Addr) (ct : Nat) (t : List (Int × Int × Int)) (Al : Option Addr) (cl : Nat) (l : List Bool) (W : World) (wfn : (Lit.int .i64 n).wf = true) (hSt : Nds W 0 W.heap.size At t) (hct : t.length ≤ ct) (hcmt : ct ≤ maxLen) (hSl : Bools W 0 W.heap.size Al l) (hcl : l.length ≤ cl) (hcml : cl ≤ maxLen) (hsh : W.ShapedOpen Try.prog) :
    Calls Try.prog 8 #[.int .i64 n, .agg #[.slice At t.length ct], .slice Al l.length cl] W fun e w' => e = .returned (.bool true) ∧ Below W.heap.size W w' := by
  clear hsh
  unfold maxLen at hcmt
  unfold maxLen at hcml
  by_cases hl : l.length ≤ 1048576
  case neg =>
    have HB := Lib.hid ((Below.refl W.heap.size W).alloc (Nat.le_refl _) (.cells #[.slice At t.length ct] 24))
    clear hSt hct hSl hcl
    have hlI : (1048576 : Int) < (l.length : Int) := by omega
    go_enter Try.func8, Try.ntmps8
    go_wp2
    go_ret
    exact ⟨rfl, HB.out⟩
  have hkeepl := hl
  by_cases ht : t.length ≤ 1048576
  case neg =>
    have HB := Lib.hid ((Below.refl W.heap.size W).alloc (Nat.le_refl _) (.cells #[.slice At t.length ct] 24))
    have C0 := Lib.hid (fun w => szTree_any At ct t.length 1048576 w (by unfold maxLen; omega) (by omega))
    rw [show (((1048576 : Nat) : Int)) = 1048576 from rfl] at C0
    rw [szI_no (by omega)] at C0
    clear hSt hct hSl hcl
    have hlIl : ¬ (1048576 : Int) < (l.length : Int) := by omega
    have hlJl : (l.length : Int) ≤ (1048576 : Int) := by omega
    go_enter Try.func8, Try.ntmps8
    go_wp2_with fail
    refine (C0.out _).mono ?_
    rintro e w1 ⟨rfl, hb⟩
    replace HB := Lib.hid (below_trans HB.out hb)
    clear hb C0
    go_wp2
    go_ret
    exact ⟨rfl, HB.out⟩
  have hkeept := ht
  obtain ⟨r0, r1, r2, hI, hC⟩ := playTree_both n t ht l hl
  have CI := Lib.hid hI
  have CS := Lib.hid hC
  clear hI hC
  have HB := Lib.hid ((Below.refl W.heap.size W).alloc (Nat.le_refl _) (.cells #[.slice At t.length ct] 24))
  have HXt := Lib.hid (One.new W (.slice At t.length ct) 24 W.heap.size rfl)
  have HIt := Lib.hid ((NIns.mk hSt (Nat.le_refl _)).step HB.out)
  have HIl := Lib.hid ((BIns.mk hSl (Nat.le_refl _)).step HB.out)
  have ZB : Hid (W.heap.size < (W.alloc (.cells #[.slice At t.length ct] 24)).heap.size) := Lib.hid (by simp)
  have C0 := Lib.hid (fun w => szTree_any At ct t.length 1048576 w (by unfold maxLen; omega) (by omega))
  rw [show (((1048576 : Nat) : Int)) = 1048576 from rfl, szI_yes ht] at C0
  have hsz0 : (0 : Int) ≤ ((1048576 - t.length : Nat) : Int) := by omega
  have hlIl : ¬ (1048576 : Int) < (l.length : Int) := by omega
  have hlJl : (l.length : Int) ≤ (1048576 : Int) := by omega
  clear hSt hct hSl hcl
  go_enter Try.func8, Try.ntmps8
  go_wp2_with fail
  generalize W.alloc (.cells #[.slice At t.length ct] 24) = w0 at HIt HXt HIl HB ZB ⊢
  have ht0 := HXt.out.c0
  generalize ((1048576 - t.length : Nat) : Int) = left at C0 hsz0
  go_wp2_with fail
  with_reducible refine (C0.out _).mono ?_
  rintro e w1 ⟨rfl, hb⟩
  have Z0 : Hid (w0.heap.size ≤ w1.heap.size) := Lib.hid hb.size
  replace HIt := Lib.hid (HIt.out.step hb)
  replace HXt := Lib.hid (HXt.out.step hb)
  replace HIl := Lib.hid (HIl.out.step hb)
  replace HB := Lib.hid (below_trans HB.out hb)
  replace ht0 := HXt.out.c0
  clear hb
  go_wp2_with fail
  with_reducible refine (toTree_any At ct 0 W.heap.size t _ HIt.out ht).mono ?_
  rintro e w2 ⟨Btw, rfl, hr, hb⟩
  have Z1 : Hid (w1.heap.size ≤ w2.heap.size) := Lib.hid hb.size
  replace HIt := Lib.hid (HIt.out.step hb)
  replace HXt := Lib.hid (HXt.out.step hb)
  replace HIl := Lib.hid (HIl.out.step hb)
  replace HB := Lib.hid (below_trans HB.out hb)
  replace ht0 := HXt.out.c0
  have RBtw := Lib.hid hr
  clear hr
  clear hb
  go_wp2_with fail
  with_reducible refine (toBools_any Al cl 0 W.heap.size l _ HIl.out hl).mono ?_
  rintro e w3 ⟨Blw, rfl, hr, hb⟩
  have Z2 : Hid (w2.heap.size ≤ w3.heap.size) := Lib.hid hb.size
  replace HIt := Lib.hid (HIt.out.step hb)
  replace HXt := Lib.hid (HXt.out.step hb)
  replace HIl := Lib.hid (HIl.out.step hb)
  replace HB := Lib.hid (below_trans HB.out hb)
  replace RBtw := Lib.hid (RBtw.out.step hb)
  replace ht0 := HXt.out.c0
  have RBlw := Lib.hid hr
  clear hr
  clear hb
  go_wp2_with fail
  with_reducible refine (CS.out _ Btw _ _ _ Blw _ _ _ RBtw.out.ins RBlw.out.ins).mono ?_
  rintro e w4 ⟨rfl, hb⟩
  have Z3 : Hid (w3.heap.size ≤ w4.heap.size) := Lib.hid hb.size
  replace HIt := Lib.hid (HIt.out.step hb)
  replace HXt := Lib.hid (HXt.out.step hb)
  replace HIl := Lib.hid (HIl.out.step hb)
  replace HB := Lib.hid (below_trans HB.out hb)
  replace RBtw := Lib.hid (RBtw.out.step hb)
  replace RBlw := Lib.hid (RBlw.out.step hb)
  replace ht0 := HXt.out.c0
  clear hb
  clear RBtw
  clear RBlw
  go_wp2_with fail
  with_reducible refine (toTree_any At ct 0 W.heap.size t _ HIt.out ht).mono ?_
  rintro e w5 ⟨Btx, rfl, hr, hb⟩
  have Z4 : Hid (w4.heap.size ≤ w5.heap.size) := Lib.hid hb.size
  replace HIt := Lib.hid (HIt.out.step hb)
  replace HXt := Lib.hid (HXt.out.step hb)
  replace HIl := Lib.hid (HIl.out.step hb)
  replace HB := Lib.hid (below_trans HB.out hb)
  replace ht0 := HXt.out.c0
  have RBtx := Lib.hid hr
  clear hr
  clear hb
  have hb : Below w5.heap.size w5 (w5.alloc (.cells #[.slice Btx t.length t.length] 29)) := (Below.refl _ _).alloc (Nat.le_refl _) _
  have ght0 := (HXt.out.step hb).c0
  go_wp2_with fail
  clear ght0 ht0
  have HXBtx := Lib.hid (One.new w5 (.slice Btx t.length t.length) 29 w5.heap.size rfl)
  have Z5 : Hid (w5.heap.size < (w5.alloc (.cells #[.slice Btx t.length t.length] 29)).heap.size) := Lib.hid (by simp)
  replace HIt := Lib.hid (HIt.out.step hb)
  replace HXt := Lib.hid (HXt.out.step hb)
  replace HIl := Lib.hid (HIl.out.step hb)
  replace HB := Lib.hid (below_trans HB.out hb)
  replace RBtx := Lib.hid (RBtx.out.step hb)
  clear hb
  generalize w5.alloc (.cells #[.slice Btx t.length t.length] 29) = w6 at HIt HXt HIl HB RBtx HXBtx Z5 ⊢
  have ht0 := HXt.out.c0
  have hxt0 := HXBtx.out.c0
  go_wp2_with fail
  with_reducible refine (toBools_any Al cl 0 W.heap.size l _ HIl.out hl).mono ?_
  rintro e w7 ⟨Blx, rfl, hr, hb⟩
  have Z6 : Hid (w6.heap.size ≤ w7.heap.size) := Lib.hid hb.size
  replace HIt := Lib.hid (HIt.out.step hb)
  replace HXt := Lib.hid (HXt.out.step hb)
  replace HIl := Lib.hid (HIl.out.step hb)
  replace HB := Lib.hid (below_trans HB.out hb)
  replace RBtx := Lib.hid (RBtx.out.step hb)
  replace HXBtx := Lib.hid (HXBtx.out.step hb)
  replace ht0 := HXt.out.c0
  replace hxt0 := HXBtx.out.c0
  have RBlx := Lib.hid hr
  clear hr
  clear hb
  go_wp2_with fail
  with_reducible refine (CI.out _ Btx _ _ _ Blx _ _ _ RBtx.out.ins RBlx.out.ins).mono ?_
  rintro e w8 ⟨rfl, hb⟩
  have Z7 : Hid (w7.heap.size ≤ w8.heap.size) := Lib.hid hb.size
  replace HIt := Lib.hid (HIt.out.step hb)
  replace HXt := Lib.hid (HXt.out.step hb)
  replace HIl := Lib.hid (HIl.out.step hb)
  replace HB := Lib.hid (below_trans HB.out hb)
  replace RBtx := Lib.hid (RBtx.out.step hb)
  replace HXBtx := Lib.hid (HXBtx.out.step hb)
  replace RBlx := Lib.hid (RBlx.out.step hb)
  replace ht0 := HXt.out.c0
  replace hxt0 := HXBtx.out.c0
  clear hb
  go_wp2_with fail
  clear ht0 hxt0
  go_region_held3 (fun w' => w'.cell? ⟨W.heap.size, 0, none⟩ = some (.slice At t.length ct) ∧ w'.cell? ⟨w5.heap.size, 0, none⟩ = some (.slice Btx t.length t.length))
    (first
     | exact ⟨(HXt.out.step (Below.refl _ w8).drew).c0, (HXBtx.out.step (Below.refl _ w8).drew).c0⟩
     | exact ⟨HXt_1.out.c0, HXBtx_1.out.c0⟩
     | exact ⟨HXt_2.out.c0, HXBtx_2.out.c0⟩)
    (first
     | (go_at_call 19; (with_reducible refine (eqTree_same Btx BY t.length t.length _ _ _ _ t _ RX_1.out.ins HY1.out.ins ht).mono ?_); rintro e v2 ⟨rfl, hb⟩; have HZ2 := Lib.hid (below_trans HZ1.out hb); have HIt_2 := Lib.hid (HIt.out.step HZ2.out); have HXt_2 := Lib.hid (HXt.out.step HZ2.out); have HIl_2 := Lib.hid (HIl.out.step HZ2.out); have HB_2 := Lib.hid (below_trans HB.out HZ2.out); have RBtx_2 := Lib.hid (RBtx.out.step HZ2.out); have HXBtx_2 := Lib.hid (HXBtx.out.step HZ2.out); have RBlx_2 := Lib.hid (RBlx.out.step HZ2.out); clear hb)
     | (go_at_call 17; (with_reducible refine (toTree_any At ct 0 W.heap.size t _ (HIt.out.step (Below.refl _ w8).drew) ht).mono ?_); rintro e v1 ⟨BY, rfl, hr, hb⟩; have HZ1 := Lib.hid (below_trans (Below.refl _ w8).drew hb); have HY1 := Lib.hid hr; have HIt_1 := Lib.hid (HIt.out.step HZ1.out); have HXt_1 := Lib.hid (HXt.out.step HZ1.out); have HIl_1 := Lib.hid (HIl.out.step HZ1.out); have HB_1 := Lib.hid (below_trans HB.out HZ1.out); have RX_1 := Lib.hid (RBtx.out.step HZ1.out); have HXBtx_1 := Lib.hid (HXBtx.out.step HZ1.out); have RBlx_1 := Lib.hid (RBlx.out.step HZ1.out); clear hb hr))
  all_goals
    clear HIt HXt HIl HB RBtx HXBtx RBlx HIt_1 HXt_1 HIl_1 HB_1 RX_1 HXBtx_1 RBlx_1 HY1 HZ1
    have HIt := HIt_2
    have HXt := HXt_2
    have HIl := HIl_2
    have HB := HB_2
    have RBtx := RBtx_2
    have HXBtx := HXBtx_2
    have RBlx := RBlx_2
    clear HIt_2 HXt_2 HIl_2 HB_2 RBtx_2 HXBtx_2 RBlx_2
    obtain ⟨w9, hwv⟩ : ∃ x, x = v2 := ⟨_, rfl⟩
    have Z8 : Hid (w8.heap.size ≤ v2.heap.size) := Lib.hid (HZ2.out.size)
    rw [← hwv] at Z8 HIt HXt HIl HB RBtx HXBtx RBlx ⊢
    clear hwv HZ2
    have ht0 := HXt.out.c0
    have hxt0 := HXBtx.out.c0
    go_wp2_with fail
    with_reducible refine (toBools_any Al cl 0 W.heap.size l _ HIl.out hl).mono ?_
    rintro e w10 ⟨Bly, rfl, hr, hb⟩
    have Z9 : Hid (w9.heap.size ≤ w10.heap.size) := Lib.hid hb.size
    replace HIt := Lib.hid (HIt.out.step hb)
    replace HXt := Lib.hid (HXt.out.step hb)
    replace HIl := Lib.hid (HIl.out.step hb)
    replace HB := Lib.hid (below_trans HB.out hb)
    replace RBtx := Lib.hid (RBtx.out.step hb)
    replace HXBtx := Lib.hid (HXBtx.out.step hb)
    replace RBlx := Lib.hid (RBlx.out.step hb)
    replace ht0 := HXt.out.c0
    replace hxt0 := HXBtx.out.c0
    have RBly := Lib.hid hr
    clear hr
    clear hb
    go_wp2_with fail
    with_reducible refine (eqBools_same Blx Bly l.length l.length _ _ _ _ l _ RBlx.out RBly.out hl).mono ?_
    rintro e w11 ⟨rfl, hb⟩
    have Z10 : Hid (w10.heap.size ≤ w11.heap.size) := Lib.hid hb.size
    replace HIt := Lib.hid (HIt.out.step hb)
    replace HXt := Lib.hid (HXt.out.step hb)
    replace HIl := Lib.hid (HIl.out.step hb)
    replace HB := Lib.hid (below_trans HB.out hb)
    replace RBtx := Lib.hid (RBtx.out.step hb)
    replace HXBtx := Lib.hid (HXBtx.out.step hb)
    replace RBlx := Lib.hid (RBlx.out.step hb)
    replace RBly := Lib.hid (RBly.out.step hb)
    replace ht0 := HXt.out.c0
    replace hxt0 := HXBtx.out.c0
    clear hb
    clear RBly
    go_wp2
    go_ret
    exact ⟨rfl, HB.out⟩
end Go.Proofs.Ytnomgnjfamideaa
