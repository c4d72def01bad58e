/- The law FnExactFewestFalse: its walk over the two functions' contracts. -/
import Derived.Test.YtkdhmhbabbeokaaFewB
namespace Go.Proofs.Ytkdhmhbabbeokaa
open Go.RowKit
set_option linter.unusedVariables false

set_option maxHeartbeats 4000000 in
theorem fnExactFewestFalse_walk (n : Int) (Al : Option Addr) (cl : Nat) (l : List (Int × Bool)) (W : World) (wfn : (Lit.int .i64 n).wf = true) (hSl : Asks W 0 W.heap.size Al l) (hcl : l.length ≤ cl) (hcml : cl ≤ maxLen) (hsh : W.ShapedOpen Try.prog) :
    Calls Try.prog 12 #[.int .i64 n, .slice Al l.length cl] W fun e w' => e = .returned (.bool true) ∧ Below W.heap.size W w' := by
  clear hsh
  unfold maxLen at hcml
  have C0 := Lib.hid (fun w => szAskedS_any Al cl l.length 1048576 w (by unfold maxLen; omega) (by omega))
  rw [show (((1048576 : Nat) : Int)) = 1048576 from rfl] at C0
  by_cases hl : l.length ≤ 1048576
  · rw [szI_yes hl] at C0
    have hz : (0 : Int) ≤ ((1048576 - l.length : Nat) : Int) := by omega
    generalize ((1048576 - l.length : Nat) : Int) = z at C0 hz
    obtain ⟨r0, r1, r2, l1, hI, hC⟩ := fewestFalse_both n l hl
    have CI := Lib.hid hI
    have CS := Lib.hid hC
    clear hI hC
    have HIl := Lib.hid (AIns.mk hSl (Nat.le_refl _))
    have HB := Lib.hid (Below.refl W.heap.size W)
    clear hSl hcl
    have ZB := Lib.hid HB.out.size
    go_enter Try.func12, Try.ntmps12
    go_wp2_with fail
    go_wp2_with fail
    refine (C0.out _).mono ?_
    rintro e w1 ⟨rfl, hb⟩
    have Z0 := Lib.hid hb.size
    replace HIl := Lib.hid (HIl.out.step hb)
    replace HB := Lib.hid (below_trans HB.out hb)
    clear hb
    clear C0
    go_wp2_with fail
    refine (toAskedS_any Al cl 0 W.heap.size l _ HIl.out hl).mono ?_
    rintro e w2 ⟨Blw, rfl, hr, hb⟩
    have Z1 := Lib.hid hb.size
    replace HIl := Lib.hid (HIl.out.step hb)
    replace HB := Lib.hid (below_trans HB.out hb)
    clear hb
    have RBlw := Lib.hid hr
    clear hr
    go_wp2_with fail
    refine (CS.out _ Blw _ _ _ RBlw.out.ins).mono ?_
    rintro e w3 ⟨Bw1, cw1, rfl, hr0, hb⟩
    have Z2 := Lib.hid hb.size
    replace HIl := Lib.hid (HIl.out.step hb)
    replace RBlw := Lib.hid (RBlw.out.step hb)
    replace HB := Lib.hid (below_trans HB.out hb)
    clear hb
    have Rw1 := Lib.hid hr0
    clear hr0
    clear RBlw
    go_wp2_with fail
    refine (toAskedS_any Al cl 0 W.heap.size l _ HIl.out hl).mono ?_
    rintro e w4 ⟨Blx, rfl, hr, hb⟩
    have Z3 := Lib.hid hb.size
    replace HIl := Lib.hid (HIl.out.step hb)
    replace Rw1 := Lib.hid (Rw1.out.step hb)
    replace HB := Lib.hid (below_trans HB.out hb)
    clear hb
    have RBlx := Lib.hid hr
    clear hr
    go_wp2_with fail
    refine (CI.out _ Blx _ _ _ RBlx.out.ins).mono ?_
    rintro e w5 ⟨Bg1, cg1, rfl, hr0, hb⟩
    have Z4 := Lib.hid hb.size
    replace HIl := Lib.hid (HIl.out.step hb)
    replace Rw1 := Lib.hid (Rw1.out.step hb)
    replace RBlx := Lib.hid (RBlx.out.step hb)
    replace HB := Lib.hid (below_trans HB.out hb)
    clear hb
    have Rg1 := Lib.hid hr0
    clear hr0
    go_wp2_with fail
    refine (eqInts_same Bg1 Bw1 cg1 cw1 _ _ _ _ r1 _ Rg1.out.ins Rw1.out.ins l1).mono ?_
    rintro e w6 ⟨rfl, hb⟩
    have Z5 := Lib.hid hb.size
    replace HIl := Lib.hid (HIl.out.step hb)
    replace Rw1 := Lib.hid (Rw1.out.step hb)
    replace RBlx := Lib.hid (RBlx.out.step hb)
    replace Rg1 := Lib.hid (Rg1.out.step hb)
    replace HB := Lib.hid (below_trans HB.out hb)
    clear hb
    go_wp2_with fail
    refine (toAskedS_any Al cl 0 W.heap.size l _ HIl.out hl).mono ?_
    rintro e w7 ⟨Bly, rfl, hr, hb⟩
    have Z6 := Lib.hid hb.size
    replace HIl := Lib.hid (HIl.out.step hb)
    replace Rw1 := Lib.hid (Rw1.out.step hb)
    replace RBlx := Lib.hid (RBlx.out.step hb)
    replace Rg1 := Lib.hid (Rg1.out.step hb)
    replace HB := Lib.hid (below_trans HB.out hb)
    clear hb
    have RBly := Lib.hid hr
    clear hr
    go_wp2_with fail
    refine (eqAskedS_same Blx Bly l.length l.length _ _ _ _ l _ RBlx.out.ins RBly.out.ins hl).mono ?_
    rintro e w8 ⟨rfl, hb⟩
    have Z7 := Lib.hid hb.size
    replace HIl := Lib.hid (HIl.out.step hb)
    replace Rw1 := Lib.hid (Rw1.out.step hb)
    replace RBlx := Lib.hid (RBlx.out.step hb)
    replace Rg1 := Lib.hid (Rg1.out.step hb)
    replace RBly := Lib.hid (RBly.out.step hb)
    replace HB := Lib.hid (below_trans HB.out hb)
    clear hb
    clear RBly
    go_wp2_with fail
    refine (markAskedS_any Blx l.length _ _ l _ RBlx.out hl).mono ?_
    rintro e w9 ⟨rfl, hr, hw⟩
    clear hr
    have ZZ : W.heap.size ≤ W.heap.size ∧ W.heap.size ≤ w1.heap.size ∧ w1.heap.size ≤ w2.heap.size ∧ w2.heap.size ≤ w3.heap.size ∧ w3.heap.size ≤ w4.heap.size ∧ w4.heap.size ≤ w5.heap.size ∧ w5.heap.size ≤ w6.heap.size ∧ w6.heap.size ≤ w7.heap.size ∧ w7.heap.size ≤ w8.heap.size := ⟨ZB.out, Z0.out, Z1.out, Z2.out, Z3.out, Z4.out, Z5.out, Z6.out, Z7.out⟩
    replace HIl := Lib.hid (HIl.out.within hw (by omega))
    replace Rw1 := Lib.hid (Rw1.out.within hw (by omega))
    replace Rg1 := Lib.hid (Rg1.out.within hw (by omega))
    replace HB := Lib.hid (HB.out.trans (hw.below (by omega) HB.out.size))
    have Z8 := Lib.hid hw.size
    clear hw ZZ
    clear RBlx
    go_wp2_with fail
    refine (eqInts_same Bg1 Bw1 cg1 cw1 _ _ _ _ r1 _ Rg1.out.ins Rw1.out.ins l1).mono ?_
    rintro e w10 ⟨rfl, hb⟩
    have Z9 := Lib.hid hb.size
    replace HIl := Lib.hid (HIl.out.step hb)
    replace Rw1 := Lib.hid (Rw1.out.step hb)
    replace Rg1 := Lib.hid (Rg1.out.step hb)
    replace HB := Lib.hid (below_trans HB.out hb)
    clear hb
    go_wp2_with fail
    refine (markInts_any Bg1 cg1 _ _ r1 _ Rg1.out l1).mono ?_
    rintro e w11 ⟨rfl, hr, hw⟩
    have ZZ : W.heap.size ≤ W.heap.size ∧ W.heap.size ≤ w1.heap.size ∧ w1.heap.size ≤ w2.heap.size ∧ w2.heap.size ≤ w3.heap.size ∧ w3.heap.size ≤ w4.heap.size ∧ w4.heap.size ≤ w5.heap.size ∧ w5.heap.size ≤ w6.heap.size ∧ w6.heap.size ≤ w7.heap.size ∧ w7.heap.size ≤ w8.heap.size ∧ w8.heap.size ≤ w9.heap.size ∧ w9.heap.size ≤ w10.heap.size := ⟨ZB.out, Z0.out, Z1.out, Z2.out, Z3.out, Z4.out, Z5.out, Z6.out, Z7.out, Z8.out, Z9.out⟩
    replace HIl := Lib.hid (HIl.out.within hw (by omega))
    replace Rw1 := Lib.hid (Rw1.out.within hw (by omega))
    replace HB := Lib.hid (HB.out.trans (hw.below (by omega) HB.out.size))
    have Z10 := Lib.hid hw.size
    clear hw ZZ
    have M1 := Lib.hid hr
    clear hr
    clear Rg1
    go_wp2_with fail
    refine (heldInts_any Bg1 cg1 _ _ r1.length _ M1.out.ins l1).mono ?_
    rintro e w12 ⟨rfl, hb⟩
    have Z11 := Lib.hid hb.size
    replace HIl := Lib.hid (HIl.out.step hb)
    replace Rw1 := Lib.hid (Rw1.out.step hb)
    replace M1 := Lib.hid (M1.out.step hb)
    replace HB := Lib.hid (below_trans HB.out hb)
    clear hb
    go_wp2_with fail
    refine (toAskedS_any Al cl 0 W.heap.size l _ HIl.out hl).mono ?_
    rintro e w13 ⟨Blh, rfl, hr, hb⟩
    have Z12 := Lib.hid hb.size
    replace HIl := Lib.hid (HIl.out.step hb)
    replace Rw1 := Lib.hid (Rw1.out.step hb)
    replace M1 := Lib.hid (M1.out.step hb)
    replace HB := Lib.hid (below_trans HB.out hb)
    clear hb
    have RBlh := Lib.hid hr
    clear hr
    go_wp2_with fail
    refine (CI.out _ Blh _ _ _ RBlh.out.ins).mono ?_
    rintro e w14 ⟨Bh1, ch1, rfl, hr0, hb⟩
    have Z13 := Lib.hid hb.size
    replace HIl := Lib.hid (HIl.out.step hb)
    replace Rw1 := Lib.hid (Rw1.out.step hb)
    replace M1 := Lib.hid (M1.out.step hb)
    replace RBlh := Lib.hid (RBlh.out.step hb)
    replace HB := Lib.hid (below_trans HB.out hb)
    clear hb
    have Rh1 := Lib.hid hr0
    clear hr0
    clear RBlh
    go_wp2_with fail
    refine (eqInts_same Bh1 Bw1 ch1 cw1 _ _ _ _ r1 _ Rh1.out.ins Rw1.out.ins l1).mono ?_
    rintro e w15 ⟨rfl, hb⟩
    have Z14 := Lib.hid hb.size
    replace HIl := Lib.hid (HIl.out.step hb)
    replace Rw1 := Lib.hid (Rw1.out.step hb)
    replace M1 := Lib.hid (M1.out.step hb)
    replace Rh1 := Lib.hid (Rh1.out.step hb)
    replace HB := Lib.hid (below_trans HB.out hb)
    clear hb
    go_wp2_with fail
    refine (heldInts_any Bg1 cg1 _ _ r1.length _ M1.out.ins l1).mono ?_
    rintro e w16 ⟨rfl, hb⟩
    have Z15 := Lib.hid hb.size
    replace HIl := Lib.hid (HIl.out.step hb)
    replace Rw1 := Lib.hid (Rw1.out.step hb)
    replace M1 := Lib.hid (M1.out.step hb)
    replace Rh1 := Lib.hid (Rh1.out.step hb)
    replace HB := Lib.hid (below_trans HB.out hb)
    clear hb
    go_wp2
    go_ret
    exact ⟨rfl, HB.out⟩
  · rw [szI_no (by omega)] at C0
    go_enter Try.func12, Try.ntmps12
    go_wp2_with fail
    refine (C0.out _).mono ?_
    rintro e w1 ⟨rfl, hb⟩
    have hb0 : Below W.heap.size W W := (Below.refl _ _)
    have HB := Lib.hid (below_trans hb0 hb)
    clear hb0
    clear hb C0
    go_wp2
    go_ret
    exact ⟨rfl, HB.out⟩
end Go.Proofs.Ytkdhmhbabbeokaa
