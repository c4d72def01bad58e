/- The law FnExactSameOneWay: its walk over the two functions' contracts. -/
import Derived.Test.YtdkffkgoalgjmaaL10K
namespace Go.Proofs.Ytdkffkgoalgjmaa
open Go.RowKit
set_option linter.unusedVariables false

set_option maxHeartbeats 4000000 in
theorem fnExactSameOneWay_walk (n : Int) (m : Int) (Al : Option Addr) (cl : Nat) (l : List (Int × Bool)) (W : World) (wfn : (Lit.int .i64 n).wf = true) (wfm : (Lit.int .i64 m).wf = true) (hSl : Asks W 0 W.heap.size Al l) (hcl : l.length ≤ cl) (hcml : cl ≤ maxLen) (hsh : W.ShapedOpen Try.prog) :
    Calls Try.prog 13 #[.int .i64 n, .int .i64 m, .slice Al l.length cl] W fun e w' => e = .returned (.bool true) ∧ Below W.heap.size W w' := by
  clear hsh
  unfold maxLen at hcml
  have C0 := Lib.hid (fun w => szAskedS_any Al cl l.length 1048576 w (by unfold maxLen; omega) (by omega))
  rw [show (((1048576 : Nat) : Int)) = 1048576 from rfl] at C0
  by_cases hl : l.length ≤ 1048576
  · rw [szI_yes hl] at C0
    have hz : (0 : Int) ≤ ((1048576 - l.length : Nat) : Int) := by omega
    generalize ((1048576 - l.length : Nat) : Int) = z at C0 hz
    obtain ⟨r0, r1, hI, hC⟩ := sameOneWay_both n m l hl
    have CI := Lib.hid hI
    have CS := Lib.hid hC
    clear hI hC
    have HIl := Lib.hid (AIns.mk hSl (Nat.le_refl _))
    have HB := Lib.hid (Below.refl W.heap.size W)
    clear hSl hcl
    have ZB := Lib.hid HB.out.size
    go_enter Try.func13, Try.ntmps13
    go_wp2_with fail
    go_wp2_with fail
    refine (C0.out _).mono ?_
    rintro e w1 ⟨rfl, hb⟩
    have Z0 := Lib.hid hb.size
    replace HIl := Lib.hid (HIl.out.step hb)
    replace HB := Lib.hid (below_trans HB.out hb)
    clear hb
    clear C0
    go_wp2_with fail
    refine (toAskedS_any Al cl 0 W.heap.size l _ HIl.out hl).mono ?_
    rintro e w2 ⟨Blw, rfl, hr, hb⟩
    have Z1 := Lib.hid hb.size
    replace HIl := Lib.hid (HIl.out.step hb)
    replace HB := Lib.hid (below_trans HB.out hb)
    clear hb
    have RBlw := Lib.hid hr
    clear hr
    go_wp2_with fail
    refine (CS.out _ Blw _ _ _ RBlw.out.ins).mono ?_
    rintro e w3 ⟨rfl, hb⟩
    have Z2 := Lib.hid hb.size
    replace HIl := Lib.hid (HIl.out.step hb)
    replace RBlw := Lib.hid (RBlw.out.step hb)
    replace HB := Lib.hid (below_trans HB.out hb)
    clear hb
    clear RBlw
    go_wp2_with fail
    refine (toAskedS_any Al cl 0 W.heap.size l _ HIl.out hl).mono ?_
    rintro e w4 ⟨Blx, rfl, hr, hb⟩
    have Z3 := Lib.hid hb.size
    replace HIl := Lib.hid (HIl.out.step hb)
    replace HB := Lib.hid (below_trans HB.out hb)
    clear hb
    have RBlx := Lib.hid hr
    clear hr
    go_wp2_with fail
    refine (CI.out _ Blx _ _ _ RBlx.out.ins).mono ?_
    rintro e w5 ⟨rfl, hb⟩
    have Z4 := Lib.hid hb.size
    replace HIl := Lib.hid (HIl.out.step hb)
    replace RBlx := Lib.hid (RBlx.out.step hb)
    replace HB := Lib.hid (below_trans HB.out hb)
    clear hb
    go_wp2_with fail
    refine (toAskedS_any Al cl 0 W.heap.size l _ HIl.out hl).mono ?_
    rintro e w6 ⟨Bly, rfl, hr, hb⟩
    have Z5 := Lib.hid hb.size
    replace HIl := Lib.hid (HIl.out.step hb)
    replace RBlx := Lib.hid (RBlx.out.step hb)
    replace HB := Lib.hid (below_trans HB.out hb)
    clear hb
    have RBly := Lib.hid hr
    clear hr
    go_wp2_with fail
    refine (eqAskedS_same Blx Bly l.length l.length _ _ _ _ l _ RBlx.out.ins RBly.out.ins hl).mono ?_
    rintro e w7 ⟨rfl, hb⟩
    have Z6 := Lib.hid hb.size
    replace HIl := Lib.hid (HIl.out.step hb)
    replace RBlx := Lib.hid (RBlx.out.step hb)
    replace RBly := Lib.hid (RBly.out.step hb)
    replace HB := Lib.hid (below_trans HB.out hb)
    clear hb
    clear RBly
    go_wp2
    go_ret
    exact ⟨rfl, HB.out⟩
  · rw [szI_no (by omega)] at C0
    go_enter Try.func13, Try.ntmps13
    go_wp2_with fail
    refine (C0.out _).mono ?_
    rintro e w1 ⟨rfl, hb⟩
    have hb0 : Below W.heap.size W W := (Below.refl _ _)
    have HB := Lib.hid (below_trans hb0 hb)
    clear hb0
    clear hb C0
    go_wp2
    go_ret
    exact ⟨rfl, HB.out⟩
end Go.Proofs.Ytdkffkgoalgjmaa
