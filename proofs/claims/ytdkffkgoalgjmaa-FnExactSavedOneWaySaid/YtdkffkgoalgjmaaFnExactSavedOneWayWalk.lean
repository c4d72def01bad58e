/- The law FnExactSavedOneWay: its walk over the two functions' contracts. -/
import Derived.Test.YtdkffkgoalgjmaaL10F
import Derived.Test.YtdkffkgoalgjmaaOpen
namespace Go.Proofs.Ytdkffkgoalgjmaa
open Go.RowKit
set_option linter.unusedVariables false

set_option maxHeartbeats 4000000 in
theorem fnExactSavedOneWay_walk (Al : Option Addr) (cl : Nat) (l : List Int) (W : World) (hSl : Ints W 0 W.heap.size Al l) (hcl : l.length ≤ cl) (hcml : cl ≤ maxLen) (hsh : W.ShapedOpen Try.prog) :
    Calls Try.prog 10 #[.slice Al l.length cl] W fun e w' => e = .returned (.bool true) ∧ Below W.heap.size W w' := by
  clear hsh
  unfold maxLen at hcml
  by_cases hl : l.length ≤ 1048576
  · have hkeepl := hl
    obtain ⟨r0, r1, hI, hC⟩ := savedOneWay_both l hl
    have CI := Lib.hid hI
    have CS := Lib.hid hC
    clear hI hC
    have HIl := Lib.hid (Ins.mk hSl (Nat.le_refl _))
    have HB := Lib.hid (Below.refl W.heap.size W)
    clear hSl hcl
    have ZB := Lib.hid HB.out.size
    go_enter Try.func10, Try.ntmps10
    go_wp2_with fail
    go_wp2_with fail
    refine (toInts_any Al cl 0 W.heap.size l _ HIl.out hl).mono ?_
    rintro e w1 ⟨Blw, rfl, hr, hb⟩
    have Z0 := Lib.hid hb.size
    replace HIl := Lib.hid (HIl.out.step hb)
    replace HB := Lib.hid (below_trans HB.out hb)
    clear hb
    have RBlw := Lib.hid hr
    clear hr
    go_wp2_with fail
    refine (CS.out _ Blw _ _ _ RBlw.out.ins).mono ?_
    rintro e w2 ⟨rfl, hb⟩
    have Z1 := Lib.hid hb.size
    replace HIl := Lib.hid (HIl.out.step hb)
    replace RBlw := Lib.hid (RBlw.out.step hb)
    replace HB := Lib.hid (below_trans HB.out hb)
    clear hb
    clear RBlw
    go_wp2_with fail
    refine (toInts_any Al cl 0 W.heap.size l _ HIl.out hl).mono ?_
    rintro e w3 ⟨Blx, rfl, hr, hb⟩
    have Z2 := Lib.hid hb.size
    replace HIl := Lib.hid (HIl.out.step hb)
    replace HB := Lib.hid (below_trans HB.out hb)
    clear hb
    have RBlx := Lib.hid hr
    clear hr
    go_wp2_with fail
    refine (CI.out _ Blx _ _ _ RBlx.out.ins).mono ?_
    rintro e w4 ⟨rfl, hb⟩
    have Z3 := Lib.hid hb.size
    replace HIl := Lib.hid (HIl.out.step hb)
    replace RBlx := Lib.hid (RBlx.out.step hb)
    replace HB := Lib.hid (below_trans HB.out hb)
    clear hb
    go_wp2_with fail
    refine (toInts_any Al cl 0 W.heap.size l _ HIl.out hl).mono ?_
    rintro e w5 ⟨Bly, rfl, hr, hb⟩
    have Z4 := Lib.hid hb.size
    replace HIl := Lib.hid (HIl.out.step hb)
    replace RBlx := Lib.hid (RBlx.out.step hb)
    replace HB := Lib.hid (below_trans HB.out hb)
    clear hb
    have RBly := Lib.hid hr
    clear hr
    go_wp2_with fail
    refine (eqInts_same Blx Bly l.length l.length _ _ _ _ l _ RBlx.out.ins RBly.out.ins hl).mono ?_
    rintro e w6 ⟨rfl, hb⟩
    have Z5 := Lib.hid hb.size
    replace HIl := Lib.hid (HIl.out.step hb)
    replace RBlx := Lib.hid (RBlx.out.step hb)
    replace RBly := Lib.hid (RBly.out.step hb)
    replace HB := Lib.hid (below_trans HB.out hb)
    clear hb
    clear RBly
    go_wp2
    go_ret
    exact ⟨rfl, HB.out⟩
  · clear hSl hcl
    go_enter Try.func10, Try.ntmps10
    go_wp2
    go_ret
    exact ⟨rfl, Below.refl _ _⟩
end Go.Proofs.Ytdkffkgoalgjmaa
