/- The law FnExactSplitNeed: its walk over the two functions' contracts. -/
import Derived.Test.YtdkffkgoalgjmabSplB
import Derived.Test.YtdkffkgoalgjmabOpen
namespace Go.Proofs.Ytdkffkgoalgjmab
open Go.RowKit
set_option linter.unusedVariables false

set_option maxHeartbeats 40000000 in
theorem fnExactSplitNeed_walk (Al : Option Addr) (cl : Nat) (l : List Int) (At : Option Addr) (ct : Nat) (t : List Int) (W : World) (hSl : Ints W 0 W.heap.size Al l) (hcl : l.length ≤ cl) (hcml : cl ≤ maxLen) (hSt : Ints W 0 W.heap.size At t) (hct : t.length ≤ ct) (hcmt : ct ≤ maxLen) (hsh : W.ShapedOpen Try.prog) :
    Calls Try.prog 4 #[.slice Al l.length cl, .slice At t.length ct] W fun e w' => e = .returned (.bool true) ∧ Below W.heap.size W w' := by
  clear hsh
  unfold maxLen at hcml
  unfold maxLen at hcmt
  by_cases hl : l.length ≤ 1048576
  · have hkeepl := hl
    by_cases ht : t.length ≤ 1048576
    · have hkeept := ht
      obtain ⟨r0, r1, hI, hC⟩ := splitNeed_both l hl t ht
      have CI := Lib.hid hI
      have CS := Lib.hid hC
      clear hI hC
      have HIl := Lib.hid (Ins.mk hSl (Nat.le_refl _))
      have HIt := Lib.hid (Ins.mk hSt (Nat.le_refl _))
      have HB := Lib.hid (Below.refl W.heap.size W)
      clear hSl hcl
      clear hSt hct
      have ZB := Lib.hid HB.out.size
      go_enter Try.func4, Try.ntmps4
      go_wp2_with fail
      go_wp2_with fail
      refine (toInts_any Al cl 0 W.heap.size l _ HIl.out hl).mono ?_
      rintro e w1 ⟨Blw, rfl, hr, hb⟩
      have Z0 := Lib.hid hb.size
      replace HIl := Lib.hid (HIl.out.step hb)
      replace HIt := Lib.hid (HIt.out.step hb)
      replace HB := Lib.hid (below_trans HB.out hb)
      clear hb
      have RBlw := Lib.hid hr
      clear hr
      go_wp2_with fail
      refine (toInts_any At ct 0 W.heap.size t _ HIt.out ht).mono ?_
      rintro e w2 ⟨Btw, rfl, hr, hb⟩
      have Z1 := Lib.hid hb.size
      replace HIl := Lib.hid (HIl.out.step hb)
      replace HIt := Lib.hid (HIt.out.step hb)
      replace RBlw := Lib.hid (RBlw.out.step hb)
      replace HB := Lib.hid (below_trans HB.out hb)
      clear hb
      have RBtw := Lib.hid hr
      clear hr
      go_wp2_with fail
      refine (CS.out _ Blw _ _ _ Btw _ _ _ RBlw.out.ins RBtw.out.ins).mono ?_
      rintro e w3 ⟨rfl, hb⟩
      have Z2 := Lib.hid hb.size
      replace HIl := Lib.hid (HIl.out.step hb)
      replace HIt := Lib.hid (HIt.out.step hb)
      replace RBlw := Lib.hid (RBlw.out.step hb)
      replace RBtw := Lib.hid (RBtw.out.step hb)
      replace HB := Lib.hid (below_trans HB.out hb)
      clear hb
      clear RBlw
      clear RBtw
      go_wp2_with fail
      refine (toInts_any Al cl 0 W.heap.size l _ HIl.out hl).mono ?_
      rintro e w4 ⟨Blx, rfl, hr, hb⟩
      have Z3 := Lib.hid hb.size
      replace HIl := Lib.hid (HIl.out.step hb)
      replace HIt := Lib.hid (HIt.out.step hb)
      replace HB := Lib.hid (below_trans HB.out hb)
      clear hb
      have RBlx := Lib.hid hr
      clear hr
      go_wp2_with fail
      refine (toInts_any At ct 0 W.heap.size t _ HIt.out ht).mono ?_
      rintro e w5 ⟨Btx, rfl, hr, hb⟩
      have Z4 := Lib.hid hb.size
      replace HIl := Lib.hid (HIl.out.step hb)
      replace HIt := Lib.hid (HIt.out.step hb)
      replace RBlx := Lib.hid (RBlx.out.step hb)
      replace HB := Lib.hid (below_trans HB.out hb)
      clear hb
      have RBtx := Lib.hid hr
      clear hr
      go_wp2_with fail
      refine (CI.out _ Blx _ _ _ Btx _ _ _ RBlx.out.ins RBtx.out.ins).mono ?_
      rintro e w6 ⟨rfl, hb⟩
      have Z5 := Lib.hid hb.size
      replace HIl := Lib.hid (HIl.out.step hb)
      replace HIt := Lib.hid (HIt.out.step hb)
      replace RBlx := Lib.hid (RBlx.out.step hb)
      replace RBtx := Lib.hid (RBtx.out.step hb)
      replace HB := Lib.hid (below_trans HB.out hb)
      clear hb
      go_wp2_with fail
      refine (toInts_any Al cl 0 W.heap.size l _ HIl.out hl).mono ?_
      rintro e w7 ⟨Bly, rfl, hr, hb⟩
      have Z6 := Lib.hid hb.size
      replace HIl := Lib.hid (HIl.out.step hb)
      replace HIt := Lib.hid (HIt.out.step hb)
      replace RBlx := Lib.hid (RBlx.out.step hb)
      replace RBtx := Lib.hid (RBtx.out.step hb)
      replace HB := Lib.hid (below_trans HB.out hb)
      clear hb
      have RBly := Lib.hid hr
      clear hr
      go_wp2_with fail
      refine (eqInts_same Blx Bly l.length l.length _ _ _ _ l _ RBlx.out.ins RBly.out.ins hl).mono ?_
      rintro e w8 ⟨rfl, hb⟩
      have Z7 := Lib.hid hb.size
      replace HIl := Lib.hid (HIl.out.step hb)
      replace HIt := Lib.hid (HIt.out.step hb)
      replace RBlx := Lib.hid (RBlx.out.step hb)
      replace RBtx := Lib.hid (RBtx.out.step hb)
      replace RBly := Lib.hid (RBly.out.step hb)
      replace HB := Lib.hid (below_trans HB.out hb)
      clear hb
      clear RBly
      go_wp2_with fail
      refine (toInts_any At ct 0 W.heap.size t _ HIt.out ht).mono ?_
      rintro e w9 ⟨Bty, rfl, hr, hb⟩
      have Z8 := Lib.hid hb.size
      replace HIl := Lib.hid (HIl.out.step hb)
      replace HIt := Lib.hid (HIt.out.step hb)
      replace RBlx := Lib.hid (RBlx.out.step hb)
      replace RBtx := Lib.hid (RBtx.out.step hb)
      replace HB := Lib.hid (below_trans HB.out hb)
      clear hb
      have RBty := Lib.hid hr
      clear hr
      go_wp2_with fail
      refine (eqInts_same Btx Bty t.length t.length _ _ _ _ t _ RBtx.out.ins RBty.out.ins ht).mono ?_
      rintro e w10 ⟨rfl, hb⟩
      have Z9 := Lib.hid hb.size
      replace HIl := Lib.hid (HIl.out.step hb)
      replace HIt := Lib.hid (HIt.out.step hb)
      replace RBlx := Lib.hid (RBlx.out.step hb)
      replace RBtx := Lib.hid (RBtx.out.step hb)
      replace RBty := Lib.hid (RBty.out.step hb)
      replace HB := Lib.hid (below_trans HB.out hb)
      clear hb
      clear RBty
      go_wp2
      go_ret
      exact ⟨rfl, HB.out⟩
    · clear hSl hcl hSt hct
      go_enter Try.func4, Try.ntmps4
      go_wp2
      go_ret
      exact ⟨rfl, Below.refl _ _⟩
  · clear hSl hcl hSt hct
    go_enter Try.func4, Try.ntmps4
    go_wp2
    go_ret
    exact ⟨rfl, Below.refl _ _⟩
end Go.Proofs.Ytdkffkgoalgjmab
