/- The law FnExactOneWayYes: its walk over the two functions' contracts. -/
import Derived.Test.YtdkffkgoalgjmaaL10H
import Derived.Test.YtdkffkgoalgjmaaOpen
import Derived.Test.YtdkffkgoalgjmaaMark2
namespace Go.Proofs.Ytdkffkgoalgjmaa
open Go.RowKit
set_option linter.unusedVariables false

set_option maxHeartbeats 40000000 in
theorem fnExactOneWayYes_walk (Al : Option Addr) (cl : Nat) (l : List Int) (At : Option Addr) (ct : Nat) (t : List Int) (W : World) (hSl : Ints W 0 W.heap.size Al l) (hcl : l.length ≤ cl) (hcml : cl ≤ maxLen) (hSt : Ints W 0 W.heap.size At t) (hct : t.length ≤ ct) (hcmt : ct ≤ maxLen) (hsh : W.ShapedOpen Try.prog) :
    Calls Try.prog 5 #[.slice Al l.length cl, .slice At t.length ct] W fun e w' => e = .returned (.bool true) ∧ Below W.heap.size W w' := by
  clear hsh
  unfold maxLen at hcml
  unfold maxLen at hcmt
  by_cases hl : l.length ≤ 1048576
  · have hkeepl := hl
    by_cases ht : t.length ≤ 1048576
    · have hkeept := ht
      obtain ⟨r0, r1, l0, hI, hC⟩ := oneWayYes_both l hl t ht
      have CI := Lib.hid hI
      have CS := Lib.hid hC
      clear hI hC
      have HIl := Lib.hid (Ins.mk hSl (Nat.le_refl _))
      have HIt := Lib.hid (Ins.mk hSt (Nat.le_refl _))
      have HB := Lib.hid (Below.refl W.heap.size W)
      clear hSl hcl
      clear hSt hct
      have ZB := Lib.hid HB.out.size
      go_enter Try.func5, Try.ntmps5
      go_wp2_with fail
      go_wp2_with fail
      refine (toInts_any Al cl 0 W.heap.size l _ HIl.out hl).mono ?_
      rintro e w1 ⟨Blw, rfl, hr, hb⟩
      have Z0 := Lib.hid hb.size
      replace HIl := Lib.hid (HIl.out.step hb)
      replace HIt := Lib.hid (HIt.out.step hb)
      replace HB := Lib.hid (below_trans HB.out hb)
      clear hb
      have RBlw := Lib.hid hr
      clear hr
      go_wp2_with fail
      refine (toInts_any At ct 0 W.heap.size t _ HIt.out ht).mono ?_
      rintro e w2 ⟨Btw, rfl, hr, hb⟩
      have Z1 := Lib.hid hb.size
      replace HIl := Lib.hid (HIl.out.step hb)
      replace HIt := Lib.hid (HIt.out.step hb)
      replace RBlw := Lib.hid (RBlw.out.step hb)
      replace HB := Lib.hid (below_trans HB.out hb)
      clear hb
      have RBtw := Lib.hid hr
      clear hr
      go_wp2_with fail
      refine (CS.out _ Blw _ _ _ Btw _ _ _ RBlw.out.ins RBtw.out.ins).mono ?_
      rintro e w3 ⟨Bw0, cw0, rfl, hr0, hb⟩
      have Z2 := Lib.hid hb.size
      replace HIl := Lib.hid (HIl.out.step hb)
      replace HIt := Lib.hid (HIt.out.step hb)
      replace RBlw := Lib.hid (RBlw.out.step hb)
      replace RBtw := Lib.hid (RBtw.out.step hb)
      replace HB := Lib.hid (below_trans HB.out hb)
      clear hb
      have Rw0 := Lib.hid hr0
      clear hr0
      clear RBlw
      clear RBtw
      go_wp2_with fail
      refine (toInts_any Al cl 0 W.heap.size l _ HIl.out hl).mono ?_
      rintro e w4 ⟨Blx, rfl, hr, hb⟩
      have Z3 := Lib.hid hb.size
      replace HIl := Lib.hid (HIl.out.step hb)
      replace HIt := Lib.hid (HIt.out.step hb)
      replace Rw0 := Lib.hid (Rw0.out.step hb)
      replace HB := Lib.hid (below_trans HB.out hb)
      clear hb
      have RBlx := Lib.hid hr
      clear hr
      go_wp2_with fail
      refine (toInts_any At ct 0 W.heap.size t _ HIt.out ht).mono ?_
      rintro e w5 ⟨Btx, rfl, hr, hb⟩
      have Z4 := Lib.hid hb.size
      replace HIl := Lib.hid (HIl.out.step hb)
      replace HIt := Lib.hid (HIt.out.step hb)
      replace Rw0 := Lib.hid (Rw0.out.step hb)
      replace RBlx := Lib.hid (RBlx.out.step hb)
      replace HB := Lib.hid (below_trans HB.out hb)
      clear hb
      have RBtx := Lib.hid hr
      clear hr
      go_wp2_with fail
      refine (CI.out _ Blx _ _ _ Btx _ _ _ RBlx.out.ins RBtx.out.ins).mono ?_
      rintro e w6 ⟨Bg0, cg0, rfl, hr0, hb⟩
      have Z5 := Lib.hid hb.size
      replace HIl := Lib.hid (HIl.out.step hb)
      replace HIt := Lib.hid (HIt.out.step hb)
      replace Rw0 := Lib.hid (Rw0.out.step hb)
      replace RBlx := Lib.hid (RBlx.out.step hb)
      replace RBtx := Lib.hid (RBtx.out.step hb)
      replace HB := Lib.hid (below_trans HB.out hb)
      clear hb
      have Rg0 := Lib.hid hr0
      clear hr0
      go_wp2_with fail
      refine (eqInts_same Bg0 Bw0 cg0 cw0 _ _ _ _ r0 _ Rg0.out.ins Rw0.out.ins l0).mono ?_
      rintro e w7 ⟨rfl, hb⟩
      have Z6 := Lib.hid hb.size
      replace HIl := Lib.hid (HIl.out.step hb)
      replace HIt := Lib.hid (HIt.out.step hb)
      replace Rw0 := Lib.hid (Rw0.out.step hb)
      replace RBlx := Lib.hid (RBlx.out.step hb)
      replace RBtx := Lib.hid (RBtx.out.step hb)
      replace Rg0 := Lib.hid (Rg0.out.step hb)
      replace HB := Lib.hid (below_trans HB.out hb)
      clear hb
      go_wp2_with fail
      refine (toInts_any Al cl 0 W.heap.size l _ HIl.out hl).mono ?_
      rintro e w8 ⟨Bly, rfl, hr, hb⟩
      have Z7 := Lib.hid hb.size
      replace HIl := Lib.hid (HIl.out.step hb)
      replace HIt := Lib.hid (HIt.out.step hb)
      replace Rw0 := Lib.hid (Rw0.out.step hb)
      replace RBlx := Lib.hid (RBlx.out.step hb)
      replace RBtx := Lib.hid (RBtx.out.step hb)
      replace Rg0 := Lib.hid (Rg0.out.step hb)
      replace HB := Lib.hid (below_trans HB.out hb)
      clear hb
      have RBly := Lib.hid hr
      clear hr
      go_wp2_with fail
      refine (eqInts_same Blx Bly l.length l.length _ _ _ _ l _ RBlx.out.ins RBly.out.ins hl).mono ?_
      rintro e w9 ⟨rfl, hb⟩
      have Z8 := Lib.hid hb.size
      replace HIl := Lib.hid (HIl.out.step hb)
      replace HIt := Lib.hid (HIt.out.step hb)
      replace Rw0 := Lib.hid (Rw0.out.step hb)
      replace RBlx := Lib.hid (RBlx.out.step hb)
      replace RBtx := Lib.hid (RBtx.out.step hb)
      replace Rg0 := Lib.hid (Rg0.out.step hb)
      replace RBly := Lib.hid (RBly.out.step hb)
      replace HB := Lib.hid (below_trans HB.out hb)
      clear hb
      clear RBly
      go_wp2_with fail
      refine (toInts_any At ct 0 W.heap.size t _ HIt.out ht).mono ?_
      rintro e w10 ⟨Bty, rfl, hr, hb⟩
      have Z9 := Lib.hid hb.size
      replace HIl := Lib.hid (HIl.out.step hb)
      replace HIt := Lib.hid (HIt.out.step hb)
      replace Rw0 := Lib.hid (Rw0.out.step hb)
      replace RBlx := Lib.hid (RBlx.out.step hb)
      replace RBtx := Lib.hid (RBtx.out.step hb)
      replace Rg0 := Lib.hid (Rg0.out.step hb)
      replace HB := Lib.hid (below_trans HB.out hb)
      clear hb
      have RBty := Lib.hid hr
      clear hr
      go_wp2_with fail
      refine (eqInts_same Btx Bty t.length t.length _ _ _ _ t _ RBtx.out.ins RBty.out.ins ht).mono ?_
      rintro e w11 ⟨rfl, hb⟩
      have Z10 := Lib.hid hb.size
      replace HIl := Lib.hid (HIl.out.step hb)
      replace HIt := Lib.hid (HIt.out.step hb)
      replace Rw0 := Lib.hid (Rw0.out.step hb)
      replace RBlx := Lib.hid (RBlx.out.step hb)
      replace RBtx := Lib.hid (RBtx.out.step hb)
      replace Rg0 := Lib.hid (Rg0.out.step hb)
      replace RBty := Lib.hid (RBty.out.step hb)
      replace HB := Lib.hid (below_trans HB.out hb)
      clear hb
      clear RBty
      go_wp2_with fail
      refine (markInts_any Blx l.length _ _ l _ RBlx.out hl).mono ?_
      rintro e w12 ⟨rfl, hr, hw⟩
      clear hr
      have ZZ : W.heap.size ≤ W.heap.size ∧ W.heap.size ≤ w1.heap.size ∧ w1.heap.size ≤ w2.heap.size ∧ w2.heap.size ≤ w3.heap.size ∧ w3.heap.size ≤ w4.heap.size ∧ w4.heap.size ≤ w5.heap.size ∧ w5.heap.size ≤ w6.heap.size ∧ w6.heap.size ≤ w7.heap.size ∧ w7.heap.size ≤ w8.heap.size ∧ w8.heap.size ≤ w9.heap.size ∧ w9.heap.size ≤ w10.heap.size ∧ w10.heap.size ≤ w11.heap.size := ⟨ZB.out, Z0.out, Z1.out, Z2.out, Z3.out, Z4.out, Z5.out, Z6.out, Z7.out, Z8.out, Z9.out, Z10.out⟩
      replace HIl := Lib.hid (HIl.out.within hw (by omega))
      replace HIt := Lib.hid (HIt.out.within hw (by omega))
      replace Rw0 := Lib.hid (Rw0.out.within hw (by omega))
      replace RBtx := Lib.hid (RBtx.out.within hw (by omega))
      replace Rg0 := Lib.hid (Rg0.out.within hw (by omega))
      replace HB := Lib.hid (HB.out.trans (hw.below (by omega) HB.out.size))
      have Z11 := Lib.hid hw.size
      clear hw ZZ
      clear RBlx
      go_wp2_with fail
      refine (markInts2_any Btx t.length _ _ t _ RBtx.out ht _ (by omega)).mono ?_
      rintro e w13 ⟨rfl, hr, hw⟩
      clear hr
      have ZZ : W.heap.size ≤ W.heap.size ∧ W.heap.size ≤ w1.heap.size ∧ w1.heap.size ≤ w2.heap.size ∧ w2.heap.size ≤ w3.heap.size ∧ w3.heap.size ≤ w4.heap.size ∧ w4.heap.size ≤ w5.heap.size ∧ w5.heap.size ≤ w6.heap.size ∧ w6.heap.size ≤ w7.heap.size ∧ w7.heap.size ≤ w8.heap.size ∧ w8.heap.size ≤ w9.heap.size ∧ w9.heap.size ≤ w10.heap.size ∧ w10.heap.size ≤ w11.heap.size ∧ w11.heap.size ≤ w12.heap.size := ⟨ZB.out, Z0.out, Z1.out, Z2.out, Z3.out, Z4.out, Z5.out, Z6.out, Z7.out, Z8.out, Z9.out, Z10.out, Z11.out⟩
      replace HIl := Lib.hid (HIl.out.within hw (by omega))
      replace HIt := Lib.hid (HIt.out.within hw (by omega))
      replace Rw0 := Lib.hid (Rw0.out.within hw (by omega))
      replace Rg0 := Lib.hid (Rg0.out.within hw (by omega))
      replace HB := Lib.hid (HB.out.trans (hw.below (by omega) HB.out.size))
      have Z12 := Lib.hid hw.size
      clear hw ZZ
      clear RBtx
      go_wp2_with fail
      refine (eqInts_same Bg0 Bw0 cg0 cw0 _ _ _ _ r0 _ Rg0.out.ins Rw0.out.ins l0).mono ?_
      rintro e w14 ⟨rfl, hb⟩
      have Z13 := Lib.hid hb.size
      replace HIl := Lib.hid (HIl.out.step hb)
      replace HIt := Lib.hid (HIt.out.step hb)
      replace Rw0 := Lib.hid (Rw0.out.step hb)
      replace Rg0 := Lib.hid (Rg0.out.step hb)
      replace HB := Lib.hid (below_trans HB.out hb)
      clear hb
      go_wp2_with fail
      refine (markInts_any Bg0 cg0 _ _ r0 _ Rg0.out l0).mono ?_
      rintro e w15 ⟨rfl, hr, hw⟩
      have ZZ : W.heap.size ≤ W.heap.size ∧ W.heap.size ≤ w1.heap.size ∧ w1.heap.size ≤ w2.heap.size ∧ w2.heap.size ≤ w3.heap.size ∧ w3.heap.size ≤ w4.heap.size ∧ w4.heap.size ≤ w5.heap.size ∧ w5.heap.size ≤ w6.heap.size ∧ w6.heap.size ≤ w7.heap.size ∧ w7.heap.size ≤ w8.heap.size ∧ w8.heap.size ≤ w9.heap.size ∧ w9.heap.size ≤ w10.heap.size ∧ w10.heap.size ≤ w11.heap.size ∧ w11.heap.size ≤ w12.heap.size ∧ w12.heap.size ≤ w13.heap.size ∧ w13.heap.size ≤ w14.heap.size := ⟨ZB.out, Z0.out, Z1.out, Z2.out, Z3.out, Z4.out, Z5.out, Z6.out, Z7.out, Z8.out, Z9.out, Z10.out, Z11.out, Z12.out, Z13.out⟩
      replace HIl := Lib.hid (HIl.out.within hw (by omega))
      replace HIt := Lib.hid (HIt.out.within hw (by omega))
      replace Rw0 := Lib.hid (Rw0.out.within hw (by omega))
      replace HB := Lib.hid (HB.out.trans (hw.below (by omega) HB.out.size))
      have Z14 := Lib.hid hw.size
      clear hw ZZ
      have M0 := Lib.hid hr
      clear hr
      clear Rg0
      go_wp2_with fail
      refine (heldInts_any Bg0 cg0 _ _ r0.length _ M0.out.ins l0).mono ?_
      rintro e w16 ⟨rfl, hb⟩
      have Z15 := Lib.hid hb.size
      replace HIl := Lib.hid (HIl.out.step hb)
      replace HIt := Lib.hid (HIt.out.step hb)
      replace Rw0 := Lib.hid (Rw0.out.step hb)
      replace M0 := Lib.hid (M0.out.step hb)
      replace HB := Lib.hid (below_trans HB.out hb)
      clear hb
      go_wp2_with fail
      refine (toInts_any Al cl 0 W.heap.size l _ HIl.out hl).mono ?_
      rintro e w17 ⟨Blh, rfl, hr, hb⟩
      have Z16 := Lib.hid hb.size
      replace HIl := Lib.hid (HIl.out.step hb)
      replace HIt := Lib.hid (HIt.out.step hb)
      replace Rw0 := Lib.hid (Rw0.out.step hb)
      replace M0 := Lib.hid (M0.out.step hb)
      replace HB := Lib.hid (below_trans HB.out hb)
      clear hb
      have RBlh := Lib.hid hr
      clear hr
      go_wp2_with fail
      refine (toInts_any At ct 0 W.heap.size t _ HIt.out ht).mono ?_
      rintro e w18 ⟨Bth, rfl, hr, hb⟩
      have Z17 := Lib.hid hb.size
      replace HIl := Lib.hid (HIl.out.step hb)
      replace HIt := Lib.hid (HIt.out.step hb)
      replace Rw0 := Lib.hid (Rw0.out.step hb)
      replace M0 := Lib.hid (M0.out.step hb)
      replace RBlh := Lib.hid (RBlh.out.step hb)
      replace HB := Lib.hid (below_trans HB.out hb)
      clear hb
      have RBth := Lib.hid hr
      clear hr
      go_wp2_with fail
      refine (CI.out _ Blh _ _ _ Bth _ _ _ RBlh.out.ins RBth.out.ins).mono ?_
      rintro e w19 ⟨Bh0, ch0, rfl, hr0, hb⟩
      have Z18 := Lib.hid hb.size
      replace HIl := Lib.hid (HIl.out.step hb)
      replace HIt := Lib.hid (HIt.out.step hb)
      replace Rw0 := Lib.hid (Rw0.out.step hb)
      replace M0 := Lib.hid (M0.out.step hb)
      replace RBlh := Lib.hid (RBlh.out.step hb)
      replace RBth := Lib.hid (RBth.out.step hb)
      replace HB := Lib.hid (below_trans HB.out hb)
      clear hb
      have Rh0 := Lib.hid hr0
      clear hr0
      clear RBlh
      clear RBth
      go_wp2_with fail
      refine (eqInts_same Bh0 Bw0 ch0 cw0 _ _ _ _ r0 _ Rh0.out.ins Rw0.out.ins l0).mono ?_
      rintro e w20 ⟨rfl, hb⟩
      have Z19 := Lib.hid hb.size
      replace HIl := Lib.hid (HIl.out.step hb)
      replace HIt := Lib.hid (HIt.out.step hb)
      replace Rw0 := Lib.hid (Rw0.out.step hb)
      replace M0 := Lib.hid (M0.out.step hb)
      replace Rh0 := Lib.hid (Rh0.out.step hb)
      replace HB := Lib.hid (below_trans HB.out hb)
      clear hb
      go_wp2_with fail
      refine (heldInts_any Bg0 cg0 _ _ r0.length _ M0.out.ins l0).mono ?_
      rintro e w21 ⟨rfl, hb⟩
      have Z20 := Lib.hid hb.size
      replace HIl := Lib.hid (HIl.out.step hb)
      replace HIt := Lib.hid (HIt.out.step hb)
      replace Rw0 := Lib.hid (Rw0.out.step hb)
      replace M0 := Lib.hid (M0.out.step hb)
      replace Rh0 := Lib.hid (Rh0.out.step hb)
      replace HB := Lib.hid (below_trans HB.out hb)
      clear hb
      go_wp2
      go_ret
      exact ⟨rfl, HB.out⟩
    · clear hSl hcl hSt hct
      go_enter Try.func5, Try.ntmps5
      go_wp2
      go_ret
      exact ⟨rfl, Below.refl _ _⟩
  · clear hSl hcl hSt hct
    go_enter Try.func5, Try.ntmps5
    go_wp2
    go_ret
    exact ⟨rfl, Below.refl _ _⟩
end Go.Proofs.Ytdkffkgoalgjmaa
