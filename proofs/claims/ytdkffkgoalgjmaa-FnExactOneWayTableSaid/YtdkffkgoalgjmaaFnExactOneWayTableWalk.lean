/- The law FnExactOneWayTable: its walk over the two functions' contracts. -/
import Derived.Test.YtdkffkgoalgjmaaMtab
namespace Go.Proofs.Ytdkffkgoalgjmaa
open Go.RowKit
set_option linter.unusedVariables false

set_option maxHeartbeats 4000000 in
theorem fnExactOneWayTable_walk (m : Int) (W : World) (wfm : (Lit.int .i64 m).wf = true) (hsh : W.ShapedOpen Try.prog) :
    Calls Try.prog 9 #[.int .i64 m] W fun e w' => e = .returned (.bool true) ∧ Below W.heap.size W w' := by
  clear hsh
  obtain ⟨r0, r1, l0, hI, hC⟩ := oneWayTable_both m
  have CI := Lib.hid hI
  have CS := Lib.hid hC
  clear hI hC
  have HB := Lib.hid (Below.refl W.heap.size W)
  have ZB := Lib.hid HB.out.size
  go_enter Try.func9, Try.ntmps9
  go_wp2_with fail
  go_wp2_with fail
  refine (CS.out _  ).mono ?_
  rintro e w1 ⟨Bw0, cw0, rfl, hr0, hb⟩
  have Z0 := Lib.hid hb.size
  replace HB := Lib.hid (below_trans HB.out hb)
  clear hb
  have Rw0 := Lib.hid hr0
  clear hr0
  go_wp2_with fail
  refine (CI.out _  ).mono ?_
  rintro e w2 ⟨Bg0, cg0, rfl, hr0, hb⟩
  have Z1 := Lib.hid hb.size
  replace Rw0 := Lib.hid (Rw0.out.step hb)
  replace HB := Lib.hid (below_trans HB.out hb)
  clear hb
  have Rg0 := Lib.hid hr0
  clear hr0
  go_wp2_with fail
  refine (eqInts_same Bg0 Bw0 cg0 cw0 _ _ _ _ r0 _ Rg0.out.ins Rw0.out.ins l0).mono ?_
  rintro e w3 ⟨rfl, hb⟩
  have Z2 := Lib.hid hb.size
  replace Rw0 := Lib.hid (Rw0.out.step hb)
  replace Rg0 := Lib.hid (Rg0.out.step hb)
  replace HB := Lib.hid (below_trans HB.out hb)
  clear hb
  go_wp2_with fail
  refine (markInts_any Bg0 cg0 _ _ r0 _ Rg0.out l0).mono ?_
  rintro e w4 ⟨rfl, hr, hw⟩
  have ZZ : W.heap.size ≤ W.heap.size ∧ W.heap.size ≤ w1.heap.size ∧ w1.heap.size ≤ w2.heap.size ∧ w2.heap.size ≤ w3.heap.size := ⟨ZB.out, Z0.out, Z1.out, Z2.out⟩
  replace Rw0 := Lib.hid (Rw0.out.within hw (by omega))
  replace HB := Lib.hid (HB.out.trans (hw.below (by omega) HB.out.size))
  have Z3 := Lib.hid hw.size
  clear hw ZZ
  have M0 := Lib.hid hr
  clear hr
  clear Rg0
  go_wp2_with fail
  refine (heldInts_any Bg0 cg0 _ _ r0.length _ M0.out.ins l0).mono ?_
  rintro e w5 ⟨rfl, hb⟩
  have Z4 := Lib.hid hb.size
  replace Rw0 := Lib.hid (Rw0.out.step hb)
  replace M0 := Lib.hid (M0.out.step hb)
  replace HB := Lib.hid (below_trans HB.out hb)
  clear hb
  go_wp2_with fail
  refine (CI.out _  ).mono ?_
  rintro e w6 ⟨Bh0, ch0, rfl, hr0, hb⟩
  have Z5 := Lib.hid hb.size
  replace Rw0 := Lib.hid (Rw0.out.step hb)
  replace M0 := Lib.hid (M0.out.step hb)
  replace HB := Lib.hid (below_trans HB.out hb)
  clear hb
  have Rh0 := Lib.hid hr0
  clear hr0
  go_wp2_with fail
  refine (eqInts_same Bh0 Bw0 ch0 cw0 _ _ _ _ r0 _ Rh0.out.ins Rw0.out.ins l0).mono ?_
  rintro e w7 ⟨rfl, hb⟩
  have Z6 := Lib.hid hb.size
  replace Rw0 := Lib.hid (Rw0.out.step hb)
  replace M0 := Lib.hid (M0.out.step hb)
  replace Rh0 := Lib.hid (Rh0.out.step hb)
  replace HB := Lib.hid (below_trans HB.out hb)
  clear hb
  go_wp2_with fail
  refine (heldInts_any Bg0 cg0 _ _ r0.length _ M0.out.ins l0).mono ?_
  rintro e w8 ⟨rfl, hb⟩
  have Z7 := Lib.hid hb.size
  replace Rw0 := Lib.hid (Rw0.out.step hb)
  replace M0 := Lib.hid (M0.out.step hb)
  replace Rh0 := Lib.hid (Rh0.out.step hb)
  replace HB := Lib.hid (below_trans HB.out hb)
  clear hb
  go_wp2
  go_ret
  exact ⟨rfl, HB.out⟩
end Go.Proofs.Ytdkffkgoalgjmaa
