/- The law FnExactIsDoubt: its walk over the two functions' contracts. -/
import Derived.Test.YtlhpbhmldcinmaaL7g
namespace Go.Proofs.Ytlhpbhmldcinmaa
open Go.RowKit
set_option linter.unusedVariables false

set_option maxHeartbeats 4000000 in
theorem fnExactIsDoubt_walk (ad bd : Int) (W : World) (wfad : (Lit.int .i64 ad).wf = true) (wfbd : (Lit.int .i64 bd).wf = true) (hsh : W.ShapedOpen Try.prog) :
    Calls Try.prog 3 #[.agg #[.int .i64 ad, .int .i64 bd]] W fun e w' => e = .returned (.bool true) ∧ Below W.heap.size W w' := by
  clear hsh
  obtain ⟨r0, hI, hC⟩ := isDoubt_both ad bd
  have CI := Lib.hid hI
  have CS := Lib.hid hC
  clear hI hC
  have HB := Lib.hid (Below.refl W.heap.size W)
  have HXd := Lib.hid (Arg.next HB.out (.int .i64 ad) (.int .i64 bd) 23 (W.heap.size) rfl)
  replace HB := Lib.hid (HXd.out.below)
  have ZB := Lib.hid HB.out.size
  have ZXd : Hid (W.heap.size < (W.alloc (.cells #[.int .i64 ad, .int .i64 bd] 23)).heap.size) := HXd.out.hi
  go_enter Try.func3, Try.ntmps3
  go_wp2_with fail
  generalize (W.alloc (.cells #[.int .i64 ad, .int .i64 bd] 23)) = w0 at  ZB HB HXd ZXd⊢
  have h0d := HXd.out.c0
  have h1d := HXd.out.c1
  go_wp2_with fail
  refine (toDoubt_any ad bd _).mono ?_
  rintro e w1 ⟨rfl, hb⟩
  have Z0 := Lib.hid hb.size
  replace HXd := Lib.hid (HXd.out.step hb)
  replace HB := Lib.hid (below_trans HB.out hb)
  replace h0d := HXd.out.c0
  replace h1d := HXd.out.c1
  clear hb
  go_wp2_with fail
  refine (CS.out _  ).mono ?_
  rintro e w2 ⟨rfl, hb⟩
  have Z1 := Lib.hid hb.size
  replace HXd := Lib.hid (HXd.out.step hb)
  replace HB := Lib.hid (below_trans HB.out hb)
  replace h0d := HXd.out.c0
  replace h1d := HXd.out.c1
  clear hb
  go_wp2_with fail
  refine (toDoubt_any ad bd _).mono ?_
  rintro e w3 ⟨rfl, hb⟩
  have Z2 := Lib.hid hb.size
  replace HXd := Lib.hid (HXd.out.step hb)
  replace HB := Lib.hid (below_trans HB.out hb)
  replace h0d := HXd.out.c0
  replace h1d := HXd.out.c1
  clear hb
  go_wp2_with fail
  refine (CI.out _  ).mono ?_
  rintro e w4 ⟨rfl, hb⟩
  have Z3 := Lib.hid hb.size
  replace HXd := Lib.hid (HXd.out.step hb)
  replace HB := Lib.hid (below_trans HB.out hb)
  replace h0d := HXd.out.c0
  replace h1d := HXd.out.c1
  clear hb
  go_wp2
  go_ret
  exact ⟨rfl, HB.out⟩
end Go.Proofs.Ytlhpbhmldcinmaa
