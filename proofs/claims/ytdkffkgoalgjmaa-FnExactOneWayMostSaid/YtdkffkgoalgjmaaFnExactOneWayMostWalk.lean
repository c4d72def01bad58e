/- The law FnExactOneWayMost: its walk over the two functions' contracts. -/
import Derived.Test.YtdkffkgoalgjmaaMtab
namespace Go.Proofs.Ytdkffkgoalgjmaa
open Go.RowKit
set_option linter.unusedVariables false

set_option maxHeartbeats 4000000 in
theorem fnExactOneWayMost_walk (q : Int) (m : Int) (W : World) (wfq : (Lit.int .i64 q).wf = true) (wfm : (Lit.int .i64 m).wf = true) (hsh : W.ShapedOpen Try.prog) :
    Calls Try.prog 12 #[.int .i64 q, .int .i64 m] W fun e w' => e = .returned (.bool true) ∧ Below W.heap.size W w' := by
  clear hsh
  obtain ⟨r0, r1, hI, hC⟩ := oneWayMost_both q m
  have CI := Lib.hid hI
  have CS := Lib.hid hC
  clear hI hC
  have HB := Lib.hid (Below.refl W.heap.size W)
  have ZB := Lib.hid HB.out.size
  go_enter Try.func12, Try.ntmps12
  go_wp2_with fail
  go_wp2_with fail
  refine (CS.out _  ).mono ?_
  rintro e w1 ⟨rfl, hb⟩
  have Z0 := Lib.hid hb.size
  replace HB := Lib.hid (below_trans HB.out hb)
  clear hb
  go_wp2_with fail
  refine (CI.out _  ).mono ?_
  rintro e w2 ⟨rfl, hb⟩
  have Z1 := Lib.hid hb.size
  replace HB := Lib.hid (below_trans HB.out hb)
  clear hb
  go_wp2
  go_ret
  exact ⟨rfl, HB.out⟩
end Go.Proofs.Ytdkffkgoalgjmaa
