/- The law FnExactLessQuestion: its walk over the two functions' contracts. -/
import Derived.Test.YtichjhahnahaoaaL6q
namespace Go.Proofs.Ytichjhahnahaoaa
open Go.RowKit
set_option linter.unusedVariables false

set_option maxHeartbeats 4000000 in
theorem fnExactLessQuestion_walk (n : Int) (k : Int) (W : World) (wfn : (Lit.int .i64 n).wf = true) (wfk : (Lit.int .i64 k).wf = true) (hsh : W.ShapedOpen Try.prog) :
    Calls Try.prog 3 #[.int .i64 n, .int .i64 k] W fun e w' => e = .returned (.bool true) ∧ Below W.heap.size W w' := by
  clear hsh
  obtain ⟨r0, r1, hI, hC⟩ := lessQuestion_both n k
  have CI := Lib.hid hI
  have CS := Lib.hid hC
  clear hI hC
  have HB := Lib.hid (Below.refl W.heap.size W)
  have ZB := Lib.hid HB.out.size
  go_enter Try.func3, Try.ntmps3
  go_wp2_with fail
  go_wp2_with fail
  refine (CS.out _  ).mono ?_
  rintro e w1 ⟨rfl, hb⟩
  have Z0 := Lib.hid hb.size
  replace HB := Lib.hid (below_trans HB.out hb)
  clear hb
  go_wp2_with fail
  refine (CI.out _  ).mono ?_
  rintro e w2 ⟨rfl, hb⟩
  have Z1 := Lib.hid hb.size
  replace HB := Lib.hid (below_trans HB.out hb)
  clear hb
  go_wp2
  go_ret
  exact ⟨rfl, HB.out⟩
end Go.Proofs.Ytichjhahnahaoaa
