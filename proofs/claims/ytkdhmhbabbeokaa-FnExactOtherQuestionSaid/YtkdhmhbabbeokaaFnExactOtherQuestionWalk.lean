/- The law FnExactOtherQuestion: its walk over the two functions' contracts. -/
import Derived.Test.YtkdhmhbabbeokaaStates
import Derived.Test.YtkdhmhbabbeokaaQuest
namespace Go.Proofs.Ytkdhmhbabbeokaa
open Go.RowKit
set_option linter.unusedVariables false

set_option maxHeartbeats 4000000 in
theorem fnExactOtherQuestion_walk (n : Int) (q : Int) (W : World) (wfn : (Lit.int .i64 n).wf = true) (wfq : (Lit.int .i64 q).wf = true) (hsh : W.ShapedOpen Try.prog) :
    Calls Try.prog 13 #[.int .i64 n, .int .i64 q] W fun e w' => e = .returned (.bool true) ∧ Below W.heap.size W w' := by
  clear hsh
  obtain ⟨r0, r1, hI, hC⟩ := otherQuestion_both n q
  have CI := Lib.hid hI
  have CS := Lib.hid hC
  clear hI hC
  have HB := Lib.hid (Below.refl W.heap.size W)
  have ZB := Lib.hid HB.out.size
  go_enter Try.func13, Try.ntmps13
  go_wp2_with fail
  obtain ⟨w0, hw0⟩ : ∃ w0, w0 = W := ⟨W, rfl⟩
  go_wp2_with fail
  refine (CS.out _  ).mono ?_
  rintro e w1 ⟨rfl, hb⟩
  have Z0 := Lib.hid hb.size
  replace HB := Lib.hid (below_trans HB.out hb)
  clear hb
  go_wp2_with fail
  refine (CI.out _  ).mono ?_
  rintro e w2 ⟨rfl, hb⟩
  have Z1 := Lib.hid hb.size
  replace HB := Lib.hid (below_trans HB.out hb)
  clear hb
  go_wp2
  go_ret
  exact ⟨rfl, HB.out⟩
end Go.Proofs.Ytkdhmhbabbeokaa
