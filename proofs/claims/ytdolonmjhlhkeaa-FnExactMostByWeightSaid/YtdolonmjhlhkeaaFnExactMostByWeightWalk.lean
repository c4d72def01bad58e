/- The law FnExactMostByWeight: its walk over the two functions' contracts. -/
import Derived.Test.YtdolonmjhlhkeaaMostW
namespace Go.Proofs.Ytdolonmjhlhkeaa
open Go.RowKit
set_option linter.unusedVariables false

set_option maxHeartbeats 4000000 in
theorem fnExactMostByWeight_walk (q : Int) (k : Int) (W : World) (wfq : (Lit.int .i64 q).wf = true) (wfk : (Lit.int .i64 k).wf = true) (hsh : W.ShapedOpen Try.prog) :
    Calls Try.prog 13 #[.int .i64 q, .int .i64 k] W fun e w' => e = .returned (.bool true) ∧ Below W.heap.size W w' := by
  clear hsh
  obtain ⟨r0, r1, hI, hC⟩ := mostByWeight_both q k
  have CI := Lib.hid hI
  have CS := Lib.hid hC
  clear hI hC
  have HB := Lib.hid (Below.refl W.heap.size W)
  have ZB := Lib.hid HB.out.size
  go_enter Try.func13, Try.ntmps13
  go_wp2_with fail
  go_wp2_with fail
  refine (CS.out _  ).mono ?_
  rintro e w1 ⟨rfl, hb⟩
  have Z0 := Lib.hid hb.size
  replace HB := Lib.hid (below_trans HB.out hb)
  clear hb
  go_wp2_with fail
  refine (CI.out _  ).mono ?_
  rintro e w2 ⟨rfl, hb⟩
  have Z1 := Lib.hid hb.size
  replace HB := Lib.hid (below_trans HB.out hb)
  clear hb
  go_wp2
  go_ret
  exact ⟨rfl, HB.out⟩
end Go.Proofs.Ytdolonmjhlhkeaa
