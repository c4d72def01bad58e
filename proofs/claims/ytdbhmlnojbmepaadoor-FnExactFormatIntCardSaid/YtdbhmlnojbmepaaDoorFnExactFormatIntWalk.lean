/- The law of FormatInt: its walk over the two functions' contracts. -/
import Derived.Test.YtdbhmlnojbmepaaDoorNum
import Derived.Test.YtdbhmlnojbmepaaDoorLaid
namespace Go.Proofs.YtdbhmlnojbmepaaDoor
open Go.RowKit
set_option linter.unusedVariables false

set_option maxHeartbeats 1000000 in
theorem fnExactFormatInt_walk (n : Int) (W : World) (w0 : (Lit.int .i64 n).wf = true) (hL : laidMetH Tryd.prog Rows.fnExactFormatIntRow.laid W) (hsh : W.ShapedOpen Tryd.prog) :
    Calls Tryd.prog 4 #[.int .i64 n] W fun e w' => e = .returned (.bool true) ∧ Below W.heap.size W w' := by
  clear hsh
  have htab := Lib.hid (laid_pow hL)
  clear hL
  have H0 := Lib.hid w0
  clear w0
  go_enter Tryd.func4, Tryd.ntmps4
  go_wp2_with fail
  refine (format_spec n W H0.out).mono ?_
  rintro e w1 ⟨rfl, hb1⟩
  have HB1 := Lib.hid hb1
  clear hb1
  go_wp2_with fail
  refine (format_impl n w1 H0.out (Pow.below htab.out HB1.out)).mono ?_
  rintro e w2 ⟨rfl, hb2⟩
  have HB2 := Lib.hid (below_trans HB1.out hb2)
  clear hb2
  go_wp2_with fail
  go_ret
  exact ⟨rfl, HB2.out⟩
end Go.Proofs.YtdbhmlnojbmepaaDoor
