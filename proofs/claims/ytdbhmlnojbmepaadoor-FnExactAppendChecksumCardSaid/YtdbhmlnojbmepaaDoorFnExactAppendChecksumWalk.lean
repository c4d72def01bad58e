/- The law of AppendChecksum: its walk over the two functions' contracts. -/
import Derived.Test.YtdbhmlnojbmepaaDoorSeal
namespace Go.Proofs.YtdbhmlnojbmepaaDoor
open Go.RowKit
set_option linter.unusedVariables false

set_option maxHeartbeats 1000000 in
theorem fnExactAppendChecksum_walk (s : ByteArray) (W : World) (w0 : s.size ≤ maxLen) (hL : laidMetH Tryd.prog Rows.fnExactAppendChecksumRow.laid W) (hsh : W.ShapedOpen Tryd.prog) :
    Calls Tryd.prog 6 #[.string s] W fun e w' => e = .returned (.bool true) ∧ Below W.heap.size W w' := by
  unfold maxLen at w0
  have HP := Lib.hid (show Pow W from laid_pow hL)
  have HM := Lib.hid (maxL_of hsh)
  clear hL hsh
  by_cases h1 : s.size ≤ 1048576
  · go_enter Tryd.func6, Tryd.ntmps6
    go_wp2_with fail
    refine (append_spec s W h1).mono ?_
    rintro e w1 ⟨rfl, hb1⟩
    have HB1 := Lib.hid hb1
    clear hb1
    go_wp2_with fail
    refine (append_impl s w1 h1 (HP.out.below HB1.out) (HM.out.below HB1.out)).mono ?_
    rintro e w2 ⟨rfl, hb2⟩
    have HB2 := Lib.hid (below_trans HB1.out hb2)
    clear hb2
    go_wp2_with fail
    go_ret
    exact ⟨rfl, HB2.out⟩
  · go_enter Tryd.func6, Tryd.ntmps6
    go_wp2
    go_ret
    exact ⟨rfl, Below.refl _ _⟩
end Go.Proofs.YtdbhmlnojbmepaaDoor
