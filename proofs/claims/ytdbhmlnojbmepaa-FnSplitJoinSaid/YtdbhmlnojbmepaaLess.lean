/- LessString: what the two functions compute, and the law that calls them. -/
import Derived.Test.YtdbhmlnojbmepaaProg
import Derived.WalkKit
import Derived.WalkLawsBesides
import Derived.Below
import Derived.Lib.Hide
namespace Go.Proofs.Ytdbhmlnojbmepaa
open Go.RowKit
set_option linter.unusedVariables false

theorem less_impl (a b : ByteArray) (w : World) :
    Calls Try.prog 15 #[.string a, .string b] w fun e w' => e = .returned (.bool (Op.bytesLess a.toList b.toList)) ∧ w = w' := by
  go_enter Try.func15, Try.ntmps15
  go_wp2
  go_ret
  exact ⟨rfl, rfl⟩
theorem less_spec (a b : ByteArray) (w : World) :
    Calls Try.prog 16 #[.string a, .string b] w fun e w' => e = .returned (.bool (Op.bytesLess a.toList b.toList)) ∧ w = w' := by
  go_enter Try.func16, Try.ntmps16
  go_wp2
  go_ret
  exact ⟨rfl, rfl⟩

theorem fnExactLessString_walk (a b : ByteArray) (W : World) (wa : a.size ≤ maxLen) (wb : b.size ≤ maxLen) (hsh : W.ShapedOpen Try.prog) :
    Calls Try.prog 6 #[.string a, .string b] W fun e w' => e = .returned (.bool true) ∧ Below W.heap.size W w' := by
  clear hsh
  unfold maxLen at wa wb
  by_cases h1 : a.size ≤ 1048576
  · by_cases h2 : b.size ≤ 1048576
    · generalize hx : Op.bytesLess a.toList b.toList = x
      have H1 := less_impl a b W
      have H2 := less_spec a b W
      rw [hx] at H1 H2
      clear hx
      have K1 := Lib.hid H1
      have K2 := Lib.hid H2
      clear H1 H2
      go_enter Try.func6, Try.ntmps6
      go_wp2_with (first | (go_at_call 15; refine K1.out.mono ?_; rintro e w' ⟨rfl, rfl⟩) | (go_at_call 16; refine K2.out.mono ?_; rintro e w' ⟨rfl, rfl⟩))
      all_goals go_ret
      all_goals exact ⟨by simp, Below.refl _ _⟩
    · go_enter Try.func6, Try.ntmps6
      go_wp2
      go_ret
      exact ⟨rfl, Below.refl _ _⟩
  · go_enter Try.func6, Try.ntmps6
    go_wp2
    go_ret
    exact ⟨rfl, Below.refl _ _⟩
end Go.Proofs.Ytdbhmlnojbmepaa
