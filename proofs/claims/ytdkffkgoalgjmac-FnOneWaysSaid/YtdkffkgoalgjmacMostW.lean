/- MostByWeight: both sides. -/
import Derived.Test.YtdkffkgoalgjmacBound
import Derived.Test.YtdkffkgoalgjmacTold
namespace Go.Proofs.Ytdkffkgoalgjmac
open Go.RowKit Go.ChangeShapes Go.WideShapes
set_option linter.unusedVariables false

theorem l1Least_any (x y : Int) (w : World) :
    Calls Try.prog 145 #[.int .i64 x, .int .i64 y] w fun e w' => e = .returned (.int .i64 (if x ≤ y then x else y)) ∧ w' = w := by
  by_cases h : x < y
  · rw [if_pos (by omega)]
    go_enter Try.func145, Try.ntmps145
    go_wp2
    go_ret
    exact ⟨rfl, rfl⟩
  · by_cases h2 : x = y
    · subst h2
      rw [if_pos (by omega)]
      go_enter Try.func145, Try.ntmps145
      go_wp2
      go_ret
      exact ⟨rfl, rfl⟩
    · have h3 : y < x := by omega
      rw [if_neg (by omega)]
      go_enter Try.func145, Try.ntmps145
      go_wp2
      go_ret
      exact ⟨rfl, rfl⟩
/-- Whether most of q answers can be false, and no more than can be at all. -/
def mOK (q k : Int) : Bool := part q k && inB k 0 2
theorem mOK_iff {q k : Int} : mOK q k = true ↔ ((0 ≤ q ∧ q ≤ 30) ∧ 0 ≤ k ∧ k ≤ q) ∧ 0 ≤ k ∧ k ≤ 2 := by
  unfold mOK; rw [Bool.and_eq_true, part_iff, inB_iff]
theorem least_part {q k : Int} (hq : inB q 0 30 = true) : inB k 0 (if (2 : Int) ≤ q then 2 else q) = mOK q k := by
  have := inB_iff.1 hq
  rw [Bool.eq_iff_iff, mOK_iff, inB_iff]
  split <;> omega
theorem mOK_noq {q k : Int} (hq : inB q 0 30 = false) : mOK q k = false := by simp [mOK, part, hq]

end Go.Proofs.Ytdkffkgoalgjmac
