/- FalseFor: both functions' contracts. -/
import Derived.Test.YtnomgnjfamideaaFalse
namespace Go.Proofs.Ytnomgnjfamideaa
open Go.RowKit Go.ChangeShapes Go.WideShapes Go.Maps
set_option linter.unusedVariables false

theorem isNumberF_any (n k : Int) (w : World) :
    Calls Try.prog 76 #[.int .i64 n, .int .i64 k] w fun e w' => e = .returned (.bool (inB n 1 12 && inB k 0 (n - 1))) ∧ w' = w := by
  have HC := Lib.hid (fun W => isSize_any n W)
  cases hn : inB n 1 12 with
  | false =>
    rw [hn] at HC
    clear hn
    rw [Bool.false_and]
    go_enter Try.func76, Try.ntmps76
    go_wp2_with (go_at_call 59; refine (HC.out _).mono ?_; rintro e w1 ⟨rfl, rfl⟩)
    go_ret
    exact ⟨rfl, rfl⟩
  | true =>
    rw [hn] at HC
    clear hn
    rw [Bool.true_and]
    by_cases h1 : 0 ≤ k
    · by_cases h2 : k < n
      · rw [inB_t h1 (show k ≤ n - 1 by omega)]
        go_enter Try.func76, Try.ntmps76
        go_wp2_with (go_at_call 59; refine (HC.out _).mono ?_; rintro e w1 ⟨rfl, rfl⟩)
        go_ret
        first | exact ⟨rfl, rfl⟩ | (rw [decide_eq_true (show k < n by omega)]; exact ⟨rfl, rfl⟩)
      · rw [inB_f2 (show ¬ k ≤ n - 1 by omega)]
        go_enter Try.func76, Try.ntmps76
        go_wp2_with (go_at_call 59; refine (HC.out _).mono ?_; rintro e w1 ⟨rfl, rfl⟩)
        go_ret
        first | exact ⟨rfl, rfl⟩ | (rw [decide_eq_false (show ¬ k < n by omega)]; exact ⟨rfl, rfl⟩)
    · rw [inB_f1 h1]
      go_enter Try.func76, Try.ntmps76
      go_wp2_with (go_at_call 59; refine (HC.out _).mono ?_; rintro e w1 ⟨rfl, rfl⟩)
      go_ret
      exact ⟨rfl, rfl⟩

end Go.Proofs.Ytnomgnjfamideaa
