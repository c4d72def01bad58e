/- Chances of false answers: ChanceFalse, ChanceWithin, MeanFalse, ChanceMajority, of both sides. -/
import Derived.Test.YtbgdnidbdfhgjabL7e
namespace Go.Proofs.Ytbgdnidbdfhgjab
open Go.RowKit Go.ChangeShapes Go.WideShapes
set_option linter.unusedVariables false

theorem hasN_pow {k i : Nat} (hk : k ≤ 12) (hi : i ≤ 12) : hasN (2 ^ k) i = if i = k then 1 else 0 := by
  have : ∀ k, k ≤ 12 → ∀ i, i ≤ 12 → hasN (2 ^ k) i = if i = k then 1 else 0 := by decide +kernel
  exact this k hk i hi
theorem hasN_less {j i : Nat} (hj : j ≤ 13) (hi : i ≤ 12) : hasN (2 ^ j - 1) i = if i < j then 1 else 0 := by
  have : ∀ j, j ≤ 13 → ∀ i, i ≤ 12 → hasN (2 ^ j - 1) i = if i < j then 1 else 0 := by decide +kernel
  exact this j hj i hi
theorem sum_pow (f : Nat → Nat) {k n : Nat} (hk : k < n) (hn : n ≤ 13) : sumT f (hasN (2 ^ k)) n = f k := by
  rw [sumT_congr (T' := fun i => if i = k then 1 else 0) n fun i hi => hasN_pow (by omega) (by omega), sumT_one f k n hk]
theorem sum_less (f : Nat → Nat) {j n : Nat} (hj : j ≤ n) (hn : n ≤ 13) : sumT f (hasN (2 ^ j - 1)) n = sumF f j := by
  rw [sumT_congr (T' := fun i => if i < j then 1 else 0) n fun i hi => hasN_less (by omega) (by omega), sumT_lt f j n, Nat.min_eq_left hj]
theorem pow13 (k : Nat) (h : k ≤ 13) : 1 ≤ (2 : Int) ^ k ∧ (2 : Int) ^ k ≤ 8192 := by
  have : ∀ k, k ≤ 13 → 1 ≤ (2 : Int) ^ k ∧ (2 : Int) ^ k ≤ 8192 := by decide
  exact this k h
theorem lessThan13_any (k : Nat) (w : World) (hk : k ≤ 13) :
    Calls Try.prog 141 #[.int .i64 (k : Int)] w fun e w' => e = .returned (.int .i64 ((2 : Int) ^ k - 1)) ∧ w' = w := by
  have : ∀ k : Nat, k ≤ 13 → ∀ w : World, Calls Try.prog 141 #[.int .i64 (k : Int)] w fun e w' => e = .returned (.int .i64 ((2 : Int) ^ k - 1)) ∧ w' = w := by
    intro k hk w
    have hp := pow13 k hk
    have HP : Hid (IntKind.i64.wrap ((2 : Int) ^ k) = 2 ^ k) := Lib.hid (IntWalk.i64_in _ (by omega))
    go_enter Try.func141, Try.ntmps141
    go_wp2
    go_ret
    exact ⟨by first | rfl | rw [HP.out], rfl⟩
  exact this k hk w

theorem wd_pos (a b m : Nat) (hb : b ≤ 10) (hb1 : 1 ≤ b) (ha : a ≤ b) (hm : m ≤ 12) : 1 ≤ sumF (wd a b m) (m + 1) := by
  rw [wd_all a b m hb ha hm]; exact pow_pos7 hb1 m
theorem mean_fr (a b m : Nat) (hb : b ≤ 10) (hb1 : 1 ≤ b) (ha : a ≤ b) (hm : m ≤ 12) : fr1 (sumT (wd a b m) id (m + 1)) (b ^ m) = fr1 (m * a) b ∧ fr2 (sumT (wd a b m) id (m + 1)) (b ^ m) = fr2 (m * a) b :=
  fr_cross (pow_pos7 hb1 m) hb1 (wd_mean a b m hb ha hm)
theorem mk0 (m : Int) : mkOK m 0 = inB m 0 12 := by
  rw [Bool.eq_iff_iff, mkOK_iff, inB_iff]; omega
end Go.Proofs.Ytbgdnidbdfhgjab
