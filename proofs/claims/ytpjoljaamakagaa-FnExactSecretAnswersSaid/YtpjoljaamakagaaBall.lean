/- The ways to choose at most so many answers: both loops; WaysOf, BallOf and MostByWeight of both sides. -/
import Derived.Test.YtpjoljaamakagaaWays
namespace Go.Proofs.Ytpjoljaamakagaa
open Go.RowKit Go.ChangeShapes Go.WideShapes
set_option linter.unusedVariables false

theorem ball_at {q k j : Nat} (hj : j ≤ min k q + 1) (h : ¬ (j ≤ k ∧ j ≤ q)) : ballTo q j = ball q (min k q) := by
  have : j = min k q + 1 := by omega
  rw [this]; rfl
theorem ballOf_impl (q k : Nat) (hq : q ≤ 30) (hk : k ≤ q) (w : World) :
    Calls Try.prog 153 #[.int .i64 (q : Int), .int .i64 (k : Int)] w fun e w' => e = .returned (.tuple #[.int .i64 (ball q k : Int), .bool true]) ∧ w' = w := by
  have HC := Lib.hid (fun W => isPart_any q k W)
  rw [part_iff.2 ⟨⟨by omega, by omega⟩, by omega, by omega⟩] at HC
  go_enter Try.func153, Try.ntmps153
  go_wp2_with (go_at_call 164; refine (HC.out _).mono ?_; rintro e w1 ⟨rfl, hw⟩; have hw := hw.symm; subst hw)
  go_loopw [6, 16] (fun out i wr => ∃ (j : Nat), j ≤ k + 1 ∧ i = .int .i64 j ∧ out = .int .i64 (ballTo q j : Int) ∧ wr = w) (fun _ i _ => k + 1 - (intOf i).toNat)
  case atStart => exact ⟨0, Nat.zero_le _, rfl, rfl, rfl⟩
  case round =>
    obtain ⟨j, hj, rfl, rfl, rfl⟩ := hrel
    by_cases h1 : j ≤ k
    · have hb := ways_bd q j hq (by omega)
      have HD := Lib.hid (fun W => waysOf_impl q j hq (by omega) W)
      have HS : Hid (((ballTo q j : Nat) : Int) + (ways q j : Int) = (ballTo q (j + 1) : Int)) := by show _ = _; rw [ballTo]; norm_cast
      generalize ways q j = x at HD HS hb
      go_wp2_with (go_at_call 165; refine (HD.out _).mono ?_; rintro e w1 ⟨rfl, rfl⟩)
      go_roundw
      case rel => exact ⟨j + 1, by omega, by go_num, by rw [HS.out], by trivial⟩
      case measure => simp [intOf]; omega
    · obtain rfl : j = k + 1 := by omega
      have HR : Hid (ballTo q (k + 1) = ball q k) := rfl
      go_wp2
      go_ret2
      rw [HR.out]
      exact ⟨rfl, rfl⟩
theorem ballOf_no (q k : Int) (hp : part q k = false) (w : World) : Calls Try.prog 153 #[.int .i64 q, .int .i64 k] w fun e w' => e = .returned (.tuple #[.int .i64 0, .bool false]) ∧ w' = w := by
  have HP := Lib.hid (fun W => isPart_any q k W)
  rw [hp] at HP
  clear hp
  go_enter Try.func153, Try.ntmps153
  go_wp2_with (go_at_call 164; refine (HP.out _).mono ?_; rintro e w1 ⟨rfl, rfl⟩)
  go_ret2
  exact ⟨rfl, rfl⟩
end Go.Proofs.Ytpjoljaamakagaa
