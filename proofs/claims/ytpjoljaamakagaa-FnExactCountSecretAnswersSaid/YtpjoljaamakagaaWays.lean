/- How many ways there are to choose answers: the numbers, and both loops. -/
import Derived.Test.YtpjoljaamakagaaQuest
namespace Go.Proofs.Ytpjoljaamakagaa
open Go.RowKit Go.ChangeShapes Go.WideShapes
set_option linter.unusedVariables false

def ways (q : Nat) : Nat → Nat
  | 0 => 1
  | k + 1 => ways q k * (q - k) / (k + 1)
def ballTo (q : Nat) : Nat → Nat
  | 0 => 0
  | k + 1 => ballTo q k + ways q k
/-- The ways in which at most k of q answers can be chosen. -/
def ball (q k : Nat) : Nat := ballTo q (k + 1)
theorem ways_bd (q k : Nat) (hq : q ≤ 30) (hk : k ≤ q) : ways q k * (q - k) ≤ 1099511627776 ∧ ways q k ≤ 1073741824 ∧ ballTo q k ≤ 1073741824 ∧ ballTo q (k + 1) ≤ 1073741824 := by
  have : ∀ q, q ≤ 30 → ∀ k, k ≤ q → (ways q k * (q - k) ≤ 1099511627776 ∧ ways q k ≤ 1073741824 ∧ ballTo q k ≤ 1073741824 ∧ ballTo q (k + 1) ≤ 1073741824) := by decide +kernel
  exact this q hq k hk
theorem ways_prod (q k : Nat) (hk : k ≤ q) : (ways q k : Int) * ((q : Int) - (k : Int)) = ((ways q k * (q - k) : Nat) : Int) := by
  rw [show ((q : Int) - (k : Int)) = ((q - k : Nat) : Int) by omega]
  norm_cast
theorem ways_step (q k : Nat) (hk : k ≤ q) : (ways q k : Int) * ((q : Int) - (k : Int)) / ((k : Int) + 1) = ((ways q (k + 1) : Nat) : Int) := by
  rw [ways_prod q k hk, ways]
  norm_cast
theorem ball_bd (q k : Nat) (hq : q ≤ 30) (hk : k ≤ q) : ball q k ≤ 1073741824 := (ways_bd q k hq hk).2.2.2
theorem ball_pos (q k : Nat) (hq : q ≤ 30) (hk : k ≤ q) : 1 ≤ ball q k := by
  have : ∀ q, q ≤ 30 → ∀ k, k ≤ q → 1 ≤ ball q k := by decide +kernel
  exact this q hq k hk
/-- Whether k is a number of q answers. -/
def part (q k : Int) : Bool := inB q 0 30 && inB k 0 q
theorem part_iff {q k : Int} : part q k = true ↔ (0 ≤ q ∧ q ≤ 30) ∧ 0 ≤ k ∧ k ≤ q := by simp [part, inB]

theorem isAhead_any (q : Int) (w : World) :
    Calls Try.prog 152 #[.int .i64 q] w fun e w' => e = .returned (.bool (inB q 0 30)) ∧ w' = w := by
  by_cases h1 : 0 ≤ q
  · by_cases h2 : q ≤ 30
    · rw [inB_t h1 h2]
      go_enter Try.func152, Try.ntmps152
      go_wp2
      go_ret
      exact ⟨rfl, rfl⟩
    · rw [inB_f2 h2]
      go_enter Try.func152, Try.ntmps152
      go_wp2
      go_ret
      exact ⟨rfl, rfl⟩
  · rw [inB_f1 h1]
    go_enter Try.func152, Try.ntmps152
    go_wp2
    go_ret
    exact ⟨rfl, rfl⟩
theorem isPart_any (q k : Int) (w : World) :
    Calls Try.prog 164 #[.int .i64 q, .int .i64 k] w fun e w' => e = .returned (.bool (part q k)) ∧ w' = w := by
  have HC := Lib.hid (fun W => isAhead_any q W)
  cases hq : inB q 0 30 with
  | false =>
    rw [hq] at HC
    rw [show part q k = false by simp [part, hq]]
    clear hq
    go_enter Try.func164, Try.ntmps164
    go_wp2_with (go_at_call 152; refine (HC.out _).mono ?_; rintro e w1 ⟨rfl, rfl⟩)
    go_ret
    exact ⟨rfl, rfl⟩
  | true =>
    rw [hq] at HC
    rw [show part q k = inB k 0 q by simp [part, hq]]
    clear hq
    by_cases h1 : 0 ≤ k
    · by_cases h2 : k ≤ q
      · rw [inB_t h1 h2]
        go_enter Try.func164, Try.ntmps164
        go_wp2_with (go_at_call 152; refine (HC.out _).mono ?_; rintro e w1 ⟨rfl, rfl⟩)
        go_ret
        exact ⟨rfl, rfl⟩
      · rw [inB_f2 h2]
        go_enter Try.func164, Try.ntmps164
        go_wp2_with (go_at_call 152; refine (HC.out _).mono ?_; rintro e w1 ⟨rfl, rfl⟩)
        go_ret
        exact ⟨by simp [h2], rfl⟩
    · rw [inB_f1 h1]
      go_enter Try.func164, Try.ntmps164
      go_wp2_with (go_at_call 152; refine (HC.out _).mono ?_; rintro e w1 ⟨rfl, rfl⟩)
      go_ret
      exact ⟨rfl, rfl⟩

theorem waysOf_impl (q k : Nat) (hq : q ≤ 30) (hk : k ≤ q) (w : World) :
    Calls Try.prog 165 #[.int .i64 (q : Int), .int .i64 (k : Int)] w fun e w' => e = .returned (.tuple #[.int .i64 (ways q k : Int), .bool true]) ∧ w' = w := by
  have HC := Lib.hid (fun W => isPart_any q k W)
  rw [part_iff.2 ⟨⟨by omega, by omega⟩, by omega, by omega⟩] at HC
  go_enter Try.func165, Try.ntmps165
  go_wp2_with (go_at_call 164; refine (HC.out _).mono ?_; rintro e w1 ⟨rfl, hw⟩; have hw := hw.symm; subst hw)
  go_loopw [6, 13] (fun out i wr => ∃ (j : Nat), j ≤ k ∧ i = .int .i64 j ∧ out = .int .i64 (ways q j : Int) ∧ wr = w) (fun _ i _ => k - (intOf i).toNat)
  case atStart => exact ⟨0, Nat.zero_le _, rfl, rfl, rfl⟩
  case round =>
    obtain ⟨j, hj, rfl, rfl, rfl⟩ := hrel
    by_cases hlt : j < k
    · have hb := ways_bd q j hq (by omega)
      have hp := ways_prod q j (by omega)
      have HS := Lib.hid (ways_step q j (by omega))
      have hpb : 0 ≤ (ways q j : Int) * ((q : Int) - (j : Int)) ∧ (ways q j : Int) * ((q : Int) - (j : Int)) ≤ 1099511627776 := by omega
      clear hb hp
      go_wp2
      go_roundw
      case rel => exact ⟨j + 1, by omega, by go_num, by rw [HS.out], by trivial⟩
      case measure => simp [intOf]; omega
    · obtain rfl : j = k := by omega
      go_wp2
      go_ret2
      exact ⟨rfl, rfl⟩
end Go.Proofs.Ytpjoljaamakagaa
