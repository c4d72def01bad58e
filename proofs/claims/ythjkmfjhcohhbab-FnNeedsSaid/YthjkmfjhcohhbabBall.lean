/- The ways to choose at most so many answers: both loops; WaysOf, BallOf and MostByWeight of both sides. -/
import Derived.Test.YthjkmfjhcohhbabWays
namespace Go.Proofs.Ythjkmfjhcohhbab
open Go.RowKit Go.ChangeShapes Go.WideShapes
set_option linter.unusedVariables false

theorem ball_at {q k j : Nat} (hj : j ≤ min k q + 1) (h : ¬ (j ≤ k ∧ j ≤ q)) : ballTo q j = ball q (min k q) := by
  have : j = min k q + 1 := by omega
  rw [this]; rfl
theorem l3Ball_any (q k : Nat) (hq : q ≤ 30) (hk : k ≤ 1000) (w : World) :
    Calls Try.prog 209 #[.int .i64 (q : Int), .int .i64 (k : Int)] w fun e w' => e = .returned (.int .i64 (ball q (min k q) : Int)) ∧ w' = w := by
  have HE := Lib.hid (fun j => @ball_at q k j)
  generalize ball q (min k q) = r at HE ⊢
  go_enter Try.func209, Try.ntmps209
  go_wp2_with fail
  go_loopw [5, 6] (fun out i wr => ∃ (j : Nat), j ≤ min k q + 1 ∧ i = .int .i64 j ∧ out = .int .i64 (ballTo q j : Int) ∧ wr = w) (fun _ i _ => min k q + 1 - (intOf i).toNat)
  case atStart => exact ⟨0, Nat.zero_le _, rfl, rfl, rfl⟩
  case round =>
    obtain ⟨j, hj, rfl, rfl, rfl⟩ := hrel
    by_cases h1 : j ≤ k
    · by_cases h2 : j ≤ q
      · have hb := ways_bd q j hq h2
        have HC := Lib.hid (fun W => l3Ways_any q j hq h2 W)
        have HS : Hid (((ballTo q j : Nat) : Int) + (ways q j : Int) = (ballTo q (j + 1) : Int)) := by show _ = _; rw [ballTo]; norm_cast
        have h3 : j < min k q + 1 := by omega
        generalize ways q j = x at HC HS hb
        go_wp2_with (go_at_call 208; refine (HC.out _).mono ?_; rintro e w1 ⟨rfl, rfl⟩)
        go_roundw
        case rel => exact ⟨j + 1, by omega, by go_num, by rw [HS.out], by trivial⟩
        case measure => simp [intOf]; omega
      · have HR := Lib.hid (HE.out j hj (by omega))
        go_wp2
        go_ret
        rw [HR.out]
        exact ⟨rfl, rfl⟩
    · have HR := Lib.hid (HE.out j hj (by omega))
      go_wp2
      go_ret
      rw [HR.out]
      exact ⟨rfl, rfl⟩
theorem ballOf_impl (q k : Nat) (hq : q ≤ 30) (hk : k ≤ q) (w : World) :
    Calls Try.prog 99 #[.int .i64 (q : Int), .int .i64 (k : Int)] w fun e w' => e = .returned (.tuple #[.int .i64 (ball q k : Int), .bool true]) ∧ w' = w := by
  have HC := Lib.hid (fun W => isPart_any q k W)
  rw [part_iff.2 ⟨⟨by omega, by omega⟩, by omega, by omega⟩] at HC
  go_enter Try.func99, Try.ntmps99
  go_wp2_with (go_at_call 207; refine (HC.out _).mono ?_; rintro e w1 ⟨rfl, hw⟩; have hw := hw.symm; subst hw)
  go_loopw [6, 16] (fun out i wr => ∃ (j : Nat), j ≤ k + 1 ∧ i = .int .i64 j ∧ out = .int .i64 (ballTo q j : Int) ∧ wr = w) (fun _ i _ => k + 1 - (intOf i).toNat)
  case atStart => exact ⟨0, Nat.zero_le _, rfl, rfl, rfl⟩
  case round =>
    obtain ⟨j, hj, rfl, rfl, rfl⟩ := hrel
    by_cases h1 : j ≤ k
    · have hb := ways_bd q j hq (by omega)
      have HD := Lib.hid (fun W => waysOf_impl q j hq (by omega) W)
      have HS : Hid (((ballTo q j : Nat) : Int) + (ways q j : Int) = (ballTo q (j + 1) : Int)) := by show _ = _; rw [ballTo]; norm_cast
      generalize ways q j = x at HD HS hb
      go_wp2_with (go_at_call 97; refine (HD.out _).mono ?_; rintro e w1 ⟨rfl, rfl⟩)
      go_roundw
      case rel => exact ⟨j + 1, by omega, by go_num, by rw [HS.out], by trivial⟩
      case measure => simp [intOf]; omega
    · obtain rfl : j = k + 1 := by omega
      have HR : Hid (ballTo q (k + 1) = ball q k) := rfl
      go_wp2
      go_ret2
      rw [HR.out]
      exact ⟨rfl, rfl⟩
/-- What WaysOf answers. -/
theorem waysOf_both (q k : Int) : ∃ (r0 : Int) (r1 : Bool),
    (∀ (w : World), Calls Try.prog 97 #[.int .i64 q, .int .i64 k] w fun e w' => e = .returned (.tuple #[.int .i64 r0, .bool r1]) ∧ Below w.heap.size w w') ∧
    (∀ (w : World), Calls Try.prog 98 #[.int .i64 q, .int .i64 k] w fun e w' => e = .returned (.tuple #[.int .i64 r0, .bool r1]) ∧ Below w.heap.size w w') := by
  have HA := Lib.hid (fun W => l3Ahead_any q W)
  have HB := Lib.hid (fun W => l1In_any k 0 q W)
  cases hp : part q k with
  | true =>
    obtain ⟨⟨h1, h2⟩, h3, h4⟩ := part_iff.1 hp
    rw [inB_t h1 h2] at HA
    rw [inB_t h3 h4] at HB
    clear hp
    obtain ⟨a, rfl⟩ : ∃ a : Nat, q = (a : Int) := ⟨q.toNat, by omega⟩
    obtain ⟨b, rfl⟩ : ∃ b : Nat, k = (b : Int) := ⟨k.toNat, by omega⟩
    have HC := Lib.hid (fun W => l3Ways_any a b (by omega) (by omega) W)
    refine ⟨ways a b, true, fun w => (waysOf_impl a b (by omega) (by omega) w).mono (by rintro e w' ⟨rfl, rfl⟩; exact ⟨rfl, Below.refl _ _⟩), fun w => ?_⟩
    go_enter Try.func98, Try.ntmps98
    go_wp2_with (first | (go_at_call 203; refine (HA.out _).mono ?_; rintro e w1 ⟨rfl, rfl⟩) | (go_at_call 129; refine (HB.out _).mono ?_; rintro e w1 ⟨rfl, rfl⟩) | (go_at_call 208; refine (HC.out _).mono ?_; rintro e w1 ⟨rfl, rfl⟩))
    go_ret2
    exact ⟨rfl, Below.refl _ _⟩
  | false =>
    have HP := Lib.hid (fun W => isPart_any q k W)
    rw [hp] at HP
    refine ⟨0, false, fun w => ?_, fun w => ?_⟩
    · clear hp
      go_enter Try.func97, Try.ntmps97
      go_wp2_with (go_at_call 207; refine (HP.out _).mono ?_; rintro e w1 ⟨rfl, rfl⟩)
      go_ret2
      exact ⟨rfl, Below.refl _ _⟩
    · unfold part at hp
      generalize inB q 0 30 = x at HA hp
      generalize inB k 0 q = y at HB hp
      cases x <;> cases y <;> simp at hp <;> clear hp HP
      all_goals
        go_enter Try.func98, Try.ntmps98
        go_wp2_with (first | (go_at_call 203; refine (HA.out _).mono ?_; rintro e w1 ⟨rfl, rfl⟩) | (go_at_call 129; refine (HB.out _).mono ?_; rintro e w1 ⟨rfl, rfl⟩))
        go_ret2
        exact ⟨rfl, Below.refl _ _⟩
theorem ballOf_no (q k : Int) (hp : part q k = false) (w : World) : Calls Try.prog 99 #[.int .i64 q, .int .i64 k] w fun e w' => e = .returned (.tuple #[.int .i64 0, .bool false]) ∧ w' = w := by
  have HP := Lib.hid (fun W => isPart_any q k W)
  rw [hp] at HP
  clear hp
  go_enter Try.func99, Try.ntmps99
  go_wp2_with (go_at_call 207; refine (HP.out _).mono ?_; rintro e w1 ⟨rfl, rfl⟩)
  go_ret2
  exact ⟨rfl, rfl⟩
/-- What BallOf answers. -/
theorem ballOf_both (q k : Int) : ∃ (r0 : Int) (r1 : Bool),
    (∀ (w : World), Calls Try.prog 99 #[.int .i64 q, .int .i64 k] w fun e w' => e = .returned (.tuple #[.int .i64 r0, .bool r1]) ∧ Below w.heap.size w w') ∧
    (∀ (w : World), Calls Try.prog 100 #[.int .i64 q, .int .i64 k] w fun e w' => e = .returned (.tuple #[.int .i64 r0, .bool r1]) ∧ Below w.heap.size w w') := by
  have HA := Lib.hid (fun W => l3Ahead_any q W)
  have HB := Lib.hid (fun W => l1In_any k 0 q W)
  cases hp : part q k with
  | true =>
    obtain ⟨⟨h1, h2⟩, h3, h4⟩ := part_iff.1 hp
    rw [inB_t h1 h2] at HA
    rw [inB_t h3 h4] at HB
    clear hp
    obtain ⟨a, rfl⟩ : ∃ a : Nat, q = (a : Int) := ⟨q.toNat, by omega⟩
    obtain ⟨b, rfl⟩ : ∃ b : Nat, k = (b : Int) := ⟨k.toNat, by omega⟩
    have HC := Lib.hid (fun W => l3Ball_any a b (by omega) (by omega) W)
    rw [show min b a = b by omega] at HC
    refine ⟨ball a b, true, fun w => (ballOf_impl a b (by omega) (by omega) w).mono (by rintro e w' ⟨rfl, rfl⟩; exact ⟨rfl, Below.refl _ _⟩), fun w => ?_⟩
    go_enter Try.func100, Try.ntmps100
    go_wp2_with (first | (go_at_call 203; refine (HA.out _).mono ?_; rintro e w1 ⟨rfl, rfl⟩) | (go_at_call 129; refine (HB.out _).mono ?_; rintro e w1 ⟨rfl, rfl⟩) | (go_at_call 209; refine (HC.out _).mono ?_; rintro e w1 ⟨rfl, rfl⟩))
    go_ret2
    exact ⟨rfl, Below.refl _ _⟩
  | false =>
    refine ⟨0, false, fun w => (ballOf_no q k hp w).mono (by rintro e w' ⟨rfl, rfl⟩; exact ⟨rfl, Below.refl _ _⟩), fun w => ?_⟩
    · unfold part at hp
      generalize inB q 0 30 = x at HA hp
      generalize inB k 0 q = y at HB hp
      cases x <;> cases y <;> simp at hp <;> clear hp
      all_goals
        go_enter Try.func100, Try.ntmps100
        go_wp2_with (first | (go_at_call 203; refine (HA.out _).mono ?_; rintro e w1 ⟨rfl, rfl⟩) | (go_at_call 129; refine (HB.out _).mono ?_; rintro e w1 ⟨rfl, rfl⟩))
        go_ret2
        exact ⟨rfl, Below.refl _ _⟩
end Go.Proofs.Ythjkmfjhcohhbab
