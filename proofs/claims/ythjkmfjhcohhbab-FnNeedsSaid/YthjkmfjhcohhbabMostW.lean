/- MostByWeight: both sides. -/
import Derived.Test.YthjkmfjhcohhbabBound
import Derived.Test.YthjkmfjhcohhbabTold
namespace Go.Proofs.Ythjkmfjhcohhbab
open Go.RowKit Go.ChangeShapes Go.WideShapes
set_option linter.unusedVariables false

theorem l1Least_any (x y : Int) (w : World) :
    Calls Try.prog 211 #[.int .i64 x, .int .i64 y] w fun e w' => e = .returned (.int .i64 (if x ≤ y then x else y)) ∧ w' = w := by
  by_cases h : x < y
  · rw [if_pos (by omega)]
    go_enter Try.func211, Try.ntmps211
    go_wp2
    go_ret
    exact ⟨rfl, rfl⟩
  · by_cases h2 : x = y
    · subst h2
      rw [if_pos (by omega)]
      go_enter Try.func211, Try.ntmps211
      go_wp2
      go_ret
      exact ⟨rfl, rfl⟩
    · have h3 : y < x := by omega
      rw [if_neg (by omega)]
      go_enter Try.func211, Try.ntmps211
      go_wp2
      go_ret
      exact ⟨rfl, rfl⟩
/-- Whether most of q answers can be false, and no more than can be at all. -/
def mOK (q k : Int) : Bool := part q k && inB k 0 2
theorem mOK_iff {q k : Int} : mOK q k = true ↔ ((0 ≤ q ∧ q ≤ 30) ∧ 0 ≤ k ∧ k ≤ q) ∧ 0 ≤ k ∧ k ≤ 2 := by
  unfold mOK; rw [Bool.and_eq_true, part_iff, inB_iff]
theorem least_part {q k : Int} (hq : inB q 0 30 = true) : inB k 0 (if (2 : Int) ≤ q then 2 else q) = mOK q k := by
  have := inB_iff.1 hq
  rw [Bool.eq_iff_iff, mOK_iff, inB_iff]
  split <;> omega
theorem mOK_noq {q k : Int} (hq : inB q 0 30 = false) : mOK q k = false := by simp [mOK, part, hq]

set_option maxHeartbeats 4000000 in
theorem mostByWeight_both (q k : Int) : ∃ (r0 : Int) (r1 : Bool),
    (∀ (w : World), Calls Try.prog 105 #[.int .i64 q, .int .i64 k] w fun e w' => e = .returned (.tuple #[.int .i64 r0, .bool r1]) ∧ Below w.heap.size w w') ∧
    (∀ (w : World), Calls Try.prog 106 #[.int .i64 q, .int .i64 k] w fun e w' => e = .returned (.tuple #[.int .i64 r0, .bool r1]) ∧ Below w.heap.size w w') := by
  have HA := Lib.hid (fun W => l3Ahead_any q W)
  have HL := Lib.hid (fun W => l1Least_any 2 q W)
  cases hm : mOK q k with
  | true =>
    have hb := mOK_iff.1 hm
    have h1 : inB q 0 30 = true := inB_t hb.1.1.1 hb.1.1.2
    have HB := Lib.hid (fun W => l1In_any k 0 (if (2 : Int) ≤ q then 2 else q) W)
    rw [least_part h1, hm] at HB
    rw [h1] at HA
    have HC := Lib.hid (fun W => isMost_any k W)
    rw [inB_t hb.2.1 hb.2.2] at HC
    clear h1 hm
    obtain ⟨a, rfl⟩ : ∃ a : Nat, q = (a : Int) := ⟨q.toNat, by omega⟩
    obtain ⟨b, rfl⟩ : ∃ b : Nat, k = (b : Int) := ⟨k.toNat, by omega⟩
    have ha : a ≤ 30 := by omega
    have hba : b ≤ a := by omega
    have HD := Lib.hid (fun W => ballOf_impl a b ha hba W)
    have HE := Lib.hid (fun W => l3Ball_any a b ha (by omega) W)
    rw [show min b a = b by omega] at HE
    have hp := pow_le30 a ha
    have HP := Lib.hid (wrap_pow30 a ha)
    have h1 := ball_bd a b ha hba
    have h2 := ball_pos a b ha hba
    have hx : 1 ≤ ((ball a b : Nat) : Int) ∧ ((ball a b : Nat) : Int) ≤ 1073741824 := by omega
    generalize ((ball a b : Nat) : Int) = x at HD HE hx
    generalize (if (2 : Int) ≤ (a : Int) then 2 else (a : Int)) = y at HL HB
    clear hb h1 h2
    refine ⟨2 ^ a / x, true, fun w => ?_, fun w => ?_⟩
    · go_enter Try.func105, Try.ntmps105
      go_wp2_with (first | (go_at_call 99; refine (HD.out _).mono ?_; rintro e w1 ⟨rfl, rfl⟩) | (go_at_call 154; refine (HC.out _).mono ?_; rintro e w1 ⟨rfl, rfl⟩))
      go_ret2
      exact ⟨rfl, Below.refl _ _⟩
    · go_enter Try.func106, Try.ntmps106
      go_wp2_with (first | (go_at_call 203; refine (HA.out _).mono ?_; rintro e w1 ⟨rfl, rfl⟩) | (go_at_call 211; refine (HL.out _).mono ?_; rintro e w1 ⟨rfl, rfl⟩) | (go_at_call 129; refine (HB.out _).mono ?_; rintro e w1 ⟨rfl, rfl⟩))
      go_region_with (go_at_call 209; refine (HE.out _).mono ?_; rintro e w1 ⟨rfl, rfl⟩)
      all_goals
        go_wp2
        go_ret2
        exact ⟨rfl, (Below.refl _ _).drew⟩
  | false =>
    refine ⟨0, false, fun w => ?_, fun w => ?_⟩
    · by_cases hp : part q k = true
      · obtain ⟨⟨h1, h2⟩, h3, h4⟩ := part_iff.1 hp
        have h5 : inB k 0 2 = false := by simpa [mOK, hp] using hm
        have HC := Lib.hid (fun W => isMost_any k W)
        rw [h5] at HC
        obtain ⟨a, rfl⟩ : ∃ a : Nat, q = (a : Int) := ⟨q.toNat, by omega⟩
        obtain ⟨b, rfl⟩ : ∃ b : Nat, k = (b : Int) := ⟨k.toNat, by omega⟩
        have HD := Lib.hid (fun W => ballOf_impl a b (by omega) (by omega) W)
        clear hm hp h5 HA HL
        go_enter Try.func105, Try.ntmps105
        go_wp2_with (first | (go_at_call 99; refine (HD.out _).mono ?_; rintro e w1 ⟨rfl, rfl⟩) | (go_at_call 154; refine (HC.out _).mono ?_; rintro e w1 ⟨rfl, rfl⟩))
        go_ret2
        exact ⟨rfl, Below.refl _ _⟩
      · have HD := Lib.hid (fun W => ballOf_no q k (by simpa using hp) W)
        clear hm hp HA HL
        go_enter Try.func105, Try.ntmps105
        go_wp2_with (first | (go_at_call 99; refine (HD.out _).mono ?_; rintro e w1 ⟨rfl, rfl⟩))
        go_ret2
        exact ⟨rfl, Below.refl _ _⟩
    · cases hq : inB q 0 30 with
      | true =>
        have HB := Lib.hid (fun W => l1In_any k 0 (if (2 : Int) ≤ q then 2 else q) W)
        rw [least_part hq, hm] at HB
        rw [hq] at HA
        generalize (if (2 : Int) ≤ q then 2 else q) = y at HL HB
        clear hm hq
        go_enter Try.func106, Try.ntmps106
        go_wp2_with (first | (go_at_call 203; refine (HA.out _).mono ?_; rintro e w1 ⟨rfl, rfl⟩) | (go_at_call 211; refine (HL.out _).mono ?_; rintro e w1 ⟨rfl, rfl⟩) | (go_at_call 129; refine (HB.out _).mono ?_; rintro e w1 ⟨rfl, rfl⟩))
        go_ret2
        exact ⟨rfl, Below.refl _ _⟩
      | false =>
        rw [hq] at HA
        clear hm hq HL
        go_enter Try.func106, Try.ntmps106
        go_wp2_with (first | (go_at_call 203; refine (HA.out _).mono ?_; rintro e w1 ⟨rfl, rfl⟩))
        go_ret2
        exact ⟨rfl, Below.refl _ _⟩
end Go.Proofs.Ythjkmfjhcohhbab
