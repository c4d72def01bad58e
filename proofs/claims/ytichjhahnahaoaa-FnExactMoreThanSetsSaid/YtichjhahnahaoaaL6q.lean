/- LessQuestion: both. -/
import Derived.Test.YtichjhahnahaoaaL6a
namespace Go.Proofs.Ytichjhahnahaoaa
open Go.RowKit Go.ChangeShapes Go.WideShapes
set_option linter.unusedVariables false

theorem isNumber6_any (n k : Int) (w : World) :
    Calls Try.prog 55 #[.int .i64 n, .int .i64 k] w fun e w' => e = .returned (.bool (inB n 1 12 && inB k 0 (n - 1))) ∧ w' = w := by
  have HC := Lib.hid (fun W => isSize_any n W)
  cases hn : inB n 1 12 with
  | false =>
    rw [hn] at HC
    clear hn
    rw [Bool.false_and]
    go_enter Try.func55, Try.ntmps55
    go_wp2_with (go_at_call 94; refine (HC.out _).mono ?_; rintro e w1 ⟨rfl, rfl⟩)
    go_ret
    exact ⟨rfl, rfl⟩
  | true =>
    rw [hn] at HC
    clear hn
    rw [Bool.true_and]
    by_cases h1 : 0 ≤ k
    · by_cases h2 : k < n
      · rw [inB_t h1 (show k ≤ n - 1 by omega)]
        go_enter Try.func55, Try.ntmps55
        go_wp2_with (go_at_call 94; refine (HC.out _).mono ?_; rintro e w1 ⟨rfl, rfl⟩)
        go_ret
        first | exact ⟨rfl, rfl⟩ | (rw [decide_eq_true (show k < n by omega)]; exact ⟨rfl, rfl⟩)
      · rw [inB_f2 (show ¬ k ≤ n - 1 by omega)]
        go_enter Try.func55, Try.ntmps55
        go_wp2_with (go_at_call 94; refine (HC.out _).mono ?_; rintro e w1 ⟨rfl, rfl⟩)
        go_ret
        first | exact ⟨rfl, rfl⟩ | (rw [decide_eq_false (show ¬ k < n by omega)]; exact ⟨rfl, rfl⟩)
    · rw [inB_f1 h1]
      go_enter Try.func55, Try.ntmps55
      go_wp2_with (go_at_call 94; refine (HC.out _).mono ?_; rintro e w1 ⟨rfl, rfl⟩)
      go_ret
      exact ⟨rfl, rfl⟩

theorem l6Compare_any (n k : Int) (w : World) :
    Calls Try.prog 54 #[.int .i64 n, .int .i64 k] w fun e w' => e = .returned (.bool (inB n 1 12 && inB k 1 (n - 1))) ∧ w' = w := by
  have HC := Lib.hid (fun W => l2Numbers_any n W)
  cases hn : inB n 1 12 with
  | false =>
    rw [hn] at HC
    clear hn
    rw [Bool.false_and]
    go_enter Try.func54, Try.ntmps54
    go_wp2_with fail
    refine (HC.out _).mono ?_
    rintro e w1 ⟨rfl, rfl⟩
    go_wp2
    go_ret
    exact ⟨rfl, rfl⟩
  | true =>
    rw [hn] at HC
    have hb := inB_iff.1 hn
    clear hn
    rw [Bool.true_and]
    have HD := Lib.hid (fun W => l1In_any k 1 (n - 1) W)
    go_enter Try.func54, Try.ntmps54
    go_wp2_with fail
    refine (HC.out _).mono ?_
    rintro e w1 ⟨rfl, rfl⟩
    go_wp2_with fail
    refine (HD.out _).mono ?_
    rintro e w1 ⟨rfl, rfl⟩
    go_wp2
    go_ret
    exact ⟨rfl, rfl⟩
theorem lessQuestion_both (n k : Int) : ∃ (r0 : Int) (r1 : Bool),
    (∀ (w : World), Calls Try.prog 15 #[.int .i64 n, .int .i64 k] w fun e w' => e = .returned (.tuple #[.int .i64 r0, .bool r1]) ∧ Below w.heap.size w w') ∧
    (∀ (w : World), Calls Try.prog 14 #[.int .i64 n, .int .i64 k] w fun e w' => e = .returned (.tuple #[.int .i64 r0, .bool r1]) ∧ Below w.heap.size w w') := by
  have HC := Lib.hid (fun W => isNumber6_any n k W)
  have HD := Lib.hid (fun W => l6Compare_any n k W)
  by_cases hok : (1 ≤ n ∧ n ≤ 12) ∧ 1 ≤ k ∧ k ≤ n - 1
  · rw [inB_t (x := n) hok.1.1 hok.1.2, inB_t (x := k) (by omega) hok.2.2, Bool.true_and] at HC
    rw [inB_t (x := n) hok.1.1 hok.1.2, inB_t (x := k) hok.2.1 hok.2.2, Bool.true_and] at HD
    obtain ⟨i, rfl⟩ : ∃ i : Nat, k = (i : Int) := ⟨k.toNat, by omega⟩
    have HL := Lib.hid (fun W => lessThan_any i W (by omega))
    have hp := pow_le i (by omega)
    have hk0 : ((i : Int) == 0) = false := by rw [beq_eq_false_iff_ne]; omega
    have hi12 : i ≤ 12 := by omega
    refine ⟨(2 : Int) ^ i - 1, true, fun w => ?_, fun w => ?_⟩
    · go_enter Try.func15, Try.ntmps15
      go_wp2_with fail
      refine (HC.out _).mono ?_
      rintro e w1 ⟨rfl, rfl⟩
      go_wp2_with fail
      refine (HL.out _).mono ?_
      rintro e w1 ⟨rfl, rfl⟩
      go_wp2
      go_ret2
      exact ⟨rfl, Below.refl _ _⟩
    · go_enter Try.func14, Try.ntmps14
      go_wp2_with fail
      refine (HD.out _).mono ?_
      rintro e w1 ⟨rfl, rfl⟩
      go_wp2
      go_ret2
      exact ⟨rfl, Below.refl _ _⟩
  · have hD : (inB n 1 12 && inB k 1 (n - 1)) = false := by
      rw [Bool.eq_false_iff]
      intro h
      simp only [Bool.and_eq_true] at h
      have h1 := inB_iff.1 h.1
      have h2 := inB_iff.1 h.2
      exact hok ⟨h1, h2⟩
    rw [hD] at HD
    refine ⟨0, false, fun w => ?_, fun w => ?_⟩
    · cases hn : (inB n 1 12 && inB k 0 (n - 1)) with
      | false =>
        rw [hn] at HC
        clear hn hok hD
        go_enter Try.func15, Try.ntmps15
        go_wp2_with fail
        refine (HC.out _).mono ?_
        rintro e w1 ⟨rfl, rfl⟩
        go_wp2
        go_ret2
        exact ⟨rfl, Below.refl _ _⟩
      | true =>
        obtain rfl : k = 0 := by
          simp only [Bool.and_eq_true] at hn
          have h1 := inB_iff.1 hn.1
          have h2 := inB_iff.1 hn.2
          omega
        rw [hn] at HC
        clear hn hok hD
        go_enter Try.func15, Try.ntmps15
        go_wp2_with fail
        refine (HC.out _).mono ?_
        rintro e w1 ⟨rfl, rfl⟩
        go_wp2
        go_ret2
        exact ⟨rfl, Below.refl _ _⟩
    · clear hok hD
      go_enter Try.func14, Try.ntmps14
      go_wp2_with fail
      refine (HD.out _).mono ?_
      rintro e w1 ⟨rfl, rfl⟩
      go_wp2
      go_ret2
      exact ⟨rfl, Below.refl _ _⟩
end Go.Proofs.Ytichjhahnahaoaa
