/- What IsDoubt, ChanceFalse, ChanceWithin, MeanFalse, ChanceMajority answer. -/
import Derived.Test.YtlhpbhmldcinmaaL7f
import Derived.Test.YtlhpbhmldcinmaaOpenD
namespace Go.Proofs.Ytlhpbhmldcinmaa
open Go.RowKit Go.ChangeShapes Go.WideShapes
set_option linter.unusedVariables false

theorem isDoubt_both (a b : Int) : ∃ (r0 : Bool),
    (∀ (w : World), Calls Try.prog 17 #[.agg #[.int .i64 a, .int .i64 b]] w fun e w' => e = .returned (.bool r0) ∧ Below w.heap.size w w') ∧
    (∀ (w : World), Calls Try.prog 15 #[.agg #[.int .i64 a, .int .i64 b]] w fun e w' => e = .returned (.bool r0) ∧ Below w.heap.size w w') :=
  ⟨dOK a b, fun w => isDoubt_impl a b w, fun w => isDoubt_spec a b w⟩
/-- What is valid, in natural numbers. -/
theorem dmk_nats {m k a b : Int} (h : (dOK a b && mkOK m k) = true) : ∃ A B M K : Nat, a = A ∧ b = B ∧ m = M ∧ k = K ∧ B ≤ 10 ∧ 1 ≤ B ∧ A ≤ B ∧ M ≤ 12 ∧ K ≤ M := by
  rw [Bool.and_eq_true, dOK_iff, mkOK_iff] at h
  exact ⟨a.toNat, b.toNat, m.toNat, k.toNat, by omega, by omega, by omega, by omega, by omega, by omega, by omega, by omega, by omega⟩
theorem chanceFalse_both (m k a b : Int) : ∃ (r0 u0 : Int) (r1 : Bool),
    (∀ (w : World), Calls Try.prog 19 #[.int .i64 m, .int .i64 k, .agg #[.int .i64 a, .int .i64 b]] w fun e w' => e = .returned (.tuple #[.agg #[.int .i64 r0, .int .i64 u0], .bool r1]) ∧ Below w.heap.size w w') ∧
    (∀ (w : World), Calls Try.prog 18 #[.int .i64 m, .int .i64 k, .agg #[.int .i64 a, .int .i64 b]] w fun e w' => e = .returned (.tuple #[.agg #[.int .i64 r0, .int .i64 u0], .bool r1]) ∧ Below w.heap.size w w') := by
  cases h : (dOK a b && mkOK m k) with
  | true =>
    obtain ⟨A, B, M, K, rfl, rfl, rfl, rfl, hb, hb1, ha, hm, hk⟩ := dmk_nats h
    exact ⟨_, _, _, fun w => chanceFalse_impl A B M K hb hb1 ha hm hk w, fun w => chanceFalse_spec A B M K hb hb1 ha hm hk w⟩
  | false => exact ⟨_, _, _, fun w => chanceFalse_impl_no m k a b w h, fun w => chanceFalse_spec_no m k a b w h⟩
theorem chanceWithin_both (m k a b : Int) : ∃ (r0 u0 : Int) (r1 : Bool),
    (∀ (w : World), Calls Try.prog 22 #[.int .i64 m, .int .i64 k, .agg #[.int .i64 a, .int .i64 b]] w fun e w' => e = .returned (.tuple #[.agg #[.int .i64 r0, .int .i64 u0], .bool r1]) ∧ Below w.heap.size w w') ∧
    (∀ (w : World), Calls Try.prog 21 #[.int .i64 m, .int .i64 k, .agg #[.int .i64 a, .int .i64 b]] w fun e w' => e = .returned (.tuple #[.agg #[.int .i64 r0, .int .i64 u0], .bool r1]) ∧ Below w.heap.size w w') := by
  cases h : (dOK a b && mkOK m k) with
  | true =>
    obtain ⟨A, B, M, K, rfl, rfl, rfl, rfl, hb, hb1, ha, hm, hk⟩ := dmk_nats h
    exact ⟨_, _, _, fun w => chanceWithin_impl A B M K hb hb1 ha hm hk w, fun w => chanceWithin_spec A B M K hb hb1 ha hm hk w⟩
  | false => exact ⟨_, _, _, fun w => chanceWithin_impl_no m k a b w h, fun w => chanceWithin_spec_no m k a b w h⟩
theorem meanFalse_both (m a b : Int) : ∃ (r0 u0 : Int) (r1 : Bool),
    (∀ (w : World), Calls Try.prog 24 #[.int .i64 m, .agg #[.int .i64 a, .int .i64 b]] w fun e w' => e = .returned (.tuple #[.agg #[.int .i64 r0, .int .i64 u0], .bool r1]) ∧ Below w.heap.size w w') ∧
    (∀ (w : World), Calls Try.prog 23 #[.int .i64 m, .agg #[.int .i64 a, .int .i64 b]] w fun e w' => e = .returned (.tuple #[.agg #[.int .i64 r0, .int .i64 u0], .bool r1]) ∧ Below w.heap.size w w') := by
  cases h : (dOK a b && mkOK m 0) with
  | true =>
    obtain ⟨A, B, M, K, rfl, rfl, rfl, _, hb, hb1, ha, hm, _⟩ := dmk_nats h
    exact ⟨_, _, _, fun w => meanFalse_impl A B M hb hb1 ha hm w, fun w => meanFalse_spec A B M hb hb1 ha hm w⟩
  | false => exact ⟨_, _, _, fun w => meanFalse_impl_no m a b w (by rw [← mk0]; exact h), fun w => meanFalse_spec_no m a b w h⟩
theorem chanceMajority_both (m a b : Int) : ∃ (r0 u0 : Int) (r1 : Bool),
    (∀ (w : World), Calls Try.prog 41 #[.int .i64 m, .agg #[.int .i64 a, .int .i64 b]] w fun e w' => e = .returned (.tuple #[.agg #[.int .i64 r0, .int .i64 u0], .bool r1]) ∧ Below w.heap.size w w') ∧
    (∀ (w : World), Calls Try.prog 40 #[.int .i64 m, .agg #[.int .i64 a, .int .i64 b]] w fun e w' => e = .returned (.tuple #[.agg #[.int .i64 r0, .int .i64 u0], .bool r1]) ∧ Below w.heap.size w w') := by
  cases h : (dOK a b && mkOK m 0) with
  | true =>
    by_cases h0 : m = 0
    · subst h0
      exact ⟨_, _, _, fun w => chanceMajority_impl_no2 a b w trivial, fun w => chanceMajority_spec_no2 a b w h⟩
    · obtain ⟨A, B, M, K, rfl, rfl, rfl, _, hb, hb1, ha, hm, _⟩ := dmk_nats h
      exact ⟨_, _, _, fun w => chanceMajority_impl A B M hb hb1 ha hm (by omega) w, fun w => chanceMajority_spec A B M hb hb1 ha hm (by omega) w⟩
  | false =>
    refine ⟨_, _, _, fun w => ?_, fun w => chanceMajority_spec_no m a b w h⟩
    rw [mk0] at h
    cases hd : dOK a b with
    | false => exact chanceMajority_impl_no3 m a b w hd
    | true => exact chanceMajority_impl_no1 m a b w (by simpa [hd] using h) trivial
end Go.Proofs.Ytlhpbhmldcinmaa
