/- Arrays of two integers, compared by the laws' own helper. -/
import Derived.Test.YtlhpbhmldcinmaaAnsW
namespace Go.Proofs.Ytlhpbhmldcinmaa
open Go.RowKit Go.ChangeShapes Go.WideShapes
set_option linter.unusedVariables false

set_option maxRecDepth 100000 in
set_option maxHeartbeats 4000000 in
theorem eqIntA2_same (x y : Int) (w : World) :
    Calls Try.prog 20 #[.agg #[.int .i64 x, .int .i64 y], .agg #[.int .i64 x, .int .i64 y]] w fun e w' => e = .returned (.bool true) ∧ Below w.heap.size w w' := by
  have HT := Lib.hid (Two.new w (.int .i64 x) (.int .i64 y) 28 w.heap.size rfl)
  have HB := Lib.hid ((Below.refl w.heap.size w).alloc (Nat.le_refl _) (.cells #[.int .i64 x, .int .i64 y] 28))
  have HU := Lib.hid (Two.new (w.alloc (.cells #[.int .i64 x, .int .i64 y] 28)) (.int .i64 x) (.int .i64 y) 28 (w.heap.size + 1) (by simp))
  replace HT := Lib.hid (HT.out.step ((Below.refl _ _).alloc (Nat.le_refl _) (.cells #[.int .i64 x, .int .i64 y] 28)))
  replace HB := Lib.hid (HB.out.alloc HB.out.size (.cells #[.int .i64 x, .int .i64 y] 28))
  go_enter Try.func20, Try.ntmps20
  go_wp2_with fail
  generalize (w.alloc (.cells #[.int .i64 x, .int .i64 y] 28)).alloc (.cells #[.int .i64 x, .int .i64 y] 28) = wa at HT HU HB ⊢
  go_loopw [5] (fun i wr => ∃ (k q : Nat), k ≤ 2 ∧ i = .int .i64 k ∧ wr = wa.drewN q) (fun i _ => 2 - (intOf i).toNat)
  case atStart => exact ⟨0, 0, Nat.zero_le _, rfl, rfl⟩
  case round =>
    obtain ⟨k, q, hk, rfl, rfl⟩ := hrel
    have h0 := HT.out.c0
    have h1 := HT.out.c1
    have h2 := HU.out.c0
    have h3 := HU.out.c1
    by_cases k0 : k = 0
    · subst k0
      go_wp2_with fail
      go_quiet (fail)
      go_wp2
      go_roundw
      case rel => exact ⟨1, _, by omega, by go_num, rfl⟩
      case measure => simp [intOf]
    · by_cases k1 : k = 1
      · subst k1
        go_wp2_with fail
        go_quiet (fail)
        go_wp2
        go_roundw
        case rel => exact ⟨2, _, by omega, by go_num, rfl⟩
        case measure => simp [intOf]
      · obtain rfl : k = 2 := by omega
        go_wp2
        go_ret
        exact ⟨rfl, below_drewN HB.out _⟩
end Go.Proofs.Ytlhpbhmldcinmaa
