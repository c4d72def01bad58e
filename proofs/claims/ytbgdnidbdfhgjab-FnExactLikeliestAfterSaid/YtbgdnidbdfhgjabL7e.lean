/- Chances: sums of draws, of the specification. -/
import Derived.Test.YtbgdnidbdfhgjabL7d
namespace Go.Proofs.Ytbgdnidbdfhgjab
open Go.RowKit Go.ChangeShapes Go.WideShapes
set_option linter.unusedVariables false

theorem l7Power_b (x k : Nat) (hx : x ≤ 10) (hk : k ≤ 12) (w : World) :
    Calls Try.prog 176 #[.int .i64 (x : Int), .int .i64 (k : Int)] w fun e w' => e = .returned (.int .i64 ((x ^ k : Nat) : Int)) ∧ Below w.heap.size w w' :=
  (l7Power_any x k hx hk w).mono fun e w' h => ⟨h.1, by rw [h.2]; exact Below.refl _ _⟩
theorem wdS_next (a b m k : Nat) : ((sumF (wd a b m) k : Nat) : Int) + ((ways m k : Nat) : Int) * ((dr a b m k : Nat) : Int) = ((sumF (wd a b m) (k + 1) : Nat) : Int) := by
  rw [wd_cast]; exact sumF_next _ _
theorem wdS_bd (a b m k : Nat) (hb : b ≤ 10) (ha : a ≤ b) (hm : m ≤ 12) (hk : k ≤ m + 1) : sumF (wd a b m) k ≤ 1000000000000 := by
  have h1 := sumF_mono (wd a b m) hk
  rw [wd_all a b m hb ha hm] at h1
  exact Nat.le_trans h1 (pow_bd b m hb hm)
end Go.Proofs.Ytbgdnidbdfhgjab
