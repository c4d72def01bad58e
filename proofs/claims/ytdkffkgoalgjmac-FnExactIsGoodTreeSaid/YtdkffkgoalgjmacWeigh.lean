/- The weight of a State, and of a number of it: both sides. -/
import Derived.Test.YtdkffkgoalgjmacBound
namespace Go.Proofs.Ytdkffkgoalgjmac
open Go.RowKit Go.ChangeShapes Go.WideShapes
set_option linter.unusedVariables false

theorem row_insW {w : World} {g : Nat} {l : List Int} (h : w.heap[g]? = some (.cells (l.map (Value.int .i64)).toArray 3 (0, 0))) : Ins w g (g + 1) (some ⟨g, 0, none⟩) l :=
  ⟨Own.ints (.inr ⟨g, _, rfl, Nat.le_refl _, Nat.lt_succ_self _, h, by simp, fun j x hx => by simp [hx]⟩), row_ltI h⟩
/-- Whether a State and questions ahead are valid. -/
def wOK (zs : List Int) (m q : Int) : Bool := isSt zs m && inB q 0 30
theorem wOK_iff {zs : List Int} {m q : Int} : wOK zs m q = true ↔ isSt zs m = true ∧ 0 ≤ q ∧ q ≤ 30 := by simp [wOK, inB]
theorem wOK_no {zs : List Int} {m q : Int} (h : wOK zs m q = false) : isSt zs m = false ∨ (isSt zs m = true ∧ inB q 0 30 = false) := by
  unfold wOK at h
  cases h1 : isSt zs m with
  | false => exact .inl rfl
  | true => rw [h1, Bool.true_and] at h; exact .inr ⟨rfl, h⟩
end Go.Proofs.Ytdkffkgoalgjmac
