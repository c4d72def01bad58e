/- The question of numbers. -/
import Derived.Test.YtlhpbhmldcinmaaStates
import Derived.Test.YtlhpbhmldcinmaaQuest
namespace Go.Proofs.Ytlhpbhmldcinmaa
open Go.RowKit Go.ChangeShapes Go.WideShapes
set_option linter.unusedVariables false

def orTo (zs : List Int) : Nat → Int
  | 0 => 0
  | k + 1 => bits .or .i64 (orTo zs k) (2 ^ (zs.getD k 0).toNat)
/-- The first k are all in 0..n-1. -/
def NumTo (zs : List Int) (n : Int) (k : Nat) : Prop := ∀ j (h : j < zs.length), j < k → inB zs[j] 0 (n - 1) = true
def numAll (zs : List Int) (n : Int) : Bool := zs.all fun z => inB z 0 (n - 1)
theorem NumTo.step {zs : List Int} {n : Int} {k : Nat} (h : NumTo zs n k) (hk : k < zs.length) (hb : inB zs[k] 0 (n - 1) = true) : NumTo zs n (k + 1) := fun j hj hlt => by
  by_cases e : j = k
  · subst e; exact hb
  · exact h j hj (by omega)
theorem numAll_yes {zs : List Int} {n : Int} (h : NumTo zs n zs.length) : numAll zs n = true := by
  unfold numAll
  rw [List.all_eq_true]
  intro z hz
  obtain ⟨j, hj, rfl⟩ := List.getElem_of_mem hz
  exact h j hj hj
theorem numAll_no {zs : List Int} {n : Int} {k : Nat} (h : k < zs.length) (hb : inB zs[k] 0 (n - 1) = false) : numAll zs n = false := by
  rw [Bool.eq_false_iff]
  intro ha
  have := List.all_eq_true.1 ha _ (List.getElem_mem h)
  rw [hb] at this; cases this
/-- What QuestionOf answers where the sizes fit. -/
def qAns (zs : List Int) (n : Int) : Int := if numAll zs n = true then orTo zs zs.length else 0

theorem same_below {w w' : World} (h : w' = w) : Below w.heap.size w w' := by subst h; exact Below.refl _ _
end Go.Proofs.Ytlhpbhmldcinmaa
