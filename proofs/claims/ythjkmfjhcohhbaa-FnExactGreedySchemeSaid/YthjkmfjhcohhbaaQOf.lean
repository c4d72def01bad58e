/- The question of numbers. -/
import Derived.Test.YthjkmfjhcohhbaaStates
import Derived.Test.YthjkmfjhcohhbaaQuest
namespace Go.Proofs.Ythjkmfjhcohhbaa
open Go.RowKit Go.ChangeShapes Go.WideShapes
set_option linter.unusedVariables false

def orTo (zs : List Int) : Nat → Int
  | 0 => 0
  | k + 1 => bits .or .i64 (orTo zs k) (2 ^ (zs.getD k 0).toNat)
theorem isNumber_any (n k : Int) (w : World) (hn : inB n 1 12 = true) :
    Calls Try.prog 49 #[.int .i64 n, .int .i64 k] w fun e w' => e = .returned (.bool (inB k 0 (n - 1))) ∧ w' = w := by
  have HC := Lib.hid (fun W => isSize_any n W)
  rw [hn] at HC
  by_cases h1 : 0 ≤ k
  · by_cases h2 : k < n
    · rw [inB_t h1 (by omega)]
      clear hn
      go_enter Try.func49, Try.ntmps49
      go_wp2_with (go_at_call 44; refine (HC.out _).mono ?_; rintro e w1 ⟨rfl, rfl⟩)
      go_ret
      first | exact ⟨rfl, rfl⟩ | (rw [decide_eq_true (show k < n by omega)]; exact ⟨rfl, rfl⟩)
    · rw [inB_f2 (show ¬ k ≤ n - 1 by omega)]
      clear hn
      go_enter Try.func49, Try.ntmps49
      go_wp2_with (go_at_call 44; refine (HC.out _).mono ?_; rintro e w1 ⟨rfl, rfl⟩)
      go_ret
      first | exact ⟨rfl, rfl⟩ | (rw [decide_eq_false (show ¬ k < n by omega)]; exact ⟨rfl, rfl⟩)
  · rw [inB_f1 h1]
    clear hn
    go_enter Try.func49, Try.ntmps49
    go_wp2_with (go_at_call 44; refine (HC.out _).mono ?_; rintro e w1 ⟨rfl, rfl⟩)
    go_ret
    exact ⟨rfl, rfl⟩

/-- The first k are all in 0..n-1. -/
def NumTo (zs : List Int) (n : Int) (k : Nat) : Prop := ∀ j (h : j < zs.length), j < k → inB zs[j] 0 (n - 1) = true
def numAll (zs : List Int) (n : Int) : Bool := zs.all fun z => inB z 0 (n - 1)
theorem NumTo.step {zs : List Int} {n : Int} {k : Nat} (h : NumTo zs n k) (hk : k < zs.length) (hb : inB zs[k] 0 (n - 1) = true) : NumTo zs n (k + 1) := fun j hj hlt => by
  by_cases e : j = k
  · subst e; exact hb
  · exact h j hj (by omega)
theorem numAll_yes {zs : List Int} {n : Int} (h : NumTo zs n zs.length) : numAll zs n = true := by
  unfold numAll
  rw [List.all_eq_true]
  intro z hz
  obtain ⟨j, hj, rfl⟩ := List.getElem_of_mem hz
  exact h j hj hj
theorem numAll_no {zs : List Int} {n : Int} {k : Nat} (h : k < zs.length) (hb : inB zs[k] 0 (n - 1) = false) : numAll zs n = false := by
  rw [Bool.eq_false_iff]
  intro ha
  have := List.all_eq_true.1 ha _ (List.getElem_mem h)
  rw [hb] at this; cases this
/-- What QuestionOf answers where the sizes fit. -/
def qAns (zs : List Int) (n : Int) : Int := if numAll zs n = true then orTo zs zs.length else 0

theorem same_below {w w' : World} (h : w' = w) : Below w.heap.size w w' := by subst h; exact Below.refl _ _
end Go.Proofs.Ythjkmfjhcohhbaa
