/- States: the laws' own helpers over them, and which ones are valid. -/
import Derived.Test.YtlhpbhmldcinmaaInts
import Derived.Deep.RegionHeld3
import Derived.Deep.RegionWith
namespace Go.Proofs.Ytlhpbhmldcinmaa
open Go.RowKit Go.ChangeShapes Go.WideShapes
set_option linter.unusedVariables false

/-- x in a..b. -/
def inB (x a b : Int) : Bool := decide (a ≤ x) && decide (x ≤ b)
theorem inB_t {x a b : Int} (h1 : a ≤ x) (h2 : x ≤ b) : inB x a b = true := by simp [inB, h1, h2]
theorem inB_f1 {x a b : Int} (h1 : ¬ a ≤ x) : inB x a b = false := by simp [inB, h1]
theorem inB_f2 {x a b : Int} (h1 : ¬ x ≤ b) : inB x a b = false := by simp [inB, h1]
theorem inB_iff {x a b : Int} : inB x a b = true ↔ a ≤ x ∧ x ≤ b := by simp [inB]

theorem l1In_any (x a b : Int) (w : World) :
    Calls Try.prog 89 #[.int .i64 x, .int .i64 a, .int .i64 b] w fun e w' => e = .returned (.bool (inB x a b)) ∧ w' = w := by
  by_cases h1 : a ≤ x
  · by_cases h2 : x ≤ b
    · rw [inB_t h1 h2]
      go_enter Try.func89, Try.ntmps89
      go_wp2
      go_ret
      exact ⟨rfl, rfl⟩
    · rw [inB_f2 h2]
      go_enter Try.func89, Try.ntmps89
      go_wp2
      go_ret
      exact ⟨rfl, rfl⟩
  · rw [inB_f1 h1]
    go_enter Try.func89, Try.ntmps89
    go_wp2
    go_ret
    exact ⟨rfl, rfl⟩
theorem l2Numbers_any (n : Int) (w : World) :
    Calls Try.prog 99 #[.int .i64 n] w fun e w' => e = .returned (.bool (inB n 1 12)) ∧ w' = w := by
  go_enter Try.func99, Try.ntmps99
  go_wp2_with fail
  refine (l1In_any n 1 12 w).mono ?_
  rintro e w' ⟨rfl, rfl⟩
  go_wp2
  go_ret
  exact ⟨rfl, rfl⟩
theorem isSize_any (x : Int) (w : World) :
    Calls Try.prog 100 #[.int .i64 x] w fun e w' => e = .returned (.bool (inB x 1 12)) ∧ w' = w := by
  by_cases h1 : 1 ≤ x
  · by_cases h2 : x ≤ 12
    · rw [inB_t h1 h2]
      go_enter Try.func100, Try.ntmps100
      go_wp2
      go_ret
      exact ⟨rfl, rfl⟩
    · rw [inB_f2 h2]
      go_enter Try.func100, Try.ntmps100
      go_wp2
      go_ret
      exact ⟨rfl, rfl⟩
  · rw [inB_f1 h1]
    go_enter Try.func100, Try.ntmps100
    go_wp2
    go_ret
    exact ⟨rfl, rfl⟩
/-- Which states are valid. -/
def isSt (zs : List Int) (m : Int) : Bool := inB zs.length 1 12 && inB m 0 2 && zs.all fun z => inB z (-1) m
theorem isSt_bad {zs : List Int} {m : Int} {k : Nat} (h : k < zs.length) (hb : inB zs[k] (-1) m = false) : isSt zs m = false := by
  have : (zs.all fun z => inB z (-1) m) = false := by
    rw [Bool.eq_false_iff]
    intro ha
    have := List.all_eq_true.1 ha _ (List.getElem_mem h)
    rw [hb] at this; cases this
  simp [isSt, this]
/-- The first k are all in -1..m. -/
def FitTo (zs : List Int) (m : Int) (k : Nat) : Prop := ∀ j (h : j < zs.length), j < k → inB zs[j] (-1) m = true
theorem FitTo.zero {zs : List Int} {m : Int} : FitTo zs m 0 := fun j _ h => absurd h (by omega)
theorem FitTo.step {zs : List Int} {m : Int} {k : Nat} (h : FitTo zs m k) (hk : k < zs.length) (hb : inB zs[k] (-1) m = true) : FitTo zs m (k + 1) := fun j hj hlt => by
  by_cases e : j = k
  · subst e; exact hb
  · exact h j hj (by omega)
theorem FitTo.isSt {zs : List Int} {m : Int} {k : Nat} (h : FitTo zs m k) (hk : zs.length ≤ k ∨ 13 ≤ k) : isSt zs m = (inB zs.length 1 12 && inB m 0 2) := by
  unfold Go.Proofs.Ytlhpbhmldcinmaa.isSt
  by_cases hl : zs.length ≤ 12
  · have : (zs.all fun z => inB z (-1) m) = true := by
      rw [List.all_eq_true]
      intro z hz
      obtain ⟨j, hj, rfl⟩ := List.getElem_of_mem hz
      exact h j hj (by omega)
    rw [this, Bool.and_true]
  · rw [inB_f2 (x := (zs.length : Int)) (a := 1) (b := 12) (by omega)]; rfl

/-- A state's value. -/
def stV (A : Option Addr) (n c : Nat) (m : Int) : Value := .agg #[.slice A n c, .int .i64 m]
end Go.Proofs.Ytlhpbhmldcinmaa
