/- The only open number. -/
import Derived.Test.YtpjoljaamakagaaOpenN
namespace Go.Proofs.Ytpjoljaamakagaa
open Go.RowKit Go.ChangeShapes Go.WideShapes
set_option linter.unusedVariables false

/-- The first of a list of one, else -1. -/
def only : List Int → Int
  | [x] => x
  | _ => -1
theorem only_no {l : List Int} (h : l.length ≠ 1) : only l = -1 := by
  match l, h with
  | [], _ => rfl
  | [x], h => simp at h
  | x :: y :: r, _ => rfl
theorem only_yes {l : List Int} (h : l.length = 1) : ∃ x, l = [x] := by
  match l, h with
  | [x], _ => exact ⟨x, rfl⟩
theorem opens_pos {zs : List Int} {x : Int} (h : x ∈ opens zs) : 0 ≤ x := (filt_mem h).1
theorem l1Most_any (x y : Int) (w : World) :
    Calls Try.prog 138 #[.int .i64 x, .int .i64 y] w fun e w' => e = .returned (.int .i64 (if y ≤ x then x else y)) ∧ w' = w := by
  by_cases h : y < x
  · rw [if_pos (by omega)]
    go_enter Try.func138, Try.ntmps138
    go_wp2
    go_ret
    exact ⟨rfl, rfl⟩
  · by_cases h2 : x = y
    · subst h2
      rw [if_pos (by omega)]
      go_enter Try.func138, Try.ntmps138
      go_wp2
      go_ret
      exact ⟨rfl, rfl⟩
    · have h3 : x < y := by omega
      rw [if_neg (by omega)]
      go_enter Try.func138, Try.ntmps138
      go_wp2
      go_ret
      exact ⟨rfl, rfl⟩

theorem told_cell {w : World} {lo hi c : Nat} {A : Option Addr} {x : Int} (h : Res w lo hi A [x]) : ∃ g, A = some ⟨g, 0, none⟩ ∧ w.cell? ⟨g, 0, none⟩ = some (.int .i64 x) := by
  rcases h.own with ⟨_, h⟩ | ⟨g, cur, rfl, _, _, hr, _, hc⟩
  · cases h
  · exact ⟨g, rfl, by rw [row_cellI hr]; exact hc 0 x rfl⟩

end Go.Proofs.Ytpjoljaamakagaa
