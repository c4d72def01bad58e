/- The first state. -/
import Derived.Test.YtpjoljaamakagaaOwn
import Derived.Test.YtpjoljaamakagaaQuest
namespace Go.Proofs.Ytpjoljaamakagaa
open Go.RowKit Go.ChangeShapes Go.WideShapes
set_option linter.unusedVariables false

theorem makeIntsA (n : Nat) (h : n ≤ 1048576) (w : World) :
    (Instr.makeSlice 29 (.int .i64 (n : Int)) (.int .i64 (n : Int))).run Try.prog w = .ok (.slice (some ⟨w.heap.size, 0, none⟩) n n) (w.alloc (.cells (Array.replicate n (Value.int .i64 0)) 3)) := by
  simpa using makeInts n h w
theorem zeros_res (w : World) (n lo g : Nat) (h : lo ≤ g) (hr : w.heap[g]? = some (.cells (Array.replicate n (Value.int .i64 0)) 3 (0, 0))) : Res w lo w.heap.size (some ⟨g, 0, none⟩) (List.replicate n 0) :=
  ⟨.inr ⟨g, _, rfl, h, row_ltI hr, hr, by simp, fun j x hx => by
    have hj : j < n := by
      rcases Nat.lt_or_ge j (List.replicate n (0 : Int)).length with h1 | h1
      · simpa using h1
      · rw [List.getElem?_eq_none h1] at hx; cases hx
    rw [List.getElem?_replicate, if_pos hj] at hx
    injection hx with hx
    subst hx
    rw [Array.getElem?_replicate, if_pos hj]⟩, Nat.le_refl _⟩

set_option maxHeartbeats 1000000 in
theorem l2Start_any (k : Nat) (m : Int) (w : World) (hk : k ≤ 12) :
    Calls Try.prog 143 #[.int .i64 (k : Int), .int .i64 m] w fun e w' => ∃ g, e = .returned (.agg #[.slice (some ⟨g, 0, none⟩) k k, .int .i64 m]) ∧ w.heap.size ≤ g ∧ w'.heap[g]? = some (.cells (Array.replicate k (Value.int .i64 0)) 3 (0, 0)) ∧ Below w.heap.size w w' := by
  have hmk := makeIntsA k (by omega)
  go_enter Try.func143, Try.ntmps143
  go_wp2
  refine bodyPost_ret (v := .agg #[.slice (some ⟨w.heap.size + 1, 0, none⟩) k k, .int .i64 m]) (by simp [results, go_sem]) rfl ?_
  refine ⟨_, rfl, by omega, ?_, ?_⟩
  · exact alloc_row' _ _ _ _ (by simp)
  · exact ((Below.refl _ _).alloc (Nat.le_refl _) _).alloc (by simp) _
end Go.Proofs.Ytpjoljaamakagaa
