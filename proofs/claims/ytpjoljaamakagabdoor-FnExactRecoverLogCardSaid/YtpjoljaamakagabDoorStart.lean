/- The first state. -/
import Derived.Test.YtpjoljaamakagabDoorOwn
import Derived.Test.YtpjoljaamakagabDoorQuest
namespace Go.Proofs.YtpjoljaamakagabDoor
open Go.RowKit Go.ChangeShapes Go.WideShapes
set_option linter.unusedVariables false

theorem makeIntsA (n : Nat) (h : n ≤ 1048576) (w : World) :
    (Instr.makeSlice 90 (.int .i64 (n : Int)) (.int .i64 (n : Int))).run Tryd.prog w = .ok (.slice (some ⟨w.heap.size, 0, none⟩) n n) (w.alloc (.cells (Array.replicate n (Value.int .i64 0)) 3)) := by
  simpa using makeInts n h w
theorem zeros_res (w : World) (n lo g : Nat) (h : lo ≤ g) (hr : w.heap[g]? = some (.cells (Array.replicate n (Value.int .i64 0)) 3 (0, 0))) : Res w lo w.heap.size (some ⟨g, 0, none⟩) (List.replicate n 0) :=
  ⟨.inr ⟨g, _, rfl, h, row_ltI hr, hr, by simp, fun j x hx => by
    have hj : j < n := by
      rcases Nat.lt_or_ge j (List.replicate n (0 : Int)).length with h1 | h1
      · simpa using h1
      · rw [List.getElem?_eq_none h1] at hx; cases hx
    rw [List.getElem?_replicate, if_pos hj] at hx
    injection hx with hx
    subst hx
    rw [Array.getElem?_replicate, if_pos hj]⟩, Nat.le_refl _⟩

end Go.Proofs.YtpjoljaamakagabDoor
