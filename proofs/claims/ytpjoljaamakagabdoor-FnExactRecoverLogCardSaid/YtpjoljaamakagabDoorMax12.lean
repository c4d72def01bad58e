/- The library's limit on lengths is some number. -/
import Derived.Test.YtpjoljaamakagabDoorProg
import Derived.Test.YtpjoljaamakagabDoorShelf
import Derived.WalkKit
import Derived.Below
namespace Go.Proofs.YtpjoljaamakagabDoor
open Go.RowKit
set_option linter.unusedVariables false

def MaxQ (W : World) : Prop := ∃ m, W.cell? ⟨0, 0, none⟩ = some (.int .i64 m)
theorem cell_ltQ {w : World} {a : Addr} {v : Value} (h : w.cell? a = some v) : a.block < w.heap.size := by
  rcases Nat.lt_or_ge a.block w.heap.size with hl | hg
  · exact hl
  · simp [World.cell?, Array.getElem?_eq_none hg] at h
theorem MaxQ.step {W W' : World} (h : MaxQ W) (hb : Below W.heap.size W W') : MaxQ W' := by
  obtain ⟨m, hm⟩ := h
  exact ⟨m, (hb.cell (cell_ltQ hm)).trans hm⟩
end Go.Proofs.YtpjoljaamakagabDoor
