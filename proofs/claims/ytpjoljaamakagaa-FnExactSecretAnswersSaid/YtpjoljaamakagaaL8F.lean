/- The answerer of the specification: the state at the end of answers, how many lists leave so many open. -/
import Derived.Test.YtpjoljaamakagaaL8E
import Derived.Test.YtpjoljaamakagaaOpenN
namespace Go.Proofs.Ytpjoljaamakagaa
open Go.RowKit Go.ChangeShapes Go.WideShapes Go.Maps
set_option linter.unusedVariables false

/-- Where a state at the end lies: it is the one that was handed in, or its numbers lie in a new block. -/
def EndAt (w : World) (B : Nat) (A : Option Addr) (c : Nat) (A' : Option Addr) (c' : Nat) (z : List Int) (k : Nat) : Prop :=
  (k = 0 ∧ A' = A ∧ c' = c) ∨ ∃ g, A' = some ⟨g, 0, none⟩ ∧ B ≤ g ∧ Own w g (g + 1) (some ⟨g, 0, none⟩) z
theorem EndAt.ins {w : World} {B k c c' lo hi : Nat} {A A' : Option Addr} {m : Int} {zs qs : List Int} {bs : List Bool} (h : EndAt w B A c A' c' (endZ m zs (qs.take k) (bs.take k)) k) (hI : Ins w lo hi A zs) :
    ∃ lo' hi', Ins w lo' hi' A' (endZ m zs (qs.take k) (bs.take k)) := by
  rcases h with ⟨rfl, rfl, rfl⟩ | ⟨g, rfl, hg, ho⟩
  · exact ⟨lo, hi, by simpa [endZ] using hI⟩
  · exact ⟨g, g + 1, ho.ints, own_lt ho⟩
theorem EndAt.same {w w' : World} {B k c c' : Nat} {A A' : Option Addr} {z : List Int} (h : EndAt w B A c A' c' z k) (hp : ∀ i, B ≤ i → i < w.heap.size → w'.heap[i]? = w.heap[i]?) : EndAt w' B A c A' c' z k := by
  rcases h with h | ⟨g, rfl, hg, ho⟩
  · exact .inl h
  · exact .inr ⟨g, rfl, hg, own_same ho (hp g hg (own_lt ho))⟩
end Go.Proofs.Ytpjoljaamakagaa
