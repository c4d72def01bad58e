/- LessWorst: of the specification; both. -/
import Derived.Test.YtnomgnjfamideabL6w
import Derived.Test.YtnomgnjfamideabL6B
namespace Go.Proofs.Ytnomgnjfamideab
open Go.RowKit Go.ChangeShapes Go.WideShapes Go.Maps
set_option linter.unusedVariables false

/-- The state at hand: the argument's, or one of the call's own. -/
def SI (n : Nat) (wr : World) (A : Option Addr) (lo hi : Nat) (L : List Int) : Prop :=
  (Ins wr lo hi A L ∧ hi ≤ n) ∨ ∃ g, A = some ⟨g, 0, none⟩ ∧ lo = g ∧ hi = g + 1 ∧ Own wr g (g + 1) (some ⟨g, 0, none⟩) L
theorem SI.ins {n : Nat} {wr : World} {A : Option Addr} {lo hi : Nat} {L : List Int} (h : SI n wr A lo hi L) : Ins wr lo hi A L := by
  rcases h with h | ⟨g, rfl, rfl, rfl, h⟩
  · exact h.1
  · exact own_insB h
theorem SI.step {n : Nat} {wr w' : World} {A : Option Addr} {lo hi : Nat} {L : List Int} (h : SI n wr A lo hi L) (hb : Below wr.heap.size wr w') : SI n w' A lo hi L := by
  rcases h with h | ⟨g, rfl, rfl, rfl, h⟩
  · exact .inl ⟨h.1.step hb, h.2⟩
  · exact .inr ⟨_, rfl, rfl, rfl, own_same h (hb.block _ (own_lt h))⟩
theorem SI.grown {n k : Nat} {wr w' : World} {A : Option Addr} {lo hi : Nat} {L : List Int} {v : Value} {xs : List Value} {o : Obj} (h : SI n wr A lo hi L) (hr : wr.ownsRow (n + 1) 4 1 v k xs) (hg : (wr.alloc o).grownBy w' v.ownBlock) : SI n w' A lo hi L := by
  rcases h with h | ⟨g, rfl, rfl, rfl, h⟩
  · exact .inl ⟨h.1.past (Past.grown hr hg) (by omega), h.2⟩
  · exact .inr ⟨_, rfl, rfl, rfl, grown_own6 hr h (by decide) hg⟩
structure WS (w : World) (n gn : Nat) (M : Nat) (zs : List Int) (i : Nat) (A : Option Addr) (c lo hi : Nat) (v : Value) (wr : World) : Prop where
  bx : Two wr n (.slice A zs.length c) (.int .i64 (M : Int)) 44
  si : SI n wr A lo hi (wSt M zs i)
  nd : Own wr gn (gn + 1) (some ⟨gn, 0, none⟩) (needsL M zs.length)
  row : wr.ownsRow (n + 1) 4 1 v (wL M zs i).length ((wL M zs i).map Value.bool)
  bl : Below w.heap.size w wr

theorem empty_resB (w : World) (lo : Nat) (h : lo ≤ w.heap.size) : BRes (w.alloc (.cells #[] 4)) lo (w.alloc (.cells #[] 4)).heap.size (some ⟨w.heap.size, 0, none⟩) [] :=
  ⟨.inr ⟨w.heap.size, #[], rfl, h, by simp, alloc_row w _ _, by simp, fun j x hx => by simp at hx⟩, Nat.le_refl _⟩
theorem own_ansB {w w' : World} {v : Value} {bs : List Bool} {b : Bool} {e : Ending} (he : e = .returned (.tuple #[v, .bool b])) (ho : w'.ownsRow w.heap.size 4 1 v bs.length (bs.map Value.bool)) (hb : Below w.heap.size w w') :
    ∃ B c', e = .returned (.tuple #[.slice B bs.length c', .bool b]) ∧ BRes w' w.heap.size w'.heap.size B bs ∧ Below w.heap.size w w' := by
  obtain ⟨A, c, rfl, hr⟩ := own_resB ho rfl
  exact ⟨A, c, he, hr, hb⟩
end Go.Proofs.Ytnomgnjfamideab
