/- What the laws' helpers do with states: copies, comparison, marks. -/
import Derived.Test.YtpjoljaamakagabDoorState
namespace Go.Proofs.YtpjoljaamakagabDoor
open Go.RowKit Go.ChangeShapes Go.WideShapes
set_option linter.unusedVariables false

/-- A struct of two cells that the call keeps in a block of its own, behind the start's. -/
structure Arg (W w : World) (b : Nat) (x y : Value) : Prop where
  below : Below W.heap.size W w
  c0 : w.cell? ⟨b, 0, none⟩ = some x
  c1 : w.cell? ⟨b, 1, none⟩ = some y
  lo : W.heap.size ≤ b
  hi : b < w.heap.size
theorem Arg.step {W w w' : World} {b : Nat} {x y : Value} (h : Arg W w b x y) (hb : Below w.heap.size w w') : Arg W w' b x y :=
  ⟨below_trans h.below hb, (hb.cell (p := ⟨b, 0, none⟩) h.hi).trans h.c0, (hb.cell (p := ⟨b, 1, none⟩) h.hi).trans h.c1, h.lo, Nat.lt_of_lt_of_le h.hi hb.size⟩
theorem Arg.within {W w w' : World} {b lo hi : Nat} {x y : Value} (h : Arg W w b x y) (hb : Within lo hi w w') (hl : W.heap.size ≤ lo ∧ (b < lo ∨ hi ≤ b)) : Arg W w' b x y :=
  ⟨h.below.trans (hb.below hl.1 h.below.size), (World.cell?_of_block (hb.block b h.hi hl.2)).trans h.c0, (World.cell?_of_block (hb.block b h.hi hl.2)).trans h.c1, h.lo, Nat.lt_of_lt_of_le h.hi hb.size⟩
theorem Arg.next {W w : World} (hb : Below W.heap.size W w) (x y : Value) (t : TypeId) (b : Nat) (e : b = w.heap.size) : Arg W (w.alloc (.cells #[x, y] t)) b x y := by
  subst e
  exact ⟨hb.alloc hb.size _, by rw [World.cell?_alloc_at _ _ _ _ rfl]; rfl, by rw [World.cell?_alloc_at _ _ _ _ rfl]; rfl, hb.size, by simp⟩
theorem Arg.new (W : World) (x y : Value) (t : TypeId) : Arg W (W.alloc (.cells #[x, y] t)) W.heap.size x y :=
  ⟨(Below.refl _ _).alloc (Nat.le_refl _) _, by rw [World.cell?_alloc_at _ _ _ _ rfl]; rfl, by rw [World.cell?_alloc_at _ _ _ _ rfl]; rfl, Nat.le_refl _, by simp⟩

theorem Own.last (w1 : World) (zs : List Int) (lo : Nat) (h : lo ≤ w1.heap.size) (g : Nat) (hg : g = w1.heap.size) : Own (w1.alloc (.cells (zs.map (Value.int .i64)).toArray 3)) lo (w1.alloc (.cells (zs.map (Value.int .i64)).toArray 3)).heap.size (some ⟨g, 0, none⟩) zs := by
  subst hg
  exact Own.new w1 zs lo _ h (by simp)

end Go.Proofs.YtpjoljaamakagabDoor
