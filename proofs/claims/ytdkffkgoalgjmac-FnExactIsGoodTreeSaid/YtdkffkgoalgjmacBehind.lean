/- The weight behind an answer: the program's closure; its neighbours. -/
import Derived.Test.YtdkffkgoalgjmacRoom
import Derived.Test.YtdkffkgoalgjmacAnswer
namespace Go.Proofs.Ytdkffkgoalgjmac
open Go.RowKit Go.ChangeShapes Go.WideShapes
set_option linter.unusedVariables false

/-- A block of one cell. -/
structure One (w : World) (b : Nat) (x : Value) (t : TypeId) : Prop where
  row : w.heap[b]? = some (.cells #[x] t (0, 0))
theorem One.lt {w : World} {b : Nat} {x : Value} {t : TypeId} (h : One w b x t) : b < w.heap.size := row_ltI h.row
theorem One.step {w w' : World} {b : Nat} {x : Value} {t : TypeId} (h : One w b x t) (hb : Below w.heap.size w w') : One w' b x t := ⟨(hb.block b h.lt).trans h.row⟩
theorem One.new (w : World) (x : Value) (t : TypeId) (b : Nat) (hb : b = w.heap.size) : One (w.alloc (.cells #[x] t)) b x t := ⟨alloc_row' _ _ _ _ hb⟩
theorem One.c0 {w : World} {b : Nat} {x : Value} {t : TypeId} (h : One w b x t) : w.cell? ⟨b, 0, none⟩ = some x := by rw [row_cellI h.row]; rfl

theorem own_insG {w : World} {g : Nat} {l : List Int} (h : Own w g (g + 1) (some ⟨g, 0, none⟩) l) : Ins w g (g + 1) (some ⟨g, 0, none⟩) l := ⟨h.ints, own_lt h⟩
/-- The weight behind an answer, with q questions ahead. -/
def behW (q M : Nat) (zs : List Int) (k : Int) (y : Bool) : Nat := stW q M (afters zs (M : Int) k y)
theorem behW_bd {q M : Nat} {zs : List Int} (k : Int) (y : Bool) (hq : q ≤ 30) (hn : zs.length ≤ 12) : behW q M zs k y ≤ 12884901888 := stW_bd hq (by rw [afters_len]; exact hn)

end Go.Proofs.Ytdkffkgoalgjmac
