/- FewestFalse: what both functions find. -/
import Derived.Test.YtdkffkgoalgjmacFF
import Derived.Test.YtdkffkgoalgjmacOpenN
namespace Go.Proofs.Ytdkffkgoalgjmac
open Go.RowKit Go.ChangeShapes Go.WideShapes Go.Maps
set_option linter.unusedVariables false

/-- The fewest of f below k, from 21 on, and where. -/
def fewTo (f : Nat → Nat) : Nat → Nat × List Int
  | 0 => (21, [])
  | k + 1 => if f k < (fewTo f k).1 then (f k, [(k : Int)]) else if f k = (fewTo f k).1 then ((fewTo f k).1, (fewTo f k).2 ++ [(k : Int)]) else fewTo f k
theorem fewTo_lt {f : Nat → Nat} {k a : Nat} {l : List Int} (h : fewTo f k = (a, l)) (hl : f k < a) : fewTo f (k + 1) = (f k, [(k : Int)]) := by rw [fewTo, h]; simp [hl]
theorem fewTo_eq {f : Nat → Nat} {k a : Nat} {l : List Int} (h : fewTo f k = (a, l)) (hl : f k = a) : fewTo f (k + 1) = (a, l ++ [(k : Int)]) := by rw [fewTo, h]; simp [hl]
theorem fewTo_gt {f : Nat → Nat} {k a : Nat} {l : List Int} (h : fewTo f k = (a, l)) (hl : a < f k) : fewTo f (k + 1) = (a, l) := by
  rw [fewTo, h, if_neg (show ¬ f k < a by omega), if_neg (show ¬ f k = a by omega)]
theorem fewTo_len (f : Nat → Nat) : ∀ k, (fewTo f k).2.length ≤ k
  | 0 => Nat.le_refl _
  | k + 1 => by
    have := fewTo_len f k
    rw [fewTo]
    split
    · simp
    · split
      · simp; omega
      · omega
theorem fewTo_bd {f : Nat → Nat} (hf : ∀ k, f k ≤ 20) : ∀ k, (fewTo f k).1 ≤ 21
  | 0 => Nat.le_refl _
  | k + 1 => by
    have := fewTo_bd hf k
    have := hf k
    rw [fewTo]
    split
    · show f k ≤ 21; omega
    · split
      · exact fewTo_bd hf k
      · exact fewTo_bd hf k

theorem AIns.past {B lo hi : Nat} {w w' : World} {A : Option Addr} {l : List (Int × Bool)} (h : AIns w lo hi A l) (hp : Past B w w') (hh : hi ≤ B) : AIns w' lo hi A l :=
  h.within (l := B) (t := w.heap.size) ⟨hp.os, hp.tape, hp.output, hp.size, fun i hi hd => hp.block i hi (by omega)⟩ (.inl hh)
theorem own_below {w w' : World} {B n : Nat} {v : Value} {e : TypeId} {xs : List Value} (h : w.ownsRow B e 1 v n xs) (hb : Below w.heap.size w w') : w'.ownsRow B e 1 v n xs :=
  ⟨h.1, h.2.imp id fun ⟨g, cap, cur, a, b, r, q⟩ => ⟨g, cap, cur, a, b, (hb.block g (row_ltI r)).trans r, q⟩⟩

end Go.Proofs.Ytdkffkgoalgjmac
