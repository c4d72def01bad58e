/- FewestFalse: the program's function. -/
import Derived.Test.YtdkffkgoalgjmacFewest
namespace Go.Proofs.Ytdkffkgoalgjmac
open Go.RowKit Go.ChangeShapes Go.WideShapes Go.Maps
set_option linter.unusedVariables false

/-- What the loop holds at k. -/
def FewAt (f : Nat → Nat) (k a : Nat) (L : List Int) : Prop := (k = 0 ∧ a = f 0 ∧ L = []) ∨ (0 < k ∧ fewTo f k = (a, L))
theorem FewAt.lt {f : Nat → Nat} {k a : Nat} {L : List Int} (h : FewAt f k a L) (hl : f k < a) : FewAt f (k + 1) (f k) [(k : Int)] := by
  rcases h with ⟨rfl, rfl, _⟩ | ⟨_, h⟩
  · omega
  · exact .inr ⟨by omega, fewTo_lt h hl⟩
theorem FewAt.eq {f : Nat → Nat} {k a : Nat} {L : List Int} (h : FewAt f k a L) (hl : f k = a) (h20 : a ≤ 20) : FewAt f (k + 1) a (L ++ [(k : Int)]) := by
  rcases h with ⟨rfl, rfl, rfl⟩ | ⟨_, h⟩
  · exact .inr ⟨by omega, fewTo_lt (k := 0) (a := 21) (l := []) rfl (by omega)⟩
  · exact .inr ⟨by omega, fewTo_eq h hl⟩
theorem FewAt.gt {f : Nat → Nat} {k a : Nat} {L : List Int} (h : FewAt f k a L) (hl : a < f k) : FewAt f (k + 1) a L := by
  rcases h with ⟨rfl, rfl, _⟩ | ⟨_, h⟩
  · omega
  · exact .inr ⟨by omega, fewTo_gt h hl⟩
theorem FewAt.end_ {f : Nat → Nat} {n a : Nat} {L : List Int} (h : FewAt f n a L) (hn : 1 ≤ n) : fewTo f n = (a, L) := by
  rcases h with ⟨rfl, _⟩ | ⟨_, h⟩
  · omega
  · exact h

end Go.Proofs.Ytdkffkgoalgjmac
