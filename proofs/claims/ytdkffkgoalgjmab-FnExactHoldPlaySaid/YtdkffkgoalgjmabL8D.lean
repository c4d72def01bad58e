/- The answerer: the first answers that hold, the most that are kept. -/
import Derived.Test.YtdkffkgoalgjmabL8C
namespace Go.Proofs.Ytdkffkgoalgjmab
open Go.RowKit Go.ChangeShapes Go.WideShapes Go.Maps
set_option linter.unusedVariables false

theorem BOwn.wide8 {w : World} {lo hi lo' : Nat} {A : Option Addr} {bs : List Bool} (h : BOwn w lo hi A bs) (hl : lo' ≤ lo) : BOwn w lo' hi A bs := by
  rcases h with h | ⟨g, cur, e, h1, h2, r⟩
  · exact .inl h
  · exact .inr ⟨g, cur, e, Nat.le_trans hl h1, h2, r⟩
theorem empty_resB8 (w : World) (lo : Nat) (h : lo ≤ w.heap.size) : BRes (w.alloc (.cells #[] 4)) lo (w.alloc (.cells #[] 4)).heap.size (some ⟨w.heap.size, 0, none⟩) [] := BRes.new w [] lo h
theorem Listed.ok1 {zs : List Int} {m : Int} {qs : List Int} (h : Listed zs m qs) : lOK zs m qs = true := lOK_iff.2 h
theorem Listed.len {zs : List Int} {m : Int} {qs : List Int} (h : Listed zs m qs) : 1 ≤ zs.length ∧ zs.length ≤ 12 := by have := isSt_len h.st; omega

end Go.Proofs.Ytdkffkgoalgjmab
