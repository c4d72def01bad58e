/- l4Best. -/
import Derived.Test.YtdkffkgoalgjmacSNeed
import Derived.Test.YtdkffkgoalgjmacNeeds
namespace Go.Proofs.Ytdkffkgoalgjmac
open Go.RowKit Go.ChangeShapes Go.WideShapes
set_option linter.unusedVariables false

def bestTo (r : Row) (k : Nat) : List Row := ((List.range k).map (splitR r)).filter fun s => valR r s == needR r
theorem bestTo_all (r : Row) : bestTo r (cntR r) = bestR r := rfl
theorem bestTo_yes {r : Row} {k : Nat} (h : valR r (splitR r k) = needR r) : bestTo r (k + 1) = bestTo r k ++ [splitR r k] := by
  simp [bestTo, List.range_succ, List.filter_append, h]
theorem bestTo_no {r : Row} {k : Nat} (h : valR r (splitR r k) ≠ needR r) : bestTo r (k + 1) = bestTo r k := by
  simp [bestTo, List.range_succ, List.filter_append, h]
theorem bestTo_len (r : Row) (k : Nat) : (bestTo r k).length ≤ k := by
  have h := List.length_filter_le (fun s => valR r s == needR r) ((List.range k).map (splitR r))
  simpa [bestTo] using h
theorem sn_iff {r s : Row} (h8 : rsum r ≤ 8) (hs : Fits s r) : snR r s = ((needR r : Nat) : Int) ↔ valR r s = needR r := by
  unfold snR
  cases hb : backR r s with
  | true =>
    have := back_val h8 hs hb
    simp only [if_true]
    omega
  | false =>
    simp only [Bool.false_eq_true, if_false]
    omega
theorem Rows2.keep {w w' : World} {B : Nat} {v : Value} {L : List (List Int)} (h : Rows2 w B v L) (hk : ∀ i, B ≤ i → i < w.heap.size → w'.heap[i]? = w.heap[i]?) : Rows2 w' B v L := by
  obtain ⟨vs, ho, he⟩ := h.ex
  refine ⟨vs, ⟨ho.1, ho.2.imp id fun ⟨g, cap, cur, a, b, hg, r⟩ => ⟨g, cap, cur, a, b, (hk g b (row_ltI hg)).trans hg, r⟩⟩, fun i hi => ?_⟩
  obtain ⟨g, c, h1, h2, h3⟩ := he i hi
  exact ⟨g, c, h1, h2, own_same h3 (hk g h2 (own_lt h3))⟩
/-- What the walk of the splits keeps. -/
structure BK (b s : Nat) (w2 wr : World) (v : Value) : Prop where
  keep : ∀ i, i ≠ b → i < w2.heap.size → wr.heap[i]? = w2.heap[i]?
  size : w2.heap.size ≤ wr.heap.size
  own : ∀ q, v.ownBlock = some q → (q = b ∨ w2.heap.size ≤ q) ∧ q < wr.heap.size
  os : wr.os = w2.os
  tape : wr.tape = w2.tape
  output : wr.output = w2.output
theorem BK.below {b s : Nat} {w2 wr w' : World} {v : Value} (h : BK b s w2 wr v) (hb : Below wr.heap.size wr w') : BK b s w2 w' v :=
  ⟨fun i hi hl => (hb.block i (Nat.lt_of_lt_of_le hl h.size)).trans (h.keep i hi hl), Nat.le_trans h.size hb.size, fun q e => ⟨(h.own q e).1, Nat.lt_of_lt_of_le (h.own q e).2 hb.size⟩, hb.os.trans h.os, hb.tape.trans h.tape, hb.output.trans h.output⟩
theorem BK.grown {b s g n c H : Nat} {w2 wr w' : World} {v : Value} (h : BK b s w2 wr v) (hg : wr.grownBy w' v.ownBlock) (hb : v.ownBlock = some g ∨ g = H) (hH : wr.heap.size = H) (hl : g < w'.heap.size) : BK b s w2 w' (.slice (some ⟨g, 0, none⟩) n c) :=
  ⟨fun i hi hlt => (hg.block i (Nat.lt_of_lt_of_le hlt h.size) (fun e => by
      rcases (h.own i e.symm).1 with e1 | e1
      · exact hi e1
      · omega)).trans (h.keep i hi hlt), Nat.le_trans h.size hg.size, fun q e => by
      have e : g = q := by injection e
      subst e
      refine ⟨?_, hl⟩
      rcases hb with hb | hb
      · exact (h.own _ hb).1
      · exact .inr (by have := h.size; omega), hg.os.trans h.os, hg.tape.trans h.tape, hg.output.trans h.output⟩

end Go.Proofs.Ytdkffkgoalgjmac
