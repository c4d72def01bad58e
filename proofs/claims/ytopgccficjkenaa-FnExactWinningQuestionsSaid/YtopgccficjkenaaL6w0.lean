/- Rows of Booleans that grow (as in L6w, L8E). -/
import Derived.Test.YtopgccficjkenaaL6B
import Derived.Test.YtopgccficjkenaaL8B
namespace Go.Proofs.Ytopgccficjkenaa
open Go.RowKit Go.ChangeShapes Go.WideShapes
set_option linter.unusedVariables false

theorem B0_any11 (w : World) (B : Nat) (h : B ≤ w.heap.size) : (w.alloc (.cells #[] 4)).ownsRow B 4 1 (.slice (some ⟨w.heap.size, 0, none⟩) 0 0) 0 [] :=
  World.ownsRow_lit w (e := 4) (size := 1) (base := B) #[] 0 h (by unfold maxLen; omega) rfl
theorem bool_snoc11 {w : World} {B n : Nat} {v : Value} {bs : List Bool} {y : Bool} (h : w.ownsRow B 4 1 v (n + 1) (bs.map Value.bool ++ [Value.bool y])) (hn : n = bs.length) : w.ownsRow B 4 1 v (bs ++ [y]).length ((bs ++ [y]).map Value.bool) := by
  subst hn
  simpa using h
theorem own_resB11 {w : World} {B n : Nat} {v : Value} {bs : List Bool} (h : w.ownsRow B 4 1 v n (bs.map Value.bool)) (hn : n = bs.length) :
    ∃ A c, v = .slice A bs.length c ∧ bs.length ≤ c ∧ BRes w B w.heap.size A bs := by
  obtain ⟨A, c, e, hr⟩ := own_resB h hn
  subst hn
  refine ⟨A, c, e, ?_, hr⟩
  rcases h.2 with ⟨rfl, h0⟩ | ⟨g, cap, cur, rfl, _, _, hl, _⟩
  · have : bs = [] := List.eq_nil_of_length_eq_zero h0
    subst this
    exact Nat.zero_le _
  · injection e with _ _ e
    subst e
    exact hl
theorem bres_wide {w : World} {lo hi lo' : Nat} {A : Option Addr} {bs : List Bool} (h : BRes w lo hi A bs) (h1 : lo' ≤ lo) : BRes w lo' w.heap.size A bs := by
  refine ⟨?_, Nat.le_refl _⟩
  rcases h.own with hn | ⟨g, cur, rfl, a, b, r⟩
  · exact .inl hn
  · exact .inr ⟨g, cur, rfl, Nat.le_trans h1 a, Nat.lt_of_lt_of_le b h.top, r⟩
theorem bres_tight {w : World} {lo hi g : Nat} {bs : List Bool} (h : BRes w lo hi (some ⟨g, 0, none⟩) bs) : BRes w g (g + 1) (some ⟨g, 0, none⟩) bs := by
  rcases h.own with ⟨e, _⟩ | ⟨g', cur, e, a, b, r⟩
  · cases e
  · injection e with e
    injection e with e
    subst e
    exact ⟨.inr ⟨g, cur, rfl, Nat.le_refl _, Nat.lt_succ_self _, r⟩, Nat.succ_le_of_lt (Nat.lt_of_lt_of_le b h.top)⟩
end Go.Proofs.Ytopgccficjkenaa
