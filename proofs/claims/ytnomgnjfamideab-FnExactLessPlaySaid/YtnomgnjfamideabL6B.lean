/- Slices of Booleans: what the laws' helpers do with them. -/
import Derived.Test.YtnomgnjfamideabOwn
namespace Go.Proofs.Ytnomgnjfamideab
open Go.RowKit Go.ChangeShapes Go.WideShapes
set_option linter.unusedVariables false

/-- A slice of Booleans that the call may write: nothing, or the first places of a row of its own in a block of lo..hi-1. -/
def BOwn (w : World) (lo hi : Nat) (A : Option Addr) (bs : List Bool) : Prop :=
  (A = none ∧ bs = []) ∨ ∃ g cur, A = some ⟨g, 0, none⟩ ∧ lo ≤ g ∧ g < hi ∧ w.heap[g]? = some (.cells cur 4 (0, 0)) ∧ bs.length ≤ cur.size ∧ ∀ (j : Nat) (x : Bool), bs[j]? = some x → cur[j]? = some (Value.bool x)
structure BRes (w : World) (lo hi : Nat) (A : Option Addr) (bs : List Bool) : Prop where
  own : BOwn w lo hi A bs
  top : hi ≤ w.heap.size
theorem BOwn.within {w w' : World} {lo hi l h : Nat} {A : Option Addr} {bs : List Bool} (hI : BOwn w lo hi A bs) (hb : Within l h w w') (hd : hi ≤ l ∨ h ≤ lo) : BOwn w' lo hi A bs := by
  rcases hI with hn | ⟨g, cur, rfl, h1, h2, hr, hs, hc⟩
  · exact .inl hn
  · exact .inr ⟨g, cur, rfl, h1, h2, (hb.block g (row_ltI hr) (by omega)).trans hr, hs, hc⟩
theorem BOwn.below {w w' : World} {lo hi B : Nat} {A : Option Addr} {bs : List Bool} (hI : BOwn w lo hi A bs) (hb : Below B w w') (hB : hi ≤ B) : BOwn w' lo hi A bs := by
  rcases hI with hn | ⟨g, cur, rfl, h1, h2, hr, hs, hc⟩
  · exact .inl hn
  · exact .inr ⟨g, cur, rfl, h1, h2, (hb.block g (by omega)).trans hr, hs, hc⟩
theorem BRes.step {w w' : World} {lo hi : Nat} {A : Option Addr} {bs : List Bool} (h : BRes w lo hi A bs) (hb : Below w.heap.size w w') : BRes w' lo hi A bs :=
  ⟨h.own.below hb h.top, Nat.le_trans h.top hb.size⟩
theorem BRes.within {w w' : World} {lo hi l t : Nat} {A : Option Addr} {bs : List Bool} (h : BRes w lo hi A bs) (hb : Within l t w w') (hd : hi ≤ l ∨ t ≤ lo) : BRes w' lo hi A bs :=
  ⟨h.own.within hb hd, Nat.le_trans h.top hb.size⟩
theorem BOwn.at_ {w : World} {lo hi : Nat} {A : Option Addr} {bs : List Bool} (h : BOwn w lo hi A bs) {k : Nat} (hk : k < bs.length) : ∃ g, A = some ⟨g, 0, none⟩ ∧ lo ≤ g ∧ g < hi ∧ g < w.heap.size ∧ w.cell? ⟨g, k, none⟩ = some (.bool bs[k]) := by
  rcases h with ⟨_, rfl⟩ | ⟨g, cur, rfl, h1, h2, hr, _, hc⟩
  · simp at hk
  · exact ⟨g, rfl, h1, h2, row_ltI hr, by rw [row_cellI hr]; exact hc k _ (List.getElem?_eq_getElem hk)⟩
/-- A row of one's own, as a slice. -/
theorem own_resB {w : World} {B n : Nat} {v : Value} {bs : List Bool} (h : w.ownsRow B 4 1 v n (bs.map Value.bool)) (hn : n = bs.length) :
    ∃ A c, v = .slice A bs.length c ∧ BRes w B w.heap.size A bs := by
  subst hn
  rcases h.2 with ⟨rfl, h0⟩ | ⟨g, cap, cur, rfl, hb, hg, hl, hm, hs, ht⟩
  · have : bs = [] := List.eq_nil_of_length_eq_zero h0
    subst this
    exact ⟨none, 0, rfl, ⟨.inl ⟨rfl, rfl⟩, Nat.le_refl _⟩⟩
  · refine ⟨some ⟨g, 0, none⟩, cap, rfl, ⟨.inr ⟨g, cur, rfl, hb, row_ltI hg, hg, by omega, fun j x hx => ?_⟩, Nat.le_refl _⟩⟩
    have hj : j < bs.length := by
      rcases Nat.lt_or_ge j bs.length with h1 | h1
      · exact h1
      · rw [List.getElem?_eq_none h1] at hx; cases hx
    have e : (cur.toList.take (bs.length * 1))[j]? = some (Value.bool x) := by rw [ht]; simp [hx]
    rw [List.getElem?_take_of_lt (by omega)] at e
    simpa using e

def markB (j : Nat) : Bool := ((j : Int) + 1) % 3 == 0
def marksB (n : Nat) : List Bool := (List.range n).map markB
theorem marksB_len (n : Nat) : (marksB n).length = n := by simp [marksB]
theorem marksB_at {n j : Nat} (h : j < n) : (marksB n)[j]? = some (markB j) := by simp [marksB, h]
def markArrB (cur : Array Value) : Nat → Array Value
  | 0 => cur
  | i + 1 => (markArrB cur i).setIfInBounds i (.bool (markB i))
theorem markArrB_size (cur : Array Value) : ∀ i, (markArrB cur i).size = cur.size
  | 0 => rfl
  | i + 1 => by show ((markArrB cur i).setIfInBounds i _).size = _; rw [Array.size_setIfInBounds, markArrB_size cur i]
theorem markArrB_at (cur : Array Value) : ∀ i j, j < i → j < cur.size → (markArrB cur i)[j]? = some (.bool (markB j))
  | 0, j, h, _ => absurd h (by omega)
  | i + 1, j, h, hs => by
    show ((markArrB cur i).setIfInBounds i _)[j]? = _
    by_cases e : i = j
    · subst e
      rw [Array.getElem?_setIfInBounds_self_of_lt (by rw [markArrB_size]; exact hs)]
    · rw [Array.getElem?_setIfInBounds_ne (by omega)]
      exact markArrB_at cur i j (by omega) hs
theorem marksB_get {n j : Nat} {x : Bool} (h : (marksB n)[j]? = some x) : j < n ∧ x = markB j := by
  have hj : j < n := by
    rcases Nat.lt_or_ge j (marksB n).length with h1 | h1
    · rwa [marksB_len] at h1
    · rw [List.getElem?_eq_none h1] at h; cases h
  rw [marksB_at hj] at h
  exact ⟨hj, by injection h with h; exact h.symm⟩

end Go.Proofs.Ytnomgnjfamideab
