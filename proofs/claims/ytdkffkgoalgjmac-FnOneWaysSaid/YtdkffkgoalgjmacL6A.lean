/- Slices of answers that grow by append: what the laws' helpers do with them. -/
import Derived.Test.YtdkffkgoalgjmacAsks
import Derived.Test.YtdkffkgoalgjmacAfter2
namespace Go.Proofs.Ytdkffkgoalgjmac
open Go.RowKit Go.ChangeShapes Go.WideShapes Go.Maps
set_option linter.unusedVariables false

/-- A slice of answers that the call may write: nothing, or the first places of a row of its own in a block of lo..hi-1. -/
def AOwn (w : World) (lo hi : Nat) (A : Option Addr) (l : List (Int × Bool)) : Prop :=
  (A = none ∧ l = []) ∨ ∃ g cur, A = some ⟨g, 0, none⟩ ∧ lo ≤ g ∧ g < hi ∧ w.heap[g]? = some (.cells cur 52 (0, 0)) ∧ l.length * 2 ≤ cur.size ∧ ∀ (j : Nat) (x : Int × Bool), l[j]? = some x → cur[j * 2]? = some (.int .i64 x.1) ∧ cur[j * 2 + 1]? = some (.bool x.2)
structure AMade (w : World) (lo hi : Nat) (A : Option Addr) (l : List (Int × Bool)) : Prop where
  own : AOwn w lo hi A l
  top : hi ≤ w.heap.size
theorem AMade.step {w w' : World} {lo hi : Nat} {A : Option Addr} {l : List (Int × Bool)} (h : AMade w lo hi A l) (hb : Below w.heap.size w w') : AMade w' lo hi A l := by
  refine ⟨?_, Nat.le_trans h.top hb.size⟩
  rcases h.own with hn | ⟨g, cur, rfl, h1, h2, hr, hs, hc⟩
  · exact .inl hn
  · exact .inr ⟨g, cur, rfl, h1, h2, (hb.block g (row_ltI hr)).trans hr, hs, hc⟩
theorem AMade.within {w w' : World} {lo hi l t : Nat} {A : Option Addr} {xs : List (Int × Bool)} (h : AMade w lo hi A xs) (hb : Within l t w w') (hd : hi ≤ l ∨ t ≤ lo) : AMade w' lo hi A xs := by
  refine ⟨?_, Nat.le_trans h.top hb.size⟩
  rcases h.own with hn | ⟨g, cur, rfl, h1, h2, hr, hs, hc⟩
  · exact .inl hn
  · exact .inr ⟨g, cur, rfl, h1, h2, (hb.block g (row_ltI hr) (by omega)).trans hr, hs, hc⟩
theorem AMade.ins {w : World} {lo hi : Nat} {A : Option Addr} {l : List (Int × Bool)} (h : AMade w lo hi A l) : AIns w lo hi A l := by
  refine ⟨fun h0 => ?_, h.top⟩
  rcases h.own with ⟨_, rfl⟩ | ⟨g, cur, e, h1, h2, hr, hs, hc⟩
  · simp at h0
  · refine ⟨g, 0, e, h1, h2, fun j x hx => ?_⟩
    rw [Nat.zero_add, row_cellI hr, row_cellI hr]
    exact hc j x hx
theorem own_resA {w : World} {B n : Nat} {v : Value} {l : List (Int × Bool)} (h : w.ownsRow B 52 2 v n (cellsA l)) (hn : n = l.length) :
    ∃ A c, v = .slice A l.length c ∧ AMade w B w.heap.size A l := by
  subst hn
  rcases h.2 with ⟨rfl, h0⟩ | ⟨g, cap, cur, rfl, hb, hg, hl, hm, hs, ht⟩
  · have : l = [] := List.eq_nil_of_length_eq_zero h0
    subst this
    exact ⟨none, 0, rfl, ⟨.inl ⟨rfl, rfl⟩, Nat.le_refl _⟩⟩
  · have hcl : l.length * 2 ≤ cur.size := by omega
    refine ⟨some ⟨g, 0, none⟩, cap, rfl, ⟨.inr ⟨g, cur, rfl, hb, row_ltI hg, hg, hcl, fun j x hx => ?_⟩, Nat.le_refl _⟩⟩
    have hj : j < l.length := by
      rcases Nat.lt_or_ge j l.length with h1 | h1
      · exact h1
      · rw [List.getElem?_eq_none h1] at hx; cases hx
    have hx2 := cellsA_at l j x hx
    rw [← ht, List.getElem?_take_of_lt (by omega), List.getElem?_take_of_lt (by omega)] at hx2
    simpa using hx2
theorem cellsA_snoc : ∀ (l : List (Int × Bool)) (q : Int) (y : Bool), cellsA (l ++ [(q, y)]) = cellsA l ++ [Value.int .i64 q, Value.bool y]
  | [], q, y => rfl
  | x :: r, q, y => by
    show Value.int .i64 x.1 :: Value.bool x.2 :: cellsA (r ++ [(q, y)]) = _
    rw [cellsA_snoc r q y]; rfl
theorem cell_two_new (w : World) (x y : Value) (t : TypeId) : ∀ j u, [x, y][j]? = some u → (w.alloc (.cells #[x, y] t)).cell? ((⟨w.heap.size, 0, none⟩ : Addr).add j) = some u := by
  intro j u hj
  match j, hj with
  | 0, hj =>
    simp at hj
    subst hj
    simp [Addr.add]
  | 1, hj =>
    simp at hj
    subst hj
    simp [Addr.add]
  | j + 2, hj => simp at hj
theorem askd_snoc6 {w : World} {B n : Nat} {v : Value} {l : List (Int × Bool)} {q : Int} {y : Bool} (h : w.ownsRow B 52 2 v (n + 1) (cellsA l ++ [Value.int .i64 q, Value.bool y])) (hn : n = l.length) : w.ownsRow B 52 2 v (l ++ [(q, y)]).length (cellsA (l ++ [(q, y)])) := by
  subst hn
  rw [cellsA_snoc]
  simpa using h
/-- What stands of rows whose elements have more than a cell. -/
theorem pastA {sz : Nat} {w w' : World} {B n : Nat} {v : Value} {e : TypeId} {xs : List Value} (h : w.ownsRow B e sz v n xs) (hp : Past w.heap.size w w') : w'.ownsRow B e sz v n xs :=
  ⟨h.1, h.2.imp id fun ⟨g, cap, cur, a, b, hg, r⟩ => ⟨g, cap, cur, a, b, (hp.block g (row_ltI hg) (row_ltI hg)).trans hg, r⟩⟩
theorem withinA {sz : Nat} {w w' : World} {B n lo hi : Nat} {v : Value} {e : TypeId} {xs : List Value} (h : w.ownsRow B e sz v n xs) (hw : Within lo hi w w') (hB : hi ≤ B) : w'.ownsRow B e sz v n xs :=
  ⟨h.1, h.2.imp id fun ⟨g, cap, cur, a, b, hg, r⟩ => ⟨g, cap, cur, a, b, (hw.block g (row_ltI hg) (.inr (by omega))).trans hg, r⟩⟩
theorem baseA {sz : Nat} {w : World} {B B' n : Nat} {v : Value} {e : TypeId} {xs : List Value} (h : w.ownsRow B e sz v n xs) (hB : B' ≤ B) : w.ownsRow B' e sz v n xs :=
  ⟨h.1, h.2.imp id fun ⟨g, cap, cur, a, b, r⟩ => ⟨g, cap, cur, a, Nat.le_trans hB b, r⟩⟩
theorem row_twoA {sz : Nat} {w w' : World} {B n b : Nat} {v x y : Value} {e T : TypeId} {xs : List Value} (h : w.ownsRow B e sz v n xs) (t : Two w b x y T) (hne : e ≠ T) (hw : Within b (b + 1) w w') : w'.ownsRow B e sz v n xs :=
  ⟨h.1, h.2.imp id fun ⟨g, cap, cur, a, b', hg, r⟩ => ⟨g, cap, cur, a, b', (hw.block g (row_ltI hg) (by
    have : g ≠ b := by
      rintro rfl
      have e2 := hg.symm.trans t.row
      injection e2 with e2
      injection e2 with _ e3
      exact hne e3
    omega)).trans hg, r⟩⟩
theorem grown_neA {sz : Nat} {w : World} {B n g : Nat} {v : Value} {e T : TypeId} {xs : List Value} {cs : Array Value} (h : w.ownsRow B e sz v n xs) (t : w.heap[g]? = some (.cells cs T (0, 0))) (hne : e ≠ T) : some g ≠ v.ownBlock := by
  intro hk
  rcases h.2 with ⟨rfl, _⟩ | ⟨g', cap, cur, rfl, _, hg, _⟩
  · cases hk
  · have hk : g = g' := by injection hk
    subst hk
    have e2 := hg.symm.trans t
    injection e2 with e2
    injection e2 with _ e3
    exact hne e3
theorem grown_blockA {sz : Nat} {w w' : World} {B n g : Nat} {v : Value} {e T : TypeId} {xs : List Value} {cs : Array Value} {o : Obj} (h : w.ownsRow B e sz v n xs) (t : w.heap[g]? = some (.cells cs T (0, 0))) (hne : e ≠ T) (hg : (w.alloc o).grownBy w' v.ownBlock) : w'.heap[g]? = w.heap[g]? :=
  (hg.block g (Nat.lt_of_lt_of_le (row_ltI t) (Nat.le_of_lt (by simp))) (grown_neA h t hne)).trans (((Below.refl _ w).alloc (Nat.le_refl _) o).block g (row_ltI t))
theorem grown_twoA {sz : Nat} {w w' : World} {B n b : Nat} {v x y : Value} {e T : TypeId} {xs : List Value} {o : Obj} (h : w.ownsRow B e sz v n xs) (t : Two w b x y T) (hne : e ≠ T) (hg : (w.alloc o).grownBy w' v.ownBlock) : Two w' b x y T :=
  ⟨(grown_blockA h t.row hne hg).trans t.row⟩
theorem grown_ownA {sz : Nat} {w w' : World} {B n g : Nat} {v : Value} {e : TypeId} {xs : List Value} {o : Obj} {L : List Int} (h : w.ownsRow B e sz v n xs) (t : Own w g (g + 1) (some ⟨g, 0, none⟩) L) (hne : e ≠ 3) (hg : (w.alloc o).grownBy w' v.ownBlock) : Own w' g (g + 1) (some ⟨g, 0, none⟩) L := by
  obtain ⟨cur, hr, _⟩ := own_at t
  exact own_same t (grown_blockA h hr hne hg)
theorem A0_any (w : World) (B : Nat) (h : B ≤ w.heap.size) : (w.alloc (.cells #[] 52)).ownsRow B 52 2 (.slice (some ⟨w.heap.size, 0, none⟩) 0 0) 0 [] :=
  World.ownsRow_lit w (e := 52) (size := 2) (base := B) #[] 0 h (by unfold maxLen; omega) rfl
theorem empty_madeA (w : World) (lo : Nat) (h : lo ≤ w.heap.size) : AMade (w.alloc (.cells #[] 52)) lo (w.alloc (.cells #[] 52)).heap.size (some ⟨w.heap.size, 0, none⟩) [] :=
  ⟨.inr ⟨w.heap.size, #[], rfl, h, by simp, alloc_row w _ _, by simp, fun j x hx => by simp at hx⟩, Nat.le_refl _⟩

def markA (j : Nat) : Int × Bool := (((2 * j + 1 : Nat) : Int), (((2 * j + 1 : Nat) : Int) + 1) % 3 == 0)
def marksA (n : Nat) : List (Int × Bool) := (List.range n).map markA
theorem marksA_len (n : Nat) : (marksA n).length = n := by simp [marksA]
theorem marksA_at {n j : Nat} (h : j < n) : (marksA n)[j]? = some (markA j) := by simp [marksA, h]
def markArrA (cur : Array Value) : Nat → Array Value
  | 0 => cur
  | i + 1 => ((markArrA cur i).setIfInBounds (i * 2) (.int .i64 (markA i).1)).setIfInBounds (i * 2 + 1) (.bool (markA i).2)
theorem markArrA_size (cur : Array Value) : ∀ i, (markArrA cur i).size = cur.size
  | 0 => rfl
  | i + 1 => by show (((markArrA cur i).setIfInBounds _ _).setIfInBounds _ _).size = _; rw [Array.size_setIfInBounds, Array.size_setIfInBounds, markArrA_size cur i]
theorem markArrA_at (cur : Array Value) : ∀ i j, j < i → j * 2 + 1 < cur.size → (markArrA cur i)[j * 2]? = some (.int .i64 (markA j).1) ∧ (markArrA cur i)[j * 2 + 1]? = some (.bool (markA j).2)
  | 0, j, h, _ => absurd h (by omega)
  | i + 1, j, h, hs => by
    show (((markArrA cur i).setIfInBounds _ _).setIfInBounds _ _)[j * 2]? = _ ∧ (((markArrA cur i).setIfInBounds _ _).setIfInBounds _ _)[j * 2 + 1]? = _
    by_cases e : i = j
    · subst e
      refine ⟨?_, ?_⟩
      · rw [Array.getElem?_setIfInBounds_ne (by omega), Array.getElem?_setIfInBounds_self_of_lt (by rw [markArrA_size]; omega)]
      · rw [Array.getElem?_setIfInBounds_self_of_lt (by rw [Array.size_setIfInBounds, markArrA_size]; exact hs)]
    · have ih := markArrA_at cur i j (by omega) hs
      rw [Array.getElem?_setIfInBounds_ne (by omega), Array.getElem?_setIfInBounds_ne (by omega), Array.getElem?_setIfInBounds_ne (by omega), Array.getElem?_setIfInBounds_ne (by omega)]
      exact ih
theorem marksA_get {n j : Nat} {x : Int × Bool} (h : (marksA n)[j]? = some x) : j < n ∧ x = markA j := by
  have hj : j < n := by
    rcases Nat.lt_or_ge j (marksA n).length with h1 | h1
    · rwa [marksA_len] at h1
    · rw [List.getElem?_eq_none h1] at h; cases h
  rw [marksA_at hj] at h
  exact ⟨hj, by injection h with h; exact h.symm⟩

end Go.Proofs.Ytdkffkgoalgjmac
