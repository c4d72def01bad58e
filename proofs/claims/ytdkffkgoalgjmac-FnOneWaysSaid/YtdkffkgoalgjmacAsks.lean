/- Slices of answers, and what the laws' own helpers do with them. -/
import Derived.Test.YtdkffkgoalgjmacAfter
import Derived.Deep.SlicePairs
namespace Go.Proofs.Ytdkffkgoalgjmac
open Go.RowKit Go.ChangeShapes Go.WideShapes
set_option linter.unusedVariables false

/-- The slice at A reads as the answers l, in a block of lo..hi-1. -/
def Asks (w : World) (lo hi : Nat) (A : Option Addr) (l : List (Int × Bool)) : Prop :=
  0 < l.length → ∃ b o, A = some ⟨b, o, none⟩ ∧ lo ≤ b ∧ b < hi ∧ ∀ (j : Nat) (x : Int × Bool), l[j]? = some x → w.cell? ⟨b, o + j * 2, none⟩ = some (.int .i64 x.1) ∧ w.cell? ⟨b, o + j * 2 + 1, none⟩ = some (.bool x.2)
theorem Asks.at_ {w : World} {lo hi : Nat} {A : Option Addr} {l : List (Int × Bool)} (h : Asks w lo hi A l) {k : Nat} (hk : k < l.length) :
    ∃ b o, A = some ⟨b, o, none⟩ ∧ lo ≤ b ∧ b < hi ∧ w.cell? ⟨b, o + k * 2, none⟩ = some (.int .i64 l[k].1) ∧ w.cell? ⟨b, o + k * 2 + 1, none⟩ = some (.bool l[k].2) := by
  obtain ⟨b, o, e, h1, h2, hc⟩ := h (by omega)
  obtain ⟨c1, c2⟩ := hc k _ (List.getElem?_eq_getElem hk)
  exact ⟨b, o, e, h1, h2, c1, c2⟩
/-- Answers that are there. -/
structure AIns (w : World) (lo hi : Nat) (A : Option Addr) (l : List (Int × Bool)) : Prop where
  asks : Asks w lo hi A l
  top : hi ≤ w.heap.size
theorem AIns.step {w w' : World} {lo hi : Nat} {A : Option Addr} {l : List (Int × Bool)} (h : AIns w lo hi A l) (hb : Below w.heap.size w w') : AIns w' lo hi A l :=
  ⟨fun h0 => by
    obtain ⟨b, o, e, h1, h2, hc⟩ := h.asks h0
    have hbl : b < w.heap.size := Nat.lt_of_lt_of_le h2 h.top
    exact ⟨b, o, e, h1, h2, fun j x hx => ⟨(World.cell?_of_block (hb.block b hbl)).trans (hc j x hx).1, (World.cell?_of_block (hb.block b hbl)).trans (hc j x hx).2⟩⟩, Nat.le_trans h.top hb.size⟩
theorem AIns.within {w w' : World} {lo hi l t : Nat} {A : Option Addr} {xs : List (Int × Bool)} (h : AIns w lo hi A xs) (hb : Within l t w w') (hd : hi ≤ l ∨ t ≤ lo) : AIns w' lo hi A xs :=
  ⟨fun h0 => by
    obtain ⟨b, o, e, h1, h2, hc⟩ := h.asks h0
    have hbl : b < w.heap.size := Nat.lt_of_lt_of_le h2 h.top
    have hbb := hb.block b hbl (by omega)
    exact ⟨b, o, e, h1, h2, fun j x hx => ⟨(World.cell?_of_block hbb).trans (hc j x hx).1, (World.cell?_of_block hbb).trans (hc j x hx).2⟩⟩, Nat.le_trans h.top hb.size⟩
theorem askV (x : Int × Bool) : (Value.agg #[.int .i64 x.1, .bool x.2]).cells = #[.int .i64 x.1, .bool x.2] := rfl

/-- A row of answers while it is being filled: the first k are there. -/
def cellsA : List (Int × Bool) → List Value
  | [] => []
  | x :: r => .int .i64 x.1 :: .bool x.2 :: cellsA r
theorem cellsA_len : ∀ l, (cellsA l).length = l.length * 2
  | [] => rfl
  | x :: r => by simp [cellsA, cellsA_len r]; omega
theorem cellsA_at : ∀ (l : List (Int × Bool)) (j : Nat) (x : Int × Bool), l[j]? = some x → (cellsA l)[j * 2]? = some (.int .i64 x.1) ∧ (cellsA l)[j * 2 + 1]? = some (.bool x.2)
  | [], j, x, h => by simp at h
  | y :: r, 0, x, h => by simp at h; subst h; exact ⟨rfl, rfl⟩
  | y :: r, j + 1, x, h => by
    have := cellsA_at r j x (by simpa using h)
    have e : (j + 1) * 2 = j * 2 + 1 + 1 := by omega
    rw [e]
    exact ⟨this.1, this.2⟩
theorem cellsA_set : ∀ (l : List (Int × Bool)) (k : Nat) (x : Int × Bool), k < l.length → ((cellsA l).set (k * 2) (.int .i64 x.1)).set (k * 2 + 1) (.bool x.2) = cellsA (l.set k x)
  | [], k, x, h => by simp at h
  | y :: r, 0, x, h => rfl
  | y :: r, k + 1, x, h => by
    have ih := cellsA_set r k x (by simpa using h)
    have e : (k + 1) * 2 = k * 2 + 1 + 1 := by omega
    rw [e]
    show Value.int .i64 y.1 :: Value.bool y.2 :: ((cellsA r).set (k * 2) _).set (k * 2 + 1) _ = _
    rw [ih]
    rfl
theorem infoA : (Try.prog.info? 52).map (fun i => (i.zero, i.size, i.bytes)) = some (some (.agg #[.int .i64 0, .bool false]), 2, 16) := by kernel_rfl
theorem makeAsks (n : Nat) (h : n ≤ 1048576) (w : World) :
    (Instr.makeSlice 47 (.int .i64 (n : Int)) (.int .i64 (n : Int))).run Try.prog w = .ok (.slice (some ⟨w.heap.size, 0, none⟩) n n) (w.alloc (.cells (madeCells (Value.agg #[.int .i64 0, .bool false]).cells (n * 2)) 52)) := by
  obtain ⟨i, hi, hz, hs, hb⟩ := info_parts infoA
  have h1 := run_make (P := Try.prog) w 47 52 i _ Try.underlying47 hi hz .i64 .i64 (n : Int) (n : Int) (by omega) (by omega) (by rw [hb]; omega) (by omega)
  rw [h1, hs, Int.toNat_natCast]
theorem madeA (n : Nat) : madeCells (Value.agg #[.int .i64 0, .bool false]).cells (n * 2) = (cellsA (List.replicate n ((0 : Int), false))).toArray := by
  apply Array.ext
  · rw [size_madeCells, List.size_toArray, cellsA_len, List.length_replicate]
  · intro i h1 h2
    rw [size_madeCells] at h1
    have e : (cellsA (List.replicate n ((0 : Int), false)))[i]? = some (if i % 2 = 0 then Value.int .i64 0 else Value.bool false) := by
      have hj := cellsA_at (List.replicate n ((0 : Int), false)) (i / 2) (0, false) (by rw [List.getElem?_replicate, if_pos (by omega)])
      by_cases h : i % 2 = 0
      · rw [if_pos h, ← hj.1, show i / 2 * 2 = i by omega]
      · rw [if_neg h, ← hj.2, show i / 2 * 2 + 1 = i by omega]
    have e2 : (cellsA (List.replicate n ((0 : Int), false))).toArray[i] = (if i % 2 = 0 then Value.int .i64 0 else Value.bool false) := by
      rw [List.getElem_toArray]
      rw [List.getElem?_eq_getElem (by simpa using h2)] at e
      injection e
    rw [e2]
    simp only [madeCells, Array.getElem_map, Array.getElem_range]
    show (#[Value.int .i64 0, Value.bool false] : Array Value)[i % 2]! = _
    by_cases h : i % 2 = 0
    · rw [if_pos h, h]; rfl
    · rw [if_neg h, show i % 2 = 1 by omega]; rfl
def rowA (l : List (Int × Bool)) (k : Nat) : List (Int × Bool) := l.take k ++ List.replicate (l.length - k) (0, false)
theorem rowA_len (l : List (Int × Bool)) {k : Nat} (h : k ≤ l.length) : (rowA l k).length = l.length := by simp [rowA]; omega
theorem rowA_set {l : List (Int × Bool)} {k : Nat} (h : k < l.length) : (rowA l k).set k l[k] = rowA l (k + 1) := by
  unfold rowA
  have hl : (l.take k).length = k := by simp; omega
  have e1 : l.length - k = (l.length - (k + 1)) + 1 := by omega
  have e2 : l.take (k + 1) = l.take k ++ [l[k]] := List.take_succ_eq_append_getElem h
  rw [e2, e1, List.replicate_succ, List.set_append_right _ _ (by omega), hl, Nat.sub_self, List.set_cons_zero, List.append_assoc]
  rfl
theorem rowA_full (l : List (Int × Bool)) : rowA l l.length = l := by simp [rowA]
theorem rowA_nil (l : List (Int × Bool)) : rowA l 0 = List.replicate l.length (0, false) := by simp [rowA]
/-- A row of answers that the call may write. -/
structure ARes (w : World) (lo hi : Nat) (A : Option Addr) (l : List (Int × Bool)) : Prop where
  own : ∃ g, A = some ⟨g, 0, none⟩ ∧ lo ≤ g ∧ g < hi ∧ w.heap[g]? = some (.cells (cellsA l).toArray 52 (0, 0))
  top : hi ≤ w.heap.size
theorem ARes.step {w w' : World} {lo hi : Nat} {A : Option Addr} {l : List (Int × Bool)} (h : ARes w lo hi A l) (hb : Below w.heap.size w w') : ARes w' lo hi A l := by
  obtain ⟨g, e, h1, h2, hr⟩ := h.own
  exact ⟨⟨g, e, h1, h2, (hb.block g (row_ltI hr)).trans hr⟩, Nat.le_trans h.top hb.size⟩
theorem ARes.ins {w : World} {lo hi : Nat} {A : Option Addr} {l : List (Int × Bool)} (h : ARes w lo hi A l) : AIns w lo hi A l := by
  obtain ⟨g, e, h1, h2, hr⟩ := h.own
  refine ⟨fun _ => ⟨g, 0, e, h1, h2, fun j x hx => ?_⟩, h.top⟩
  have := cellsA_at l j x hx
  rw [Nat.zero_add, row_cellI hr, row_cellI hr]
  exact ⟨by simpa using this.1, by simpa using this.2⟩

end Go.Proofs.Ytdkffkgoalgjmac
