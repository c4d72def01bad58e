/- Rows of nodes: read, compared, marked, held. -/
import Derived.Test.YtdkffkgoalgjmacL9N
import Derived.Test.YtdkffkgoalgjmacAsks
import Derived.Test.YtdkffkgoalgjmacRow8
import Derived.Test.YtdkffkgoalgjmacBehind
namespace Go.Proofs.Ytdkffkgoalgjmac
open Go.RowKit Go.ChangeShapes Go.WideShapes
set_option linter.unusedVariables false

/-- The slice at A reads as the nodes l, in a block of lo..hi-1. -/
def Nds (w : World) (lo hi : Nat) (A : Option Addr) (l : List (Int × Int × Int)) : Prop :=
  0 < l.length → ∃ b o, A = some ⟨b, o, none⟩ ∧ lo ≤ b ∧ b < hi ∧ ∀ (j : Nat) (x : Int × Int × Int), l[j]? = some x → w.cell? ⟨b, o + j * 3, none⟩ = some (.int .i64 x.1) ∧ w.cell? ⟨b, o + j * 3 + 1, none⟩ = some (.int .i64 x.2.1) ∧ w.cell? ⟨b, o + j * 3 + 2, none⟩ = some (.int .i64 x.2.2)
theorem Nds.at_ {w : World} {lo hi : Nat} {A : Option Addr} {l : List (Int × Int × Int)} (h : Nds w lo hi A l) {k : Nat} (hk : k < l.length) :
    ∃ b o, A = some ⟨b, o, none⟩ ∧ lo ≤ b ∧ b < hi ∧ w.cell? ⟨b, o + k * 3, none⟩ = some (.int .i64 l[k].1) ∧ w.cell? ⟨b, o + k * 3 + 1, none⟩ = some (.int .i64 l[k].2.1) ∧ w.cell? ⟨b, o + k * 3 + 2, none⟩ = some (.int .i64 l[k].2.2) := by
  obtain ⟨b, o, e, h1, h2, hc⟩ := h (by omega)
  obtain ⟨c1, c2, c3⟩ := hc k _ (List.getElem?_eq_getElem hk)
  exact ⟨b, o, e, h1, h2, c1, c2, c3⟩
/-- Nodes that are there. -/
structure NIns (w : World) (lo hi : Nat) (A : Option Addr) (l : List (Int × Int × Int)) : Prop where
  nds : Nds w lo hi A l
  top : hi ≤ w.heap.size
theorem NIns.within {w w' : World} {lo hi l t : Nat} {A : Option Addr} {xs : List (Int × Int × Int)} (h : NIns w lo hi A xs) (hb : Within l t w w') (hd : hi ≤ l ∨ t ≤ lo) : NIns w' lo hi A xs :=
  ⟨fun h0 => by
    obtain ⟨b, o, e, h1, h2, hc⟩ := h.nds h0
    have hbl : b < w.heap.size := Nat.lt_of_lt_of_le h2 h.top
    have hbb := hb.block b hbl (by omega)
    exact ⟨b, o, e, h1, h2, fun j x hx => ⟨(World.cell?_of_block hbb).trans (hc j x hx).1, (World.cell?_of_block hbb).trans (hc j x hx).2.1, (World.cell?_of_block hbb).trans (hc j x hx).2.2⟩⟩, Nat.le_trans h.top hb.size⟩
theorem NIns.step {w w' : World} {lo hi : Nat} {A : Option Addr} {l : List (Int × Int × Int)} (h : NIns w lo hi A l) (hb : Below w.heap.size w w') : NIns w' lo hi A l :=
  h.within (l := w.heap.size) (t := w.heap.size) (Within.of_below hb) (.inl h.top)
theorem NIns.past {B lo hi : Nat} {w w' : World} {A : Option Addr} {l : List (Int × Int × Int)} (h : NIns w lo hi A l) (hp : Past B w w') (hh : hi ≤ B) : NIns w' lo hi A l :=
  h.within (l := B) (t := w.heap.size) ⟨hp.os, hp.tape, hp.output, hp.size, fun i hi hd => hp.block i hi (by omega)⟩ (.inl hh)

/-- The cells of one node. -/
structure Nd3 (w : World) (b o : Nat) (x : Int × Int × Int) : Prop where
  c0 : w.cell? ⟨b, o, none⟩ = some (.int .i64 x.1)
  c1 : w.cell? ⟨b, o + 1, none⟩ = some (.int .i64 x.2.1)
  c2 : w.cell? ⟨b, o + 2, none⟩ = some (.int .i64 x.2.2)
  lt : b < w.heap.size
theorem Nd3.step {w w' : World} {b o : Nat} {x : Int × Int × Int} (h : Nd3 w b o x) (hb : Below w.heap.size w w') : Nd3 w' b o x :=
  ⟨(World.cell?_of_block (hb.block b h.lt)).trans h.c0, (World.cell?_of_block (hb.block b h.lt)).trans h.c1, (World.cell?_of_block (hb.block b h.lt)).trans h.c2, Nat.lt_of_lt_of_le h.lt hb.size⟩
theorem NIns.at3 {w : World} {lo hi : Nat} {A : Option Addr} {l : List (Int × Int × Int)} (h : NIns w lo hi A l) {k : Nat} (hk : k < l.length) : ∃ b o, A = some ⟨b, o, none⟩ ∧ Nd3 w b (o + k * 3) l[k] := by
  obtain ⟨b, o, e, _, h2, c0, c1, c2⟩ := h.nds.at_ hk
  exact ⟨b, o, e, c0, c1, c2, Nat.lt_of_lt_of_le h2 h.top⟩

theorem szNodeS_any (A : Option Addr) (c n : Nat) (left : Nat) (w : World) (hn : n ≤ maxLen) (hl : left ≤ 1048576) :
    Calls Try.prog 56 #[.slice A n c, .int .i64 left] w fun e w' => e = .returned (.int .i64 (szI n left)) ∧ Below w.heap.size w w' := by
  unfold maxLen at hn
  by_cases h : n ≤ left
  · rw [szI_yes h, show ((left - n : Nat) : Int) = (left : Int) - (n : Int) by omega]
    go_enter Try.func56, Try.ntmps56
    go_wp2
    go_ret
    exact ⟨rfl, Below.refl _ _⟩
  · rw [szI_no (by omega)]
    go_enter Try.func56, Try.ntmps56
    go_wp2
    go_ret
    exact ⟨rfl, Below.refl _ _⟩
theorem szTree_any (A : Option Addr) (c n : Nat) (left : Nat) (w : World) (hn : n ≤ maxLen) (hl : left ≤ 1048576) :
    Calls Try.prog 8 #[.agg #[.slice A n c], .int .i64 left] w fun e w' => e = .returned (.int .i64 (szI n left)) ∧ Below w.heap.size w w' := by
  have HC := Lib.hid (fun W => szNodeS_any A c n left W hn hl)
  have hb0 := Lib.hid ((Below.refl w.heap.size w).alloc (Nat.le_refl _) (.cells #[.slice A n c] 24))
  by_cases h : n ≤ left
  · have h0 : (0 : Int) ≤ szI n left := by rw [szI_yes h]; omega
    generalize szI n left = z at HC h0
    clear h
    go_enter Try.func8, Try.ntmps8
    go_wp2_with fail
    refine (HC.out _).mono ?_
    rintro e w' ⟨rfl, hb⟩
    have HB := Lib.hid (below_trans hb0.out hb)
    clear hb
    go_wp2
    go_ret
    exact ⟨rfl, HB.out⟩
  · rw [szI_no (by omega)] at HC ⊢
    clear h
    go_enter Try.func8, Try.ntmps8
    go_wp2_with fail
    refine (HC.out _).mono ?_
    rintro e w' ⟨rfl, hb⟩
    have HB := Lib.hid (below_trans hb0.out hb)
    clear hb
    go_wp2
    go_ret
    exact ⟨rfl, HB.out⟩

/-- The cells of nodes. -/
def cellsN : List (Int × Int × Int) → List Value
  | [] => []
  | x :: r => .int .i64 x.1 :: .int .i64 x.2.1 :: .int .i64 x.2.2 :: cellsN r
theorem cellsN_len : ∀ l, (cellsN l).length = l.length * 3
  | [] => rfl
  | x :: r => by simp [cellsN, cellsN_len r]; omega
theorem cellsN_at : ∀ (l : List (Int × Int × Int)) (j : Nat) (x : Int × Int × Int), l[j]? = some x → (cellsN l)[j * 3]? = some (.int .i64 x.1) ∧ (cellsN l)[j * 3 + 1]? = some (.int .i64 x.2.1) ∧ (cellsN l)[j * 3 + 2]? = some (.int .i64 x.2.2)
  | [], j, x, h => by simp at h
  | y :: r, 0, x, h => by simp at h; subst h; exact ⟨rfl, rfl, rfl⟩
  | y :: r, j + 1, x, h => by
    have := cellsN_at r j x (by simpa using h)
    have e : (j + 1) * 3 = j * 3 + 1 + 1 + 1 := by omega
    rw [e]
    exact ⟨this.1, this.2.1, this.2.2⟩
theorem cellsN_set : ∀ (l : List (Int × Int × Int)) (k : Nat) (x : Int × Int × Int), k < l.length → (((cellsN l).set (k * 3) (.int .i64 x.1)).set (k * 3 + 1) (.int .i64 x.2.1)).set (k * 3 + 2) (.int .i64 x.2.2) = cellsN (l.set k x)
  | [], k, x, h => by simp at h
  | y :: r, 0, x, h => rfl
  | y :: r, k + 1, x, h => by
    have ih := cellsN_set r k x (by simpa using h)
    have e : (k + 1) * 3 = k * 3 + 1 + 1 + 1 := by omega
    rw [e]
    show Value.int .i64 y.1 :: Value.int .i64 y.2.1 :: Value.int .i64 y.2.2 :: (((cellsN r).set (k * 3) _).set (k * 3 + 1) _).set (k * 3 + 2) _ = _
    rw [ih]
    rfl
theorem cellsN_append : ∀ (l r : List (Int × Int × Int)), cellsN (l ++ r) = cellsN l ++ cellsN r
  | [], r => rfl
  | x :: l, r => by
    show Value.int .i64 x.1 :: Value.int .i64 x.2.1 :: Value.int .i64 x.2.2 :: cellsN (l ++ r) = _
    rw [cellsN_append l r]; rfl
theorem cellsN_one : ∀ (l : List (Int × Int × Int)), ∀ u ∈ cellsN l, u.oneCell' = true
  | [], u, h => by cases h
  | x :: r, u, h => by
    rcases List.mem_cons.1 h with rfl | h
    · rfl
    rcases List.mem_cons.1 h with rfl | h
    · rfl
    rcases List.mem_cons.1 h with rfl | h
    · rfl
    exact cellsN_one r u h
theorem infoN : (Try.prog.info? 125).map (fun i => (i.zero, i.size, i.bytes)) = some (some (.agg #[.int .i64 0, .int .i64 0, .int .i64 0]), 3, 24) := by kernel_rfl
theorem makeNodes (n : Nat) (h : n ≤ 1048576) (w : World) :
    (Instr.makeSlice 31 (.int .i64 (n : Int)) (.int .i64 (n : Int))).run Try.prog w = .ok (.slice (some ⟨w.heap.size, 0, none⟩) n n) (w.alloc (.cells (madeCells (Value.agg #[.int .i64 0, .int .i64 0, .int .i64 0]).cells (n * 3)) 125)) := by
  obtain ⟨i, hi, hz, hs, hb⟩ := info_parts infoN
  have h1 := run_make (P := Try.prog) w 31 125 i _ Try.underlying31 hi hz .i64 .i64 (n : Int) (n : Int) (by omega) (by omega) (by rw [hb]; omega) (by omega)
  rw [h1, hs, Int.toNat_natCast]
theorem cellsN_rep (n i : Nat) (h : i < n * 3) : (cellsN (List.replicate n ((0 : Int), (0 : Int), (0 : Int))))[i]? = some (Value.int .i64 0) := by
  have hj := cellsN_at (List.replicate n ((0 : Int), (0 : Int), (0 : Int))) (i / 3) (0, 0, 0) (by rw [List.getElem?_replicate, if_pos (by omega)])
  have hm : i % 3 = 0 ∨ i % 3 = 1 ∨ i % 3 = 2 := by omega
  rcases hm with e | e | e
  · rw [← hj.1, show i / 3 * 3 = i by omega]
  · rw [← hj.2.1, show i / 3 * 3 + 1 = i by omega]
  · rw [← hj.2.2, show i / 3 * 3 + 2 = i by omega]
theorem madeN (n : Nat) : madeCells (Value.agg #[.int .i64 0, .int .i64 0, .int .i64 0]).cells (n * 3) = (cellsN (List.replicate n ((0 : Int), (0 : Int), (0 : Int)))).toArray := by
  apply Array.ext
  · rw [size_madeCells, List.size_toArray, cellsN_len, List.length_replicate]
  · intro i h1 h2
    rw [size_madeCells] at h1
    have e := cellsN_rep n i h1
    have e2 : (cellsN (List.replicate n ((0 : Int), (0 : Int), (0 : Int)))).toArray[i] = Value.int .i64 0 := by
      rw [List.getElem_toArray]
      rw [List.getElem?_eq_getElem (by simpa using h2)] at e
      injection e
    rw [e2]
    simp only [madeCells, Array.getElem_map, Array.getElem_range]
    show (#[Value.int .i64 0, Value.int .i64 0, Value.int .i64 0] : Array Value)[i % 3]! = _
    have hm : i % 3 = 0 ∨ i % 3 = 1 ∨ i % 3 = 2 := by omega
    rcases hm with e | e | e <;> (rw [e]; rfl)
def rowN (l : List (Int × Int × Int)) (k : Nat) : List (Int × Int × Int) := l.take k ++ List.replicate (l.length - k) (0, 0, 0)
theorem rowN_len (l : List (Int × Int × Int)) {k : Nat} (h : k ≤ l.length) : (rowN l k).length = l.length := by simp [rowN]; omega
theorem rowN_set {l : List (Int × Int × Int)} {k : Nat} (h : k < l.length) : (rowN l k).set k l[k] = rowN l (k + 1) := by
  unfold rowN
  have hl : (l.take k).length = k := by simp; omega
  have e1 : l.length - k = (l.length - (k + 1)) + 1 := by omega
  have e2 : l.take (k + 1) = l.take k ++ [l[k]] := List.take_succ_eq_append_getElem h
  rw [e2, e1, List.replicate_succ, List.set_append_right _ _ (by omega), hl, Nat.sub_self, List.set_cons_zero, List.append_assoc]
  rfl
theorem rowN_full (l : List (Int × Int × Int)) : rowN l l.length = l := by simp [rowN]
theorem rowN_nil (l : List (Int × Int × Int)) : rowN l 0 = List.replicate l.length (0, 0, 0) := by simp [rowN]

/-- A slice of nodes that the call may write: nothing, or the first places of a row of its own. -/
def NOwn (w : World) (lo hi : Nat) (A : Option Addr) (l : List (Int × Int × Int)) : Prop :=
  (A = none ∧ l = []) ∨ ∃ g cur, A = some ⟨g, 0, none⟩ ∧ lo ≤ g ∧ g < hi ∧ w.heap[g]? = some (.cells cur 125 (0, 0)) ∧ l.length * 3 ≤ cur.size ∧ ∀ (j : Nat) (x : Int × Int × Int), l[j]? = some x → cur[j * 3]? = some (.int .i64 x.1) ∧ cur[j * 3 + 1]? = some (.int .i64 x.2.1) ∧ cur[j * 3 + 2]? = some (.int .i64 x.2.2)
structure NMade (w : World) (lo hi : Nat) (A : Option Addr) (l : List (Int × Int × Int)) : Prop where
  own : NOwn w lo hi A l
  top : hi ≤ w.heap.size
theorem NMade.within {w w' : World} {lo hi l t : Nat} {A : Option Addr} {xs : List (Int × Int × Int)} (h : NMade w lo hi A xs) (hb : Within l t w w') (hd : hi ≤ l ∨ t ≤ lo) : NMade w' lo hi A xs := by
  refine ⟨?_, Nat.le_trans h.top hb.size⟩
  rcases h.own with hn | ⟨g, cur, rfl, h1, h2, hr, hs, hc⟩
  · exact .inl hn
  · exact .inr ⟨g, cur, rfl, h1, h2, (hb.block g (row_ltI hr) (by omega)).trans hr, hs, hc⟩
theorem NMade.step {w w' : World} {lo hi : Nat} {A : Option Addr} {l : List (Int × Int × Int)} (h : NMade w lo hi A l) (hb : Below w.heap.size w w') : NMade w' lo hi A l := h.within (l := w.heap.size) (t := w.heap.size) (Within.of_below hb) (.inl h.top)
theorem NMade.ins {w : World} {lo hi : Nat} {A : Option Addr} {l : List (Int × Int × Int)} (h : NMade w lo hi A l) : NIns w lo hi A l := by
  refine ⟨fun h0 => ?_, h.top⟩
  rcases h.own with ⟨_, rfl⟩ | ⟨g, cur, e, h1, h2, hr, hs, hc⟩
  · simp at h0
  · refine ⟨g, 0, e, h1, h2, fun j x hx => ?_⟩
    rw [Nat.zero_add, row_cellI hr, row_cellI hr, row_cellI hr]
    exact hc j x hx
theorem NMade.wide {w : World} {lo hi lo' hi' : Nat} {A : Option Addr} {l : List (Int × Int × Int)} (h : NMade w lo hi A l) (h1 : lo' ≤ lo) (h2 : hi ≤ hi') (h3 : hi' ≤ w.heap.size) : NMade w lo' hi' A l := by
  refine ⟨?_, h3⟩
  rcases h.own with hn | ⟨g, cur, e, g1, g2, r⟩
  · exact .inl hn
  · exact .inr ⟨g, cur, e, Nat.le_trans h1 g1, Nat.lt_of_lt_of_le g2 h2, r⟩
theorem made_rowN {w : World} {lo g : Nat} {l : List (Int × Int × Int)} (h : w.heap[g]? = some (.cells (cellsN l).toArray 125 (0, 0))) (hlo : lo ≤ g) : NMade w lo w.heap.size (some ⟨g, 0, none⟩) l :=
  ⟨.inr ⟨g, _, rfl, hlo, row_ltI h, h, by rw [List.size_toArray, cellsN_len]; exact Nat.le_refl _, fun j x hx => by
    have := cellsN_at l j x hx
    simpa using this⟩, Nat.le_refl _⟩
theorem own_resN {w : World} {B n : Nat} {v : Value} {l : List (Int × Int × Int)} (h : w.ownsRow B 125 3 v n (cellsN l)) (hn : n = l.length) :
    ∃ A c, v = .slice A l.length c ∧ NMade w B w.heap.size A l := by
  subst hn
  rcases h.2 with ⟨rfl, h0⟩ | ⟨g, cap, cur, rfl, hb, hg, hl, hm, hs, ht⟩
  · have : l = [] := List.eq_nil_of_length_eq_zero h0
    subst this
    exact ⟨none, 0, rfl, ⟨.inl ⟨rfl, rfl⟩, Nat.le_refl _⟩⟩
  · have hcl : l.length * 3 ≤ cur.size := by omega
    refine ⟨some ⟨g, 0, none⟩, cap, rfl, ⟨.inr ⟨g, cur, rfl, hb, row_ltI hg, hg, hcl, fun j x hx => ?_⟩, Nat.le_refl _⟩⟩
    have hj : j < l.length := by
      rcases Nat.lt_or_ge j l.length with h1 | h1
      · exact h1
      · rw [List.getElem?_eq_none h1] at hx; cases hx
    have hx2 := cellsN_at l j x hx
    rw [← ht, List.getElem?_take_of_lt (by omega), List.getElem?_take_of_lt (by omega), List.getElem?_take_of_lt (by omega)] at hx2
    simpa using hx2
theorem cell_three_new (w : World) (x y z : Value) (t : TypeId) : ∀ j u, [x, y, z][j]? = some u → (w.alloc (.cells #[x, y, z] t)).cell? ((⟨w.heap.size, 0, none⟩ : Addr).add j) = some u := by
  intro j u hj
  match j, hj with
  | 0, hj => simp at hj; subst hj; simp [Addr.add]
  | 1, hj => simp at hj; subst hj; simp [Addr.add]
  | 2, hj => simp at hj; subst hj; simp [Addr.add]
  | j + 3, hj => simp at hj
theorem nds_snoc {w : World} {B n : Nat} {v : Value} {l : List (Int × Int × Int)} {x : Int × Int × Int} (h : w.ownsRow B 125 3 v (n + 1) (cellsN l ++ [Value.int .i64 x.1, Value.int .i64 x.2.1, Value.int .i64 x.2.2])) (hn : n = l.length) : w.ownsRow B 125 3 v (l ++ [x]).length (cellsN (l ++ [x])) := by
  subst hn
  rw [cellsN_append]
  simpa [cellsN] using h
theorem N0_any (w : World) (B : Nat) (h : B ≤ w.heap.size) : (w.alloc (.cells #[] 125)).ownsRow B 125 3 (.slice (some ⟨w.heap.size, 0, none⟩) 0 0) 0 [] :=
  World.ownsRow_lit w (e := 125) (size := 3) (base := B) #[] 0 h (by unfold maxLen; omega) rfl

/-- A struct of three cells in a block of its own. -/
structure Three (w : World) (b : Nat) (x y z : Value) (t : TypeId) : Prop where
  row : w.heap[b]? = some (.cells #[x, y, z] t (0, 0))
theorem Three.lt {w : World} {b : Nat} {x y z : Value} {t : TypeId} (h : Three w b x y z t) : b < w.heap.size := row_ltI h.row
theorem Three.step {w w' : World} {b : Nat} {x y z : Value} {t : TypeId} (h : Three w b x y z t) (hb : Below w.heap.size w w') : Three w' b x y z t := ⟨(hb.block b h.lt).trans h.row⟩
theorem Three.within {w w' : World} {b lo hi : Nat} {x y z : Value} {t : TypeId} (h : Three w b x y z t) (hb : Within lo hi w w') (hd : b < lo ∨ hi ≤ b) : Three w' b x y z t := ⟨(hb.block b h.lt hd).trans h.row⟩
theorem Three.new (w : World) (x y z : Value) (t : TypeId) (b : Nat) (hb : b = w.heap.size) : Three (w.alloc (.cells #[x, y, z] t)) b x y z t := ⟨alloc_row' _ _ _ _ hb⟩
theorem Three.c0 {w : World} {b : Nat} {x y z : Value} {t : TypeId} (h : Three w b x y z t) : w.cell? ⟨b, 0, none⟩ = some x := by rw [row_cellI h.row]; rfl
theorem Three.c1 {w : World} {b : Nat} {x y z : Value} {t : TypeId} (h : Three w b x y z t) : w.cell? ⟨b, 1, none⟩ = some y := by rw [row_cellI h.row]; rfl
theorem Three.c2 {w : World} {b : Nat} {x y z : Value} {t : TypeId} (h : Three w b x y z t) : w.cell? ⟨b, 2, none⟩ = some z := by rw [row_cellI h.row]; rfl
theorem Three.f {w : World} {b : Nat} {x y z : Value} {t : TypeId} (h : Three w b x y z t) (i : Nat) : w.frozen? ⟨b, i, none⟩ = false := row_freeI h.row i
theorem One.within {w w' : World} {b lo hi : Nat} {x : Value} {t : TypeId} (h : One w b x t) (hb : Within lo hi w w') (hd : b < lo ∨ hi ≤ b) : One w' b x t := ⟨(hb.block b h.lt hd).trans h.row⟩
theorem One.f0 {w : World} {b : Nat} {x : Value} {t : TypeId} (h : One w b x t) : w.frozen? ⟨b, 0, none⟩ = false := row_freeI h.row 0
theorem stored1 {w : World} {b : Nat} {x0 : Value} {t : TypeId} (h : One w b x0 t) (x : Value) : One (w.setCell ⟨b, 0, none⟩ x) b x t ∧ Within b (b + 1) w (w.setCell ⟨b, 0, none⟩ x) := by
  refine ⟨⟨?_⟩, within_set (Within.refl _ _ w) (Nat.le_refl _) (Nat.lt_succ_self _) 0 x⟩
  have := row_setI h.row 0 x
  simpa using this

set_option maxHeartbeats 1000000 in
theorem toNode_any (x : Int × Int × Int) (w : World) :
    Calls Try.prog 117 #[.agg #[.int .i64 x.1, .int .i64 x.2.1, .int .i64 x.2.2]] w fun e w' => e = .returned (.agg #[.int .i64 x.1, .int .i64 x.2.1, .int .i64 x.2.2]) ∧ Below w.heap.size w w' := by
  go_enter Try.func117, Try.ntmps117
  go_wp2
  refine bodyPost_ret (v := .agg #[.int .i64 x.1, .int .i64 x.2.1, .int .i64 x.2.2]) (by simp [results, go_sem]) rfl ?_
  exact ⟨rfl, (((Below.refl _ _).alloc (Nat.le_refl _) _).alloc (by simp) _).alloc (by simp; omega) _⟩

set_option maxRecDepth 100000 in
set_option maxHeartbeats 2000000 in
theorem toNodeS_any (A : Option Addr) (c lo hi : Nat) (l : List (Int × Int × Int)) (w : World) (hS : NIns w lo hi A l) (hn : l.length ≤ 1048576) :
    Calls Try.prog 61 #[.slice A l.length c] w fun e w' => ∃ B, e = .returned (.slice B l.length l.length) ∧ NMade w' w.heap.size w'.heap.size B l ∧ Below w.heap.size w w' := by
  have HS := Lib.hid hS
  have hmk := makeNodes l.length hn
  simp only [madeN, ← rowN_nil] at hmk
  have hh := hS.top
  clear hS
  have hb1 := (Below.refl w.heap.size w).alloc (Nat.le_refl _) (.cells (cellsN (rowN l 0)).toArray 125)
  have hr1 := alloc_row w (cellsN (rowN l 0)).toArray 125
  go_enter Try.func61, Try.ntmps61
  go_wp2_with fail
  clear hmk
  generalize w.alloc (.cells (cellsN (rowN l 0)).toArray 125) = wa at hb1 hr1 ⊢
  have hlw := row_ltI hr1
  go_loopw [4] (fun i wr => ∃ k : Nat, k ≤ l.length ∧ i = .int .i64 k ∧ Hid (wr.heap[w.heap.size]? = some (.cells (cellsN (rowN l k)).toArray 125 (0, 0))) ∧ Hid (Within w.heap.size (w.heap.size + 1) wa wr)) (fun i _ => l.length - (intOf i).toNat)
  case atStart => exact ⟨0, Nat.zero_le _, rfl, hr1, Within.refl _ _ _⟩
  case round =>
    obtain ⟨k, hk, rfl, HR, HW⟩ := hrel
    by_cases hlt : k < l.length
    · have HI := ((HS.out.step hb1).within HW.out (.inl hh))
      obtain ⟨b, o, rfl, _, hb, hc1, hc2, hc3⟩ := HI.nds.at_ hlt
      have HF := Lib.hid (rowN_set hlt)
      have HTA := Lib.hid (fun W => toNode_any l[k] W)
      have HL := Lib.hid (rowN_len l hk)
      generalize hx : l[k] = x at hc1 hc2 hc3 HF HTA
      go_wp2_with fail
      refine (HTA.out _).mono ?_
      rintro e w3 ⟨rfl, hb3⟩
      have hr3 := (hb3.block w.heap.size (row_ltI HR.out)).trans HR.out
      have HW3 := Lib.hid (HW.out.trans (Within.of_below hb3))
      clear hb3 hc1 hc2 hc3 hx
      have hlen : (cellsN (rowN l k)).length = l.length * 3 := by rw [cellsN_len, HL.out]
      obtain ⟨u0, hu0⟩ : ∃ u, w3.cell? ⟨w.heap.size, k * 3, none⟩ = some u := by
        rw [row_cellI hr3]
        exact ⟨_, Array.getElem?_eq_getElem (by rw [List.size_toArray]; omega)⟩
      obtain ⟨u1, hu1⟩ : ∃ u, w3.cell? ⟨w.heap.size, k * 3 + 1, none⟩ = some u := by
        rw [row_cellI hr3]
        exact ⟨_, Array.getElem?_eq_getElem (by rw [List.size_toArray]; omega)⟩
      obtain ⟨u2, hu2⟩ : ∃ u, w3.cell? ⟨w.heap.size, k * 3 + 2, none⟩ = some u := by
        rw [row_cellI hr3]
        exact ⟨_, Array.getElem?_eq_getElem (by rw [List.size_toArray]; omega)⟩
      have hf0 := row_freeI hr3 (k * 3)
      have hf1 := row_freeI hr3 (k * 3 + 1)
      have hf2 := row_freeI hr3 (k * 3 + 2)
      have hset := row_setI (row_setI (row_setI hr3 (k * 3) (.int .i64 x.1)) (k * 3 + 1) (.int .i64 x.2.1)) (k * 3 + 2) (.int .i64 x.2.2)
      rw [List.setIfInBounds_toArray, List.setIfInBounds_toArray, List.setIfInBounds_toArray, cellsN_set _ _ _ (by rw [HL.out]; exact hlt), HF.out] at hset
      have HR2 := Lib.hid hset
      have HW2 := Lib.hid (within_set (within_set (within_set HW3.out (Nat.le_refl w.heap.size) (Nat.lt_succ_self _) (k * 3) (.int .i64 x.1)) (Nat.le_refl w.heap.size) (Nat.lt_succ_self _) (k * 3 + 1) (.int .i64 x.2.1)) (Nat.le_refl w.heap.size) (Nat.lt_succ_self _) (k * 3 + 2) (.int .i64 x.2.2))
      clear hset hr3 hlen
      go_wp2
      go_roundw
      case rel => exact ⟨k + 1, by omega, by go_num, HR2, HW2⟩
      case measure => simp [intOf]; omega
    · obtain rfl : k = l.length := by omega
      go_wp2
      go_ret
      refine ⟨_, rfl, ?_, hb1.trans (HW.out.below (Nat.le_refl _) hb1.size)⟩
      have hR := HR.out
      rw [rowN_full] at hR
      exact made_rowN hR (Nat.le_refl _)
theorem eqNode_same (x : Int × Int × Int) (w : World) :
    Calls Try.prog 119 #[.agg #[.int .i64 x.1, .int .i64 x.2.1, .int .i64 x.2.2], .agg #[.int .i64 x.1, .int .i64 x.2.1, .int .i64 x.2.2]] w fun e w' => e = .returned (.bool true) ∧ Below w.heap.size w w' := by
  go_enter Try.func119, Try.ntmps119
  go_wp2
  go_ret
  exact ⟨rfl, ((Below.refl _ _).alloc (Nat.le_refl _) _).alloc (by simp) _⟩

set_option maxRecDepth 100000 in
set_option maxHeartbeats 2000000 in
theorem eqNodeS_same (A A' : Option Addr) (c c' lo hi lo' hi' : Nat) (l : List (Int × Int × Int)) (w : World) (hS : NIns w lo hi A l) (hS' : NIns w lo' hi' A' l) (hn : l.length ≤ 1048576) :
    Calls Try.prog 64 #[.slice A l.length c, .slice A' l.length c'] w fun e w' => e = .returned (.bool true) ∧ Below w.heap.size w w' := by
  have HS := Lib.hid hS
  have HS' := Lib.hid hS'
  clear hS hS'
  go_enter Try.func64, Try.ntmps64
  go_wp2
  go_loopw [5] (fun i wr => ∃ k : Nat, k ≤ l.length ∧ i = .int .i64 k ∧ Hid (Below w.heap.size w wr)) (fun i _ => l.length - (intOf i).toNat)
  case atStart => exact ⟨0, Nat.zero_le _, rfl, Below.refl _ _⟩
  case round =>
    obtain ⟨k, hk, rfl, HB⟩ := hrel
    by_cases hlt : k < l.length
    · obtain ⟨b, o, rfl, _, _, hc1, hc2, hc3⟩ := (HS.out.step HB.out).nds.at_ hlt
      obtain ⟨b', o', rfl, _, _, hd1, hd2, hd3⟩ := (HS'.out.step HB.out).nds.at_ hlt
      have hz : (k : Int) < (l.length : Int) := by omega
      have HE := Lib.hid (fun W => eqNode_same l[k] W)
      generalize l[k] = x at hc1 hc2 hc3 hd1 hd2 hd3 HE
      go_wp2_with fail
      go_region_with (go_at_call 119; refine (HE.out _).mono ?_; rintro e w3 ⟨rfl, hb⟩; have HB3 := Lib.hid (below_trans (HB.out.drew) hb); clear hb)
      all_goals
        go_wp2
        go_roundw
        case rel => exact ⟨k + 1, by omega, by go_num, HB3⟩
        case measure => simp [intOf]; omega
    · go_wp2
      go_ret
      exact ⟨rfl, HB.out⟩
end Go.Proofs.Ytdkffkgoalgjmac
