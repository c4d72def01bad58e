/- Slices of answers, and what the laws' own helpers do with them. -/
import Derived.Test.YtdkffkgoalgjmaaAfter
import Derived.Deep.SlicePairs
namespace Go.Proofs.Ytdkffkgoalgjmaa
open Go.RowKit Go.ChangeShapes Go.WideShapes
set_option linter.unusedVariables false

/-- The slice at A reads as the answers l, in a block of lo..hi-1. -/
def Asks (w : World) (lo hi : Nat) (A : Option Addr) (l : List (Int × Bool)) : Prop :=
  0 < l.length → ∃ b o, A = some ⟨b, o, none⟩ ∧ lo ≤ b ∧ b < hi ∧ ∀ (j : Nat) (x : Int × Bool), l[j]? = some x → w.cell? ⟨b, o + j * 2, none⟩ = some (.int .i64 x.1) ∧ w.cell? ⟨b, o + j * 2 + 1, none⟩ = some (.bool x.2)
theorem Asks.at_ {w : World} {lo hi : Nat} {A : Option Addr} {l : List (Int × Bool)} (h : Asks w lo hi A l) {k : Nat} (hk : k < l.length) :
    ∃ b o, A = some ⟨b, o, none⟩ ∧ lo ≤ b ∧ b < hi ∧ w.cell? ⟨b, o + k * 2, none⟩ = some (.int .i64 l[k].1) ∧ w.cell? ⟨b, o + k * 2 + 1, none⟩ = some (.bool l[k].2) := by
  obtain ⟨b, o, e, h1, h2, hc⟩ := h (by omega)
  obtain ⟨c1, c2⟩ := hc k _ (List.getElem?_eq_getElem hk)
  exact ⟨b, o, e, h1, h2, c1, c2⟩
/-- Answers that are there. -/
structure AIns (w : World) (lo hi : Nat) (A : Option Addr) (l : List (Int × Bool)) : Prop where
  asks : Asks w lo hi A l
  top : hi ≤ w.heap.size
theorem AIns.step {w w' : World} {lo hi : Nat} {A : Option Addr} {l : List (Int × Bool)} (h : AIns w lo hi A l) (hb : Below w.heap.size w w') : AIns w' lo hi A l :=
  ⟨fun h0 => by
    obtain ⟨b, o, e, h1, h2, hc⟩ := h.asks h0
    have hbl : b < w.heap.size := Nat.lt_of_lt_of_le h2 h.top
    exact ⟨b, o, e, h1, h2, fun j x hx => ⟨(World.cell?_of_block (hb.block b hbl)).trans (hc j x hx).1, (World.cell?_of_block (hb.block b hbl)).trans (hc j x hx).2⟩⟩, Nat.le_trans h.top hb.size⟩
theorem AIns.within {w w' : World} {lo hi l t : Nat} {A : Option Addr} {xs : List (Int × Bool)} (h : AIns w lo hi A xs) (hb : Within l t w w') (hd : hi ≤ l ∨ t ≤ lo) : AIns w' lo hi A xs :=
  ⟨fun h0 => by
    obtain ⟨b, o, e, h1, h2, hc⟩ := h.asks h0
    have hbl : b < w.heap.size := Nat.lt_of_lt_of_le h2 h.top
    have hbb := hb.block b hbl (by omega)
    exact ⟨b, o, e, h1, h2, fun j x hx => ⟨(World.cell?_of_block hbb).trans (hc j x hx).1, (World.cell?_of_block hbb).trans (hc j x hx).2⟩⟩, Nat.le_trans h.top hb.size⟩
theorem askV (x : Int × Bool) : (Value.agg #[.int .i64 x.1, .bool x.2]).cells = #[.int .i64 x.1, .bool x.2] := rfl

theorem szAskedS_any (A : Option Addr) (c n : Nat) (left : Nat) (w : World) (hn : n ≤ maxLen) (hl : left ≤ 1048576) :
    Calls Try.prog 23 #[.slice A n c, .int .i64 left] w fun e w' => e = .returned (.int .i64 (szI n left)) ∧ Below w.heap.size w w' := by
  unfold maxLen at hn
  by_cases h : n ≤ left
  · rw [szI_yes h, show ((left - n : Nat) : Int) = (left : Int) - (n : Int) by omega]
    go_enter Try.func23, Try.ntmps23
    go_wp2
    go_ret
    exact ⟨rfl, Below.refl _ _⟩
  · rw [szI_no (by omega)]
    go_enter Try.func23, Try.ntmps23
    go_wp2
    go_ret
    exact ⟨rfl, Below.refl _ _⟩

/-- A row of answers while it is being filled: the first k are there. -/
def cellsA : List (Int × Bool) → List Value
  | [] => []
  | x :: r => .int .i64 x.1 :: .bool x.2 :: cellsA r
theorem cellsA_len : ∀ l, (cellsA l).length = l.length * 2
  | [] => rfl
  | x :: r => by simp [cellsA, cellsA_len r]; omega
theorem cellsA_at : ∀ (l : List (Int × Bool)) (j : Nat) (x : Int × Bool), l[j]? = some x → (cellsA l)[j * 2]? = some (.int .i64 x.1) ∧ (cellsA l)[j * 2 + 1]? = some (.bool x.2)
  | [], j, x, h => by simp at h
  | y :: r, 0, x, h => by simp at h; subst h; exact ⟨rfl, rfl⟩
  | y :: r, j + 1, x, h => by
    have := cellsA_at r j x (by simpa using h)
    have e : (j + 1) * 2 = j * 2 + 1 + 1 := by omega
    rw [e]
    exact ⟨this.1, this.2⟩
theorem cellsA_set : ∀ (l : List (Int × Bool)) (k : Nat) (x : Int × Bool), k < l.length → ((cellsA l).set (k * 2) (.int .i64 x.1)).set (k * 2 + 1) (.bool x.2) = cellsA (l.set k x)
  | [], k, x, h => by simp at h
  | y :: r, 0, x, h => rfl
  | y :: r, k + 1, x, h => by
    have ih := cellsA_set r k x (by simpa using h)
    have e : (k + 1) * 2 = k * 2 + 1 + 1 := by omega
    rw [e]
    show Value.int .i64 y.1 :: Value.bool y.2 :: ((cellsA r).set (k * 2) _).set (k * 2 + 1) _ = _
    rw [ih]
    rfl
theorem infoA : (Try.prog.info? 32).map (fun i => (i.zero, i.size, i.bytes)) = some (some (.agg #[.int .i64 0, .bool false]), 2, 16) := by kernel_rfl
theorem makeAsks (n : Nat) (h : n ≤ 1048576) (w : World) :
    (Instr.makeSlice 40 (.int .i64 (n : Int)) (.int .i64 (n : Int))).run Try.prog w = .ok (.slice (some ⟨w.heap.size, 0, none⟩) n n) (w.alloc (.cells (madeCells (Value.agg #[.int .i64 0, .bool false]).cells (n * 2)) 32)) := by
  obtain ⟨i, hi, hz, hs, hb⟩ := info_parts infoA
  have h1 := run_make (P := Try.prog) w 40 32 i _ Try.underlying40 hi hz .i64 .i64 (n : Int) (n : Int) (by omega) (by omega) (by rw [hb]; omega) (by omega)
  rw [h1, hs, Int.toNat_natCast]
theorem madeA (n : Nat) : madeCells (Value.agg #[.int .i64 0, .bool false]).cells (n * 2) = (cellsA (List.replicate n ((0 : Int), false))).toArray := by
  apply Array.ext
  · rw [size_madeCells, List.size_toArray, cellsA_len, List.length_replicate]
  · intro i h1 h2
    rw [size_madeCells] at h1
    have e : (cellsA (List.replicate n ((0 : Int), false)))[i]? = some (if i % 2 = 0 then Value.int .i64 0 else Value.bool false) := by
      have hj := cellsA_at (List.replicate n ((0 : Int), false)) (i / 2) (0, false) (by rw [List.getElem?_replicate, if_pos (by omega)])
      by_cases h : i % 2 = 0
      · rw [if_pos h, ← hj.1, show i / 2 * 2 = i by omega]
      · rw [if_neg h, ← hj.2, show i / 2 * 2 + 1 = i by omega]
    have e2 : (cellsA (List.replicate n ((0 : Int), false))).toArray[i] = (if i % 2 = 0 then Value.int .i64 0 else Value.bool false) := by
      rw [List.getElem_toArray]
      rw [List.getElem?_eq_getElem (by simpa using h2)] at e
      injection e
    rw [e2]
    simp only [madeCells, Array.getElem_map, Array.getElem_range]
    show (#[Value.int .i64 0, Value.bool false] : Array Value)[i % 2]! = _
    by_cases h : i % 2 = 0
    · rw [if_pos h, h]; rfl
    · rw [if_neg h, show i % 2 = 1 by omega]; rfl
def rowA (l : List (Int × Bool)) (k : Nat) : List (Int × Bool) := l.take k ++ List.replicate (l.length - k) (0, false)
theorem rowA_len (l : List (Int × Bool)) {k : Nat} (h : k ≤ l.length) : (rowA l k).length = l.length := by simp [rowA]; omega
theorem rowA_set {l : List (Int × Bool)} {k : Nat} (h : k < l.length) : (rowA l k).set k l[k] = rowA l (k + 1) := by
  unfold rowA
  have hl : (l.take k).length = k := by simp; omega
  have e1 : l.length - k = (l.length - (k + 1)) + 1 := by omega
  have e2 : l.take (k + 1) = l.take k ++ [l[k]] := List.take_succ_eq_append_getElem h
  rw [e2, e1, List.replicate_succ, List.set_append_right _ _ (by omega), hl, Nat.sub_self, List.set_cons_zero, List.append_assoc]
  rfl
theorem rowA_full (l : List (Int × Bool)) : rowA l l.length = l := by simp [rowA]
theorem rowA_nil (l : List (Int × Bool)) : rowA l 0 = List.replicate l.length (0, false) := by simp [rowA]
/-- A row of answers that the call may write. -/
structure ARes (w : World) (lo hi : Nat) (A : Option Addr) (l : List (Int × Bool)) : Prop where
  own : ∃ g, A = some ⟨g, 0, none⟩ ∧ lo ≤ g ∧ g < hi ∧ w.heap[g]? = some (.cells (cellsA l).toArray 32 (0, 0))
  top : hi ≤ w.heap.size
theorem ARes.step {w w' : World} {lo hi : Nat} {A : Option Addr} {l : List (Int × Bool)} (h : ARes w lo hi A l) (hb : Below w.heap.size w w') : ARes w' lo hi A l := by
  obtain ⟨g, e, h1, h2, hr⟩ := h.own
  exact ⟨⟨g, e, h1, h2, (hb.block g (row_ltI hr)).trans hr⟩, Nat.le_trans h.top hb.size⟩
theorem ARes.ins {w : World} {lo hi : Nat} {A : Option Addr} {l : List (Int × Bool)} (h : ARes w lo hi A l) : AIns w lo hi A l := by
  obtain ⟨g, e, h1, h2, hr⟩ := h.own
  refine ⟨fun _ => ⟨g, 0, e, h1, h2, fun j x hx => ?_⟩, h.top⟩
  have := cellsA_at l j x hx
  rw [Nat.zero_add, row_cellI hr, row_cellI hr]
  exact ⟨by simpa using this.1, by simpa using this.2⟩

set_option maxHeartbeats 1000000 in
theorem toAskedL_any (q : Int) (y : Bool) (w : World) :
    Calls Try.prog 18 #[.agg #[.int .i64 q, .bool y]] w fun e w' => e = .returned (.agg #[.int .i64 q, .bool y]) ∧ Below w.heap.size w w' := by
  go_enter Try.func18, Try.ntmps18
  go_wp2
  refine bodyPost_ret (v := .agg #[.int .i64 q, .bool y]) (by simp [results, go_sem]) rfl ?_
  exact ⟨rfl, (((Below.refl _ _).alloc (Nat.le_refl _) _).alloc (by simp) _).alloc (by simp; omega) _⟩

set_option maxRecDepth 100000 in
set_option maxHeartbeats 2000000 in
theorem toAskedS_any (A : Option Addr) (c lo hi : Nat) (l : List (Int × Bool)) (w : World) (hS : AIns w lo hi A l) (hn : l.length ≤ 1048576) :
    Calls Try.prog 25 #[.slice A l.length c] w fun e w' => ∃ B, e = .returned (.slice B l.length l.length) ∧ ARes w' w.heap.size w'.heap.size B l ∧ Below w.heap.size w w' := by
  have HS := Lib.hid hS
  have hmk := makeAsks l.length hn
  simp only [madeA, ← rowA_nil] at hmk
  have hh := hS.top
  clear hS
  have hb1 := (Below.refl w.heap.size w).alloc (Nat.le_refl _) (.cells (cellsA (rowA l 0)).toArray 32)
  have hr1 := alloc_row w (cellsA (rowA l 0)).toArray 32
  go_enter Try.func25, Try.ntmps25
  go_wp2_with fail
  clear hmk
  generalize w.alloc (.cells (cellsA (rowA l 0)).toArray 32) = wa at hb1 hr1 ⊢
  have hlw := row_ltI hr1
  go_loopw [4] (fun i wr => ∃ k : Nat, k ≤ l.length ∧ i = .int .i64 k ∧ Hid (wr.heap[w.heap.size]? = some (.cells (cellsA (rowA l k)).toArray 32 (0, 0))) ∧ Hid (Within w.heap.size (w.heap.size + 1) wa wr)) (fun i _ => l.length - (intOf i).toNat)
  case atStart => exact ⟨0, Nat.zero_le _, rfl, hr1, Within.refl _ _ _⟩
  case round =>
    obtain ⟨k, hk, rfl, HR, HW⟩ := hrel
    by_cases hlt : k < l.length
    · have HI := ((HS.out.step hb1).within HW.out (.inl hh))
      obtain ⟨b, o, rfl, _, hb, hc1, hc2⟩ := HI.asks.at_ hlt
      have HF := Lib.hid (rowA_set hlt)
      have HTA := Lib.hid (fun W => toAskedL_any l[k].1 l[k].2 W)
      have HL := Lib.hid (rowA_len l hk)
      generalize hx : l[k] = x at hc1 hc2 HF HTA
      go_wp2_with fail
      refine (HTA.out _).mono ?_
      rintro e w3 ⟨rfl, hb3⟩
      have hr3 := (hb3.block w.heap.size (row_ltI HR.out)).trans HR.out
      have HW3 := Lib.hid (HW.out.trans (Within.of_below hb3))
      clear hb3 hc1 hc2 hx
      have hlen : (cellsA (rowA l k)).length = l.length * 2 := by rw [cellsA_len, HL.out]
      obtain ⟨u0, hu0⟩ : ∃ u, w3.cell? ⟨w.heap.size, k * 2, none⟩ = some u := by
        rw [row_cellI hr3]
        exact ⟨_, Array.getElem?_eq_getElem (by rw [List.size_toArray]; omega)⟩
      obtain ⟨u1, hu1⟩ : ∃ u, w3.cell? ⟨w.heap.size, k * 2 + 1, none⟩ = some u := by
        rw [row_cellI hr3]
        exact ⟨_, Array.getElem?_eq_getElem (by rw [List.size_toArray]; omega)⟩
      have hf0 := row_freeI hr3 (k * 2)
      have hf1 := row_freeI hr3 (k * 2 + 1)
      have hset := row_setI (row_setI hr3 (k * 2) (.int .i64 x.1)) (k * 2 + 1) (.bool x.2)
      rw [List.setIfInBounds_toArray, List.setIfInBounds_toArray, cellsA_set _ _ _ (by rw [HL.out]; exact hlt), HF.out] at hset
      have HR2 := Lib.hid hset
      have HW2 := Lib.hid (within_set (within_set HW3.out (Nat.le_refl w.heap.size) (Nat.lt_succ_self _) (k * 2) (.int .i64 x.1)) (Nat.le_refl w.heap.size) (Nat.lt_succ_self _) (k * 2 + 1) (.bool x.2))
      clear hset hr3 hlen
      go_wp2
      go_roundw
      case rel => exact ⟨k + 1, by omega, by go_num, HR2, HW2⟩
      case measure => simp [intOf]; omega
    · obtain rfl : k = l.length := by omega
      go_wp2
      go_ret
      refine ⟨_, rfl, ⟨⟨w.heap.size, rfl, Nat.le_refl _, row_ltI HR.out, ?_⟩, Nat.le_refl _⟩, hb1.trans (HW.out.below (Nat.le_refl _) hb1.size)⟩
      rw [HR.out, rowA_full]

theorem eqAsked_same (q : Int) (y : Bool) (w : World) :
    Calls Try.prog 63 #[.agg #[.int .i64 q, .bool y], .agg #[.int .i64 q, .bool y]] w fun e w' => e = .returned (.bool true) ∧ Below w.heap.size w w' := by
  go_enter Try.func63, Try.ntmps63
  go_wp2_with fail
  all_goals (try go_quiet (fail))
  all_goals (try go_wp2)
  go_ret
  exact ⟨rfl, ((Below.refl _ _).alloc (Nat.le_refl _) _).alloc (by simp) _⟩

set_option maxRecDepth 100000 in
set_option maxHeartbeats 2000000 in
theorem eqAskedS_same (A A' : Option Addr) (c c' lo hi lo' hi' : Nat) (l : List (Int × Bool)) (w : World) (hS : AIns w lo hi A l) (hS' : AIns w lo' hi' A' l) (hn : l.length ≤ 1048576) :
    Calls Try.prog 27 #[.slice A l.length c, .slice A' l.length c'] w fun e w' => e = .returned (.bool true) ∧ Below w.heap.size w w' := by
  have HS := Lib.hid hS
  have HS' := Lib.hid hS'
  clear hS hS'
  go_enter Try.func27, Try.ntmps27
  go_wp2
  go_loopw [5] (fun i wr => ∃ k : Nat, k ≤ l.length ∧ i = .int .i64 k ∧ Hid (Below w.heap.size w wr)) (fun i _ => l.length - (intOf i).toNat)
  case atStart => exact ⟨0, Nat.zero_le _, rfl, Below.refl _ _⟩
  case round =>
    obtain ⟨k, hk, rfl, HB⟩ := hrel
    by_cases hlt : k < l.length
    · obtain ⟨b, o, rfl, _, _, hc1, hc2⟩ := (HS.out.step HB.out).asks.at_ hlt
      obtain ⟨b', o', rfl, _, _, hd1, hd2⟩ := (HS'.out.step HB.out).asks.at_ hlt
      have hz : (k : Int) < (l.length : Int) := by omega
      have HE := Lib.hid (fun W => eqAsked_same l[k].1 l[k].2 W)
      generalize l[k] = x at hc1 hc2 hd1 hd2 HE
      go_wp2_with fail
      go_region_with (go_at_call 63; refine (HE.out _).mono ?_; rintro e w3 ⟨rfl, hb⟩; have HB3 := Lib.hid (below_trans (HB.out.drew) hb); clear hb)
      all_goals
        go_wp2
        go_roundw
        case rel => exact ⟨k + 1, by omega, by go_num, HB3⟩
        case measure => simp [intOf]; omega
    · go_wp2
      go_ret
      exact ⟨rfl, HB.out⟩
end Go.Proofs.Ytdkffkgoalgjmaa
