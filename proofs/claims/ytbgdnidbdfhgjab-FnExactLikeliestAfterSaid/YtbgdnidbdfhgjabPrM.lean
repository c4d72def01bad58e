/- Rows of pairs: marked, and held. -/
import Derived.Test.YtbgdnidbdfhgjabPrs
namespace Go.Proofs.Ytbgdnidbdfhgjab
open Go.RowKit Go.ChangeShapes Go.WideShapes
set_option linter.unusedVariables false

def cellsP : List (Int × Int) → List Value
  | [] => []
  | x :: r => .int .i64 x.1 :: .int .i64 x.2 :: cellsP r
theorem cellsP_len : ∀ l, (cellsP l).length = l.length * 2
  | [] => rfl
  | x :: r => by simp [cellsP, cellsP_len r]; omega
theorem cellsP_at : ∀ (l : List (Int × Int)) (j : Nat) (x : Int × Int), l[j]? = some x → (cellsP l)[j * 2]? = some (.int .i64 x.1) ∧ (cellsP l)[j * 2 + 1]? = some (.int .i64 x.2)
  | [], j, x, h => by simp at h
  | y :: r, 0, x, h => by simp at h; subst h; exact ⟨rfl, rfl⟩
  | y :: r, j + 1, x, h => by
    have := cellsP_at r j x (by simpa using h)
    have e : (j + 1) * 2 = j * 2 + 1 + 1 := by omega
    rw [e]
    exact ⟨this.1, this.2⟩
def POwn (w : World) (lo hi : Nat) (A : Option Addr) (l : List (Int × Int)) : Prop :=
  (A = none ∧ l = []) ∨ ∃ g cur, A = some ⟨g, 0, none⟩ ∧ lo ≤ g ∧ g < hi ∧ w.heap[g]? = some (.cells cur 85 (0, 0)) ∧ l.length * 2 ≤ cur.size ∧ ∀ (j : Nat) (x : Int × Int), l[j]? = some x → cur[j * 2]? = some (.int .i64 x.1) ∧ cur[j * 2 + 1]? = some (.int .i64 x.2)
structure PMade (w : World) (lo hi : Nat) (A : Option Addr) (l : List (Int × Int)) : Prop where
  own : POwn w lo hi A l
  top : hi ≤ w.heap.size
theorem PMade.step {w w' : World} {lo hi : Nat} {A : Option Addr} {l : List (Int × Int)} (h : PMade w lo hi A l) (hb : Below w.heap.size w w') : PMade w' lo hi A l := by
  refine ⟨?_, Nat.le_trans h.top hb.size⟩
  rcases h.own with hn | ⟨g, cur, rfl, h1, h2, hr, hs, hc⟩
  · exact .inl hn
  · exact .inr ⟨g, cur, rfl, h1, h2, (hb.block g (row_ltI hr)).trans hr, hs, hc⟩
theorem PMade.within {w w' : World} {lo hi l t : Nat} {A : Option Addr} {xs : List (Int × Int)} (h : PMade w lo hi A xs) (hb : Within l t w w') (hd : hi ≤ l ∨ t ≤ lo) : PMade w' lo hi A xs := by
  refine ⟨?_, Nat.le_trans h.top hb.size⟩
  rcases h.own with hn | ⟨g, cur, rfl, h1, h2, hr, hs, hc⟩
  · exact .inl hn
  · exact .inr ⟨g, cur, rfl, h1, h2, (hb.block g (row_ltI hr) (by omega)).trans hr, hs, hc⟩
theorem PMade.ins {w : World} {lo hi : Nat} {A : Option Addr} {l : List (Int × Int)} (h : PMade w lo hi A l) : PIns w lo hi A l := by
  refine ⟨fun h0 => ?_, h.top⟩
  rcases h.own with ⟨_, rfl⟩ | ⟨g, cur, e, h1, h2, hr, hs, hc⟩
  · simp at h0
  · refine ⟨g, 0, e, h1, h2, fun j x hx => ?_⟩
    rw [Nat.zero_add, row_cellI hr, row_cellI hr]
    exact hc j x hx
theorem own_resP {w : World} {B n : Nat} {v : Value} {l : List (Int × Int)} (h : w.ownsRow B 85 2 v n (cellsP l)) (hn : n = l.length) :
    ∃ A c, v = .slice A l.length c ∧ PMade w B w.heap.size A l := by
  subst hn
  rcases h.2 with ⟨rfl, h0⟩ | ⟨g, cap, cur, rfl, hb, hg, hl, hm, hs, ht⟩
  · have : l = [] := List.eq_nil_of_length_eq_zero h0
    subst this
    exact ⟨none, 0, rfl, ⟨.inl ⟨rfl, rfl⟩, Nat.le_refl _⟩⟩
  · have hcl : l.length * 2 ≤ cur.size := by omega
    refine ⟨some ⟨g, 0, none⟩, cap, rfl, ⟨.inr ⟨g, cur, rfl, hb, row_ltI hg, hg, hcl, fun j x hx => ?_⟩, Nat.le_refl _⟩⟩
    have hj : j < l.length := by
      rcases Nat.lt_or_ge j l.length with h1 | h1
      · exact h1
      · rw [List.getElem?_eq_none h1] at hx; cases hx
    have hx2 := cellsP_at l j x hx
    rw [← ht, List.getElem?_take_of_lt (by omega), List.getElem?_take_of_lt (by omega)] at hx2
    simpa using hx2
theorem cellsP_snoc : ∀ (l : List (Int × Int)) (q : Int) (y : Int), cellsP (l ++ [(q, y)]) = cellsP l ++ [Value.int .i64 q, Value.int .i64 y]
  | [], q, y => rfl
  | x :: r, q, y => by
    show Value.int .i64 x.1 :: Value.int .i64 x.2 :: cellsP (r ++ [(q, y)]) = _
    rw [cellsP_snoc r q y]; rfl
theorem cell_two_newP (w : World) (x y : Value) (t : TypeId) : ∀ j u, [x, y][j]? = some u → (w.alloc (.cells #[x, y] t)).cell? ((⟨w.heap.size, 0, none⟩ : Addr).add j) = some u := by
  intro j u hj
  match j, hj with
  | 0, hj =>
    simp at hj
    subst hj
    simp [Addr.add]
  | 1, hj =>
    simp at hj
    subst hj
    simp [Addr.add]
  | j + 2, hj => simp at hj
theorem prs_snoc {w : World} {B n : Nat} {v : Value} {l : List (Int × Int)} {q : Int} {y : Int} (h : w.ownsRow B 85 2 v (n + 1) (cellsP l ++ [Value.int .i64 q, Value.int .i64 y])) (hn : n = l.length) : w.ownsRow B 85 2 v (l ++ [(q, y)]).length (cellsP (l ++ [(q, y)])) := by
  subst hn
  rw [cellsP_snoc]
  simpa using h
theorem P0_any (w : World) (B : Nat) (h : B ≤ w.heap.size) : (w.alloc (.cells #[] 85)).ownsRow B 85 2 (.slice (some ⟨w.heap.size, 0, none⟩) 0 0) 0 [] :=
  World.ownsRow_lit w (e := 85) (size := 2) (base := B) #[] 0 h (by unfold maxLen; omega) rfl
theorem empty_madeP (w : World) (lo : Nat) (h : lo ≤ w.heap.size) : PMade (w.alloc (.cells #[] 85)) lo (w.alloc (.cells #[] 85)).heap.size (some ⟨w.heap.size, 0, none⟩) [] :=
  ⟨.inr ⟨w.heap.size, #[], rfl, h, by simp, alloc_row w _ _, by simp, fun j x hx => by simp at hx⟩, Nat.le_refl _⟩

set_option maxRecDepth 100000 in
set_option maxHeartbeats 4000000 in
theorem markRowP (g cap n : Nat) (cur : Array Value) (w : World) (h : w.heap[g]? = some (.cells cur 85 (0, 0))) (hn : n * 2 ≤ cur.size) (hn2 : n ≤ 1048576) :
    Calls Try.prog 16 #[.slice (some ⟨g, 0, none⟩) n cap, .int .i64 1] w fun e w' => e = .returned (.int .i64 ((n : Int) * 2 + 1)) ∧ w'.heap[g]? = some (.cells (markArr cur (n * 2)) 85 (0, 0)) ∧ Within g (g + 1) w w' := by
  have H := Lib.hid h
  clear h
  go_enter Try.func16, Try.ntmps16
  go_wp2_with fail
  go_loopw [1, 5] (fun q i wr => ∃ k : Nat, k ≤ n ∧ i = .int .i64 k ∧ q = .int .i64 ((k : Int) * 2 + 1) ∧ Hid (wr.heap[g]? = some (.cells (markArr cur (k * 2)) 85 (0, 0))) ∧ Hid (Within g (g + 1) w wr)) (fun _ i _ => n - (intOf i).toNat)
  case atStart => exact ⟨0, Nat.zero_le _, rfl, rfl, H, Within.refl _ _ w⟩
  case round =>
    obtain ⟨k, hk, rfl, rfl, HR, HG⟩ := hrel
    rename World => wr
    by_cases hlt : k < n
    · go_wp2_with fail
      go_loopw [1, 6] (fun q i wr => ∃ j : Nat, j ≤ 2 ∧ i = .int .i64 j ∧ q = .int .i64 ((k : Int) * 2 + 1 + j) ∧ Hid (wr.heap[g]? = some (.cells (markArr cur (k * 2 + j)) 85 (0, 0))) ∧ Hid (Within g (g + 1) w wr)) (fun _ i _ => 2 - (intOf i).toNat)
      case atStart => exact ⟨0, by omega, rfl, by simp, HR, HG⟩
      case round =>
        clear HR HG
        obtain ⟨j, hj, rfl, rfl, HR, HG⟩ := hrel
        rename World => wi
        by_cases hjt : j < 2
        · have hf := row_freeI HR.out (k * 2 + j)
          obtain ⟨u, hu⟩ : ∃ u, wi.cell? ⟨g, k * 2 + j, none⟩ = some u := by
            rw [row_cellI HR.out]
            exact ⟨_, Array.getElem?_eq_getElem (by rw [markArr_size]; omega)⟩
          have HR2 := Lib.hid (row_setI HR.out (k * 2 + j) (.int .i64 ((k : Int) * 2 + 1 + j)))
          have HG2 := Lib.hid (within_set HG.out (Nat.le_refl g) (Nat.lt_succ_self g) (k * 2 + j) (.int .i64 ((k : Int) * 2 + 1 + j)))
          have HM : Hid ((markArr cur (k * 2 + j)).setIfInBounds (k * 2 + j) (.int .i64 ((k : Int) * 2 + 1 + j)) = markArr cur (k * 2 + (j + 1))) := Lib.hid (by show _ = (markArr cur (k * 2 + j)).setIfInBounds (k * 2 + j) (.int .i64 (((k * 2 + j : Nat) : Int) + 1)); rw [show ((k : Int) * 2 + 1 + j) = ((k * 2 + j : Nat) : Int) + 1 by omega])
          rw [HM.out] at HR2
          clear HM
          go_wp2
          go_roundw
          case rel => exact ⟨j + 1, by omega, by go_num, by go_num, HR2, HG2⟩
          case measure => simp [intOf]; omega
        · obtain rfl : j = 2 := by omega
          go_wp2
          go_roundw
          case rel => exact ⟨k + 1, by omega, by go_num, by go_num, by rw [show (k + 1) * 2 = k * 2 + 2 by omega]; exact HR, HG⟩
          case measure => simp [intOf]; omega
    · obtain rfl : k = n := by omega
      go_wp2
      go_ret
      exact ⟨rfl, HR.out, HG.out⟩
def marksP (n : Nat) : List (Int × Int) := (List.range n).map fun (j : Nat) => ((j : Int) * 2 + 1, (j : Int) * 2 + 2)
theorem marksP_len (n : Nat) : (marksP n).length = n := by simp [marksP]
theorem marksP_get {n j : Nat} {x : Int × Int} (h : (marksP n)[j]? = some x) : j < n ∧ x = ((j : Int) * 2 + 1, (j : Int) * 2 + 2) := by
  unfold marksP at h
  rw [List.getElem?_map] at h
  rcases Nat.lt_or_ge j n with hj | hj
  · rw [List.getElem?_range hj] at h
    simp at h
    exact ⟨hj, h.symm⟩
  · rw [List.getElem?_eq_none (by simpa using hj)] at h
    cases h
theorem markNoneP (cap : Nat) (w : World) :
    Calls Try.prog 16 #[.slice none 0 cap, .int .i64 1] w fun e w' => e = .returned (.int .i64 1) ∧ w' = w := by
  go_enter Try.func16, Try.ntmps16
  go_wp2_with fail
  go_loopw [1, 5] (fun q i wr => i = .int .i64 0 ∧ q = .int .i64 1 ∧ wr = w) (fun _ i _ => 1)
  case atStart => exact ⟨rfl, rfl, rfl⟩
  case round =>
    obtain ⟨rfl, rfl, rfl⟩ := hrel
    go_wp2
    go_ret
    exact ⟨rfl, rfl⟩
theorem markPMade_any (A : Option Addr) (cap lo hi : Nat) (l : List (Int × Int)) (w : World) (h : PMade w lo hi A l) (hn : l.length ≤ 1048576) :
    Calls Try.prog 16 #[.slice A l.length cap, .int .i64 1] w fun e w' => e = .returned (.int .i64 ((l.length : Int) * 2 + 1)) ∧ PMade w' lo hi A (marksP l.length) ∧ Within lo hi w w' := by
  rcases h.own with ⟨rfl, rfl⟩ | ⟨g, cur, rfl, h1, h2, hr, hs, hc⟩
  · refine (markNoneP cap w).mono ?_
    rintro e w' ⟨rfl, hww⟩
    have hww := hww.symm
    subst hww
    exact ⟨rfl, ⟨.inl ⟨rfl, rfl⟩, h.top⟩, Within.refl _ _ _⟩
  · refine (markRowP g cap l.length cur w hr hs hn).mono ?_
    rintro e w' ⟨rfl, hr', hw⟩
    refine ⟨rfl, ⟨.inr ⟨g, _, rfl, h1, h2, hr', by rw [marksP_len, markArr_size]; exact hs, fun j x hx => ?_⟩, Nat.le_trans h.top hw.size⟩, ⟨hw.os, hw.tape, hw.output, hw.size, fun i hi hd => hw.block i hi (by omega)⟩⟩
    obtain ⟨hj, rfl⟩ := marksP_get hx
    have h3 := markArr_at cur (l.length * 2) (j * 2) (by omega) (by omega)
    have h4 := markArr_at cur (l.length * 2) (j * 2 + 1) (by omega) (by omega)
    refine ⟨?_, ?_⟩
    · rw [h3]; simp
    · rw [h4]; simp; omega
set_option maxRecDepth 100000 in
set_option maxHeartbeats 4000000 in
theorem heldPMade_any (A : Option Addr) (cap lo hi n : Nat) (w : World) (h : PMade w lo hi A (marksP n)) (hn2 : n ≤ 1048576) :
    Calls Try.prog 17 #[.slice A n cap, .int .i64 1] w fun e w' => e = .returned (.int .i64 ((n : Int) * 2 + 1)) ∧ Below w.heap.size w w' := by
  have H := Lib.hid h.ins
  clear h
  go_enter Try.func17, Try.ntmps17
  go_wp2_with fail
  go_loopw [1, 5] (fun q i wr => ∃ k : Nat, k ≤ n ∧ i = .int .i64 k ∧ q = .int .i64 ((k : Int) * 2 + 1) ∧ Hid (wr = w)) (fun _ i _ => n - (intOf i).toNat)
  case atStart => exact ⟨0, Nat.zero_le _, rfl, rfl, Lib.hid rfl⟩
  case round =>
    obtain ⟨k, hk, rfl, rfl, HWW⟩ := hrel
    have hww := HWW.out
    subst hww
    by_cases hlt : k < n
    · obtain ⟨b, o, rfl, _, _, hc1, hc2⟩ := H.out.prs.at_ (k := k) (by rw [marksP_len]; exact hlt)
      have e : (marksP n)[k]'(by rw [marksP_len]; exact hlt) = ((k : Int) * 2 + 1, (k : Int) * 2 + 2) := by simp [marksP]
      rw [e] at hc1 hc2
      simp only at hc1 hc2
      clear e
      go_wp2_with fail
      go_loopw [1, 6] (fun q i wr' => ∃ j : Nat, j ≤ 2 ∧ i = .int .i64 j ∧ q = .int .i64 ((k : Int) * 2 + 1 + j) ∧ Hid (wr' = wr)) (fun _ i _ => 2 - (intOf i).toNat)
      case atStart => exact ⟨0, by omega, rfl, by simp, Lib.hid rfl⟩
      case round =>
        obtain ⟨j, hj, rfl, rfl, HWW⟩ := hrel
        have hww := HWW.out
        subst hww
        obtain rfl | rfl | rfl : j = 0 ∨ j = 1 ∨ j = 2 := by omega
        · go_wp2
          go_roundw
          case rel => exact ⟨1, by omega, by go_num, by go_num, (by first | exact Lib.hid rfl | exact Lib.hid trivial)⟩
          case measure => simp [intOf]
        · go_wp2
          go_roundw
          case rel => exact ⟨2, by omega, by go_num, by go_num, (by first | exact Lib.hid rfl | exact Lib.hid trivial)⟩
          case measure => simp [intOf]
        · go_wp2
          go_roundw
          case rel => exact ⟨k + 1, by omega, by go_num, by go_num, (by first | exact Lib.hid rfl | exact Lib.hid trivial)⟩
          case measure => simp [intOf]; omega
    · obtain rfl : k = n := by omega
      go_wp2
      go_ret
      exact ⟨rfl, Below.refl _ _⟩
end Go.Proofs.Ytbgdnidbdfhgjab
