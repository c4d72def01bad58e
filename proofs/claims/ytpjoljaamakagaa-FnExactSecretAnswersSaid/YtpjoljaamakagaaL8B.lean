/- Slices of Booleans as arguments; rows of Booleans that are made and filled. -/
import Derived.Test.YtpjoljaamakagaaL6B
import Derived.Test.YtpjoljaamakagaaOpen
import Derived.Deep.Grids
namespace Go.Proofs.Ytpjoljaamakagaa
open Go.RowKit Go.ChangeShapes Go.WideShapes Go.ChangeAt Go.Deep
set_option linter.unusedVariables false

/-- The slice at A reads as the Booleans bs. -/
def Bools (w : World) (lo hi : Nat) (A : Option Addr) (bs : List Bool) : Prop :=
  0 < bs.length → ∃ b o, A = some ⟨b, o, none⟩ ∧ lo ≤ b ∧ b < hi ∧ ∀ (j : Nat) (x : Bool), bs[j]? = some x → w.cell? ⟨b, o + j, none⟩ = some (.bool x)
structure BIns (w : World) (lo hi : Nat) (A : Option Addr) (bs : List Bool) : Prop where
  bools : Bools w lo hi A bs
  top : hi ≤ w.heap.size
theorem BIns.step {w w' : World} {lo hi : Nat} {A : Option Addr} {bs : List Bool} (h : BIns w lo hi A bs) (hb : Below w.heap.size w w') : BIns w' lo hi A bs := by
  refine ⟨fun h0 => ?_, Nat.le_trans h.top hb.size⟩
  obtain ⟨b, o, e, h1, h2, hc⟩ := h.bools h0
  exact ⟨b, o, e, h1, h2, fun j x hx => (World.cell?_of_block (hb.block b (Nat.lt_of_lt_of_le h2 h.top))).trans (hc j x hx)⟩
theorem BIns.within {w w' : World} {lo hi l t : Nat} {A : Option Addr} {bs : List Bool} (h : BIns w lo hi A bs) (hb : Within l t w w') (hd : hi ≤ l ∨ t ≤ lo) : BIns w' lo hi A bs := by
  refine ⟨fun h0 => ?_, Nat.le_trans h.top hb.size⟩
  obtain ⟨b, o, e, h1, h2, hc⟩ := h.bools h0
  exact ⟨b, o, e, h1, h2, fun j x hx => (World.cell?_of_block (hb.block b (Nat.lt_of_lt_of_le h2 h.top) (by omega))).trans (hc j x hx)⟩
theorem BIns.at_ {w : World} {lo hi : Nat} {A : Option Addr} {bs : List Bool} (h : BIns w lo hi A bs) {k : Nat} (hk : k < bs.length) :
    ∃ b o, A = some ⟨b, o, none⟩ ∧ lo ≤ b ∧ b < hi ∧ w.cell? ⟨b, o + k, none⟩ = some (.bool bs[k]) := by
  obtain ⟨b, o, e, h1, h2, hc⟩ := h.bools (by omega)
  exact ⟨b, o, e, h1, h2, hc k _ (List.getElem?_eq_getElem hk)⟩
theorem BRes.ins {w : World} {lo hi : Nat} {A : Option Addr} {bs : List Bool} (h : BRes w lo hi A bs) : BIns w lo hi A bs := by
  refine ⟨fun h0 => ?_, h.top⟩
  rcases h.own with ⟨_, rfl⟩ | ⟨g, cur, e, h1, h2, hr, hs, hc⟩
  · simp at h0
  · exact ⟨g, 0, e, h1, h2, fun j x hx => by rw [Nat.zero_add, row_cellI hr]; exact hc j x hx⟩
theorem bools_ofT {H : Type} {enc : TypeId × Value → H} {W : World} {a : Option Addr} {len cap : Nat} {d : DataW H} {ps : List MemPlace}
    (h : DataW.Trod enc Try.prog W 0 (fun _ => true) true 66 (.slice a len cap) d ps) :
    ∃ bs : List Bool, len = bs.length ∧ Bools W 0 W.heap.size a bs ∧ bs.length ≤ cap ∧ cap ≤ maxLen := by
  obtain ⟨fuel, hf⟩ := h
  rcases open_bools Try.underlying66 Try.underlying4 (by kernel_rfl) hf with ⟨hcs, _⟩ | ⟨x, l, c, Z, hcs, _, hl, hm, _, hcell⟩
  · simp [Value.cells] at hcs
    obtain ⟨rfl, rfl, rfl⟩ := hcs
    exact ⟨[], rfl, fun h => absurd h (by simp), Nat.le_refl _, by unfold maxLen; omega⟩
  · simp [Value.cells] at hcs
    obtain ⟨rfl, rfl, rfl⟩ := hcs
    refine ⟨(List.range len).map Z, by simp, ?_, by simpa using hl, hm⟩
    intro h0
    obtain ⟨b, off, spot⟩ := x
    have hc := hcell 0 (by simp at h0; omega)
    have hspot : spot = none := by simpa [Addr.add] using World.cell?_spot hc
    subst hspot
    refine ⟨b, off, rfl, Nat.zero_le _, ?_, fun j y hy => ?_⟩
    · have := lt_of_cellI hc
      simpa [Addr.add] using this
    · have h2 : j < len := by
        rcases Nat.lt_or_ge j len with h | h
        · exact h
        · rw [List.getElem?_eq_none (by simpa using h)] at hy; cases hy
      have e : Z j = y := by simpa [h2] using hy
      have h3 := hcell j (by omega)
      rw [e] at h3
      by_cases hj0 : j = 0
      · subst hj0
        simpa [Addr.add] using h3
      · simpa [Addr.add, hj0] using h3

theorem infoB8 : (Try.prog.info? 4).map (fun i => (i.zero, i.size, i.bytes)) = some (some (.bool false), 1, 1) := by kernel_rfl
theorem madeCells_oneB : ∀ n, (madeCells (Value.bool false).cells n) = (List.replicate n (Value.bool false)).toArray := fun n => by
  apply Array.ext'
  rw [show (Value.bool false).cells = #[Value.bool false] from rfl, toList_madeCells_one]
theorem makeBools (n : Nat) (h : n ≤ 1048576) (w : World) :
    (Instr.makeSlice 66 (.int .i64 (n : Int)) (.int .i64 (n : Int))).run Try.prog w = .ok (.slice (some ⟨w.heap.size, 0, none⟩) n n) (w.alloc (.cells (List.replicate n (Value.bool false)).toArray 4)) := by
  obtain ⟨i, hi, hz, hs, hb⟩ := info_parts infoB8
  have h1 := run_make (P := Try.prog) w 66 4 i _ Try.underlying66 hi hz .i64 .i64 (n : Int) (n : Int) (by omega) (by omega) (by rw [hb]; omega) (by omega)
  rw [h1, hs, Int.toNat_natCast, Nat.mul_one, madeCells_oneB]
def rowB (bs : List Bool) (k : Nat) : Array Value := ((bs.take k).map Value.bool ++ List.replicate (bs.length - k) (Value.bool false)).toArray
theorem rowB_at {bs : List Bool} {k : Nat} (h : k < bs.length) : (rowB bs k)[k]? = some (.bool false) := by
  unfold rowB
  have hl : ((bs.take k).map Value.bool).length = k := by simp; omega
  rw [List.getElem?_toArray, List.getElem?_append_right (by omega), hl, Nat.sub_self, List.getElem?_replicate, if_pos (by omega)]
theorem rowB_set {bs : List Bool} {k : Nat} (h : k < bs.length) : (rowB bs k).setIfInBounds k (.bool bs[k]) = rowB bs (k + 1) := by
  unfold rowB
  have hl : ((bs.take k).map Value.bool).length = k := by simp; omega
  have e1 : bs.length - k = (bs.length - (k + 1)) + 1 := by omega
  have e2 : bs.take (k + 1) = bs.take k ++ [bs[k]] := List.take_succ_eq_append_getElem h
  rw [e2, e1, List.replicate_succ, List.setIfInBounds_toArray, List.set_append_right _ _ (by omega), hl, Nat.sub_self, List.set_cons_zero, List.map_append, List.append_assoc]
  rfl
theorem rowB_full (bs : List Bool) : rowB bs bs.length = (bs.map Value.bool).toArray := by simp [rowB]
theorem rowB_nil (bs : List Bool) : rowB bs 0 = (List.replicate bs.length (Value.bool false)).toArray := by simp [rowB]
theorem BRes.new (w : World) (bs : List Bool) (lo : Nat) (h1 : lo ≤ w.heap.size) : BRes (w.alloc (.cells (bs.map Value.bool).toArray 4)) lo (w.alloc (.cells (bs.map Value.bool).toArray 4)).heap.size (some ⟨w.heap.size, 0, none⟩) bs :=
  ⟨.inr ⟨w.heap.size, _, rfl, h1, by simp, alloc_row w _ _, by simp, fun j x hx => by simp [hx]⟩, Nat.le_refl _⟩

set_option maxHeartbeats 1000000 in
theorem markRowB2 (g cap n : Nat) (cur : Array Value) (K : Int) (w : World) (h : w.heap[g]? = some (.cells cur 4 (0, 0))) (hn : n ≤ cur.size) (hn2 : n ≤ 1048577) (hK : 0 ≤ K ∧ K ≤ 4194304) :
    Calls Try.prog 43 #[.slice (some ⟨g, 0, none⟩) n cap, .int .i64 K] w fun e w' => e = .returned (.int .i64 (K + (n : Int))) ∧ Within g (g + 1) w w' := by
  have H := Lib.hid h
  clear h
  go_enter Try.func43, Try.ntmps43
  go_wp2
  go_loopw [1, 5] (fun q i wr => ∃ (k : Nat) (x : Int) (c2 : Array Value), k ≤ n ∧ i = .int .i64 k ∧ q = .int .i64 x ∧ x = K + (k : Int) ∧ c2.size = cur.size ∧ Hid (wr.heap[g]? = some (.cells c2 4 (0, 0))) ∧ Hid (Within g (g + 1) w wr)) (fun _ i _ => n - (intOf i).toNat)
  case atStart => exact ⟨0, K, cur, Nat.zero_le _, rfl, rfl, by simp, rfl, H.out, Within.refl _ _ w⟩
  case round =>
    obtain ⟨k, x, c2, hk, rfl, rfl, hx, hc2, HR, HG⟩ := hrel
    by_cases hlt : k < n
    · have hki : (k : Int) < (n : Int) := by omega
      have hf := row_freeI HR.out k
      obtain ⟨u, hu⟩ : ∃ u, wr.cell? ⟨g, k, none⟩ = some u := by
        rw [row_cellI HR.out]
        exact ⟨_, Array.getElem?_eq_getElem (by omega)⟩
      have HR2 := Lib.hid (row_setI HR.out k (.bool (x % 3 == 0)))
      have HG2 := Lib.hid (within_set HG.out (Nat.le_refl g) (Nat.lt_succ_self g) k (.bool (x % 3 == 0)))
      have hx0 : 0 ≤ x ∧ x ≤ 6000000 := by omega
      have hx1 : x + 1 = K + ((k + 1 : Nat) : Int) := by omega
      have HX1 := Lib.hid hx1
      have hs2 : (c2.setIfInBounds k (.bool (x % 3 == 0))).size = cur.size := by rw [Array.size_setIfInBounds]; exact hc2
      have HS2 := Lib.hid hs2
      clear hx hx1 hs2 hc2
      go_wp2
      go_roundw
      case rel => exact ⟨k + 1, x + 1, _, by omega, by go_num, rfl, HX1.out, HS2.out, HR2, HG2⟩
      case measure => simp [intOf]; omega
    · obtain rfl : k = n := by omega
      have E := Lib.hid hx
      clear hx
      go_wp2
      go_ret
      exact ⟨by rw [← E.out]; rfl, HG.out⟩
theorem markNoneB2 (cap : Nat) (K : Int) (w : World) :
    Calls Try.prog 43 #[.slice none 0 cap, .int .i64 K] w fun e w' => e = .returned (.int .i64 K) ∧ w' = w := by
  go_enter Try.func43, Try.ntmps43
  go_wp2
  go_loopw [1, 5] (fun q i wr => i = .int .i64 0 ∧ q = .int .i64 K ∧ wr = w) (fun _ i _ => 0)
  case atStart => exact ⟨rfl, rfl, rfl⟩
  case round =>
    obtain ⟨rfl, rfl, rfl⟩ := hrel
    go_wp2
    go_ret
    exact ⟨rfl, rfl⟩
theorem markBools2_any (A : Option Addr) (cap lo hi : Nat) (bs : List Bool) (w : World) (h : BRes w lo hi A bs) (hn : bs.length ≤ 1048576) (K : Int) (hK : 0 ≤ K ∧ K ≤ 4194304) :
    Calls Try.prog 43 #[.slice A bs.length cap, .int .i64 K] w fun e w' => e = .returned (.int .i64 (K + (bs.length : Int))) ∧ True ∧ Within lo hi w w' := by
  rcases h.own with ⟨rfl, rfl⟩ | ⟨g, cur, rfl, h1, h2, hr, hs, hc⟩
  · refine (markNoneB2 cap K w).mono ?_
    rintro e w' ⟨rfl, rfl⟩
    exact ⟨by simp, True.intro, Within.refl _ _ _⟩
  · refine (markRowB2 g cap bs.length cur K w hr hs (by omega) hK).mono ?_
    rintro e w' ⟨rfl, hw⟩
    exact ⟨rfl, True.intro, ⟨hw.os, hw.tape, hw.output, hw.size, fun i hi hd => hw.block i hi (by omega)⟩⟩
end Go.Proofs.Ytpjoljaamakagaa
