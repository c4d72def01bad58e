/- Slices of Booleans: what the laws' helpers do with them. -/
import Derived.Test.YtpjoljaamakagaaOwn
namespace Go.Proofs.Ytpjoljaamakagaa
open Go.RowKit Go.ChangeShapes Go.WideShapes
set_option linter.unusedVariables false

/-- A slice of Booleans that the call may write: nothing, or the first places of a row of its own in a block of lo..hi-1. -/
def BOwn (w : World) (lo hi : Nat) (A : Option Addr) (bs : List Bool) : Prop :=
  (A = none ∧ bs = []) ∨ ∃ g cur, A = some ⟨g, 0, none⟩ ∧ lo ≤ g ∧ g < hi ∧ w.heap[g]? = some (.cells cur 4 (0, 0)) ∧ bs.length ≤ cur.size ∧ ∀ (j : Nat) (x : Bool), bs[j]? = some x → cur[j]? = some (Value.bool x)
structure BRes (w : World) (lo hi : Nat) (A : Option Addr) (bs : List Bool) : Prop where
  own : BOwn w lo hi A bs
  top : hi ≤ w.heap.size
theorem BOwn.within {w w' : World} {lo hi l h : Nat} {A : Option Addr} {bs : List Bool} (hI : BOwn w lo hi A bs) (hb : Within l h w w') (hd : hi ≤ l ∨ h ≤ lo) : BOwn w' lo hi A bs := by
  rcases hI with hn | ⟨g, cur, rfl, h1, h2, hr, hs, hc⟩
  · exact .inl hn
  · exact .inr ⟨g, cur, rfl, h1, h2, (hb.block g (row_ltI hr) (by omega)).trans hr, hs, hc⟩
theorem BOwn.below {w w' : World} {lo hi B : Nat} {A : Option Addr} {bs : List Bool} (hI : BOwn w lo hi A bs) (hb : Below B w w') (hB : hi ≤ B) : BOwn w' lo hi A bs := by
  rcases hI with hn | ⟨g, cur, rfl, h1, h2, hr, hs, hc⟩
  · exact .inl hn
  · exact .inr ⟨g, cur, rfl, h1, h2, (hb.block g (by omega)).trans hr, hs, hc⟩
theorem BRes.step {w w' : World} {lo hi : Nat} {A : Option Addr} {bs : List Bool} (h : BRes w lo hi A bs) (hb : Below w.heap.size w w') : BRes w' lo hi A bs :=
  ⟨h.own.below hb h.top, Nat.le_trans h.top hb.size⟩
theorem BRes.within {w w' : World} {lo hi l t : Nat} {A : Option Addr} {bs : List Bool} (h : BRes w lo hi A bs) (hb : Within l t w w') (hd : hi ≤ l ∨ t ≤ lo) : BRes w' lo hi A bs :=
  ⟨h.own.within hb hd, Nat.le_trans h.top hb.size⟩
theorem BOwn.at_ {w : World} {lo hi : Nat} {A : Option Addr} {bs : List Bool} (h : BOwn w lo hi A bs) {k : Nat} (hk : k < bs.length) : ∃ g, A = some ⟨g, 0, none⟩ ∧ lo ≤ g ∧ g < hi ∧ g < w.heap.size ∧ w.cell? ⟨g, k, none⟩ = some (.bool bs[k]) := by
  rcases h with ⟨_, rfl⟩ | ⟨g, cur, rfl, h1, h2, hr, _, hc⟩
  · simp at hk
  · exact ⟨g, rfl, h1, h2, row_ltI hr, by rw [row_cellI hr]; exact hc k _ (List.getElem?_eq_getElem hk)⟩
/-- A row of one's own, as a slice. -/
theorem own_resB {w : World} {B n : Nat} {v : Value} {bs : List Bool} (h : w.ownsRow B 4 1 v n (bs.map Value.bool)) (hn : n = bs.length) :
    ∃ A c, v = .slice A bs.length c ∧ BRes w B w.heap.size A bs := by
  subst hn
  rcases h.2 with ⟨rfl, h0⟩ | ⟨g, cap, cur, rfl, hb, hg, hl, hm, hs, ht⟩
  · have : bs = [] := List.eq_nil_of_length_eq_zero h0
    subst this
    exact ⟨none, 0, rfl, ⟨.inl ⟨rfl, rfl⟩, Nat.le_refl _⟩⟩
  · refine ⟨some ⟨g, 0, none⟩, cap, rfl, ⟨.inr ⟨g, cur, rfl, hb, row_ltI hg, hg, by omega, fun j x hx => ?_⟩, Nat.le_refl _⟩⟩
    have hj : j < bs.length := by
      rcases Nat.lt_or_ge j bs.length with h1 | h1
      · exact h1
      · rw [List.getElem?_eq_none h1] at hx; cases hx
    have e : (cur.toList.take (bs.length * 1))[j]? = some (Value.bool x) := by rw [ht]; simp [hx]
    rw [List.getElem?_take_of_lt (by omega)] at e
    simpa using e

set_option maxHeartbeats 1000000 in
theorem eqBools_same (A A' : Option Addr) (c c' lo hi lo' hi' : Nat) (bs : List Bool) (w : World) (hS : BRes w lo hi A bs) (hS' : BRes w lo' hi' A' bs) (hn : bs.length ≤ 1048576) :
    Calls Try.prog 42 #[.slice A bs.length c, .slice A' bs.length c'] w fun e w' => e = .returned (.bool true) ∧ Below w.heap.size w w' := by
  have HS := Lib.hid hS
  have HS' := Lib.hid hS'
  clear hS hS'
  go_enter Try.func42, Try.ntmps42
  go_wp2
  go_loopw [5] (fun i wr => ∃ k q : Nat, k ≤ bs.length ∧ i = .int .i64 k ∧ wr = w.drewN q) (fun i _ => bs.length - (intOf i).toNat)
  case atStart => exact ⟨0, 0, Nat.zero_le _, rfl, rfl⟩
  case round =>
    obtain ⟨k, q, hk, rfl, rfl⟩ := hrel
    by_cases hlt : k < bs.length
    · obtain ⟨b, rfl, _, _, hb, hc⟩ := HS.out.own.at_ hlt
      obtain ⟨b', rfl, _, _, hb', hc'⟩ := HS'.out.own.at_ hlt
      have hz : (k : Int) < (bs.length : Int) := by omega
      generalize bs[k] = x at hc hc'
      cases x
      all_goals
        go_wp2
        go_quiet (fail)
        go_wp2
        go_roundw
        case rel => exact ⟨k + 1, _, by omega, by go_num, rfl⟩
        case measure => simp [intOf]; omega
    · go_wp2
      go_ret
      exact ⟨rfl, below_drewN (Below.refl _ _) _⟩

def markB (j : Nat) : Bool := ((j : Int) + 1) % 3 == 0
def marksB (n : Nat) : List Bool := (List.range n).map markB
theorem marksB_len (n : Nat) : (marksB n).length = n := by simp [marksB]
theorem marksB_at {n j : Nat} (h : j < n) : (marksB n)[j]? = some (markB j) := by simp [marksB, h]
def markArrB (cur : Array Value) : Nat → Array Value
  | 0 => cur
  | i + 1 => (markArrB cur i).setIfInBounds i (.bool (markB i))
theorem markArrB_size (cur : Array Value) : ∀ i, (markArrB cur i).size = cur.size
  | 0 => rfl
  | i + 1 => by show ((markArrB cur i).setIfInBounds i _).size = _; rw [Array.size_setIfInBounds, markArrB_size cur i]
theorem markArrB_at (cur : Array Value) : ∀ i j, j < i → j < cur.size → (markArrB cur i)[j]? = some (.bool (markB j))
  | 0, j, h, _ => absurd h (by omega)
  | i + 1, j, h, hs => by
    show ((markArrB cur i).setIfInBounds i _)[j]? = _
    by_cases e : i = j
    · subst e
      rw [Array.getElem?_setIfInBounds_self_of_lt (by rw [markArrB_size]; exact hs)]
    · rw [Array.getElem?_setIfInBounds_ne (by omega)]
      exact markArrB_at cur i j (by omega) hs
theorem marksB_get {n j : Nat} {x : Bool} (h : (marksB n)[j]? = some x) : j < n ∧ x = markB j := by
  have hj : j < n := by
    rcases Nat.lt_or_ge j (marksB n).length with h1 | h1
    · rwa [marksB_len] at h1
    · rw [List.getElem?_eq_none h1] at h; cases h
  rw [marksB_at hj] at h
  exact ⟨hj, by injection h with h; exact h.symm⟩

set_option maxHeartbeats 1000000 in
theorem markRowB (g cap n : Nat) (cur : Array Value) (w : World) (h : w.heap[g]? = some (.cells cur 4 (0, 0))) (hn : n ≤ cur.size) (hn2 : n ≤ 1048577) :
    Calls Try.prog 43 #[.slice (some ⟨g, 0, none⟩) n cap, .int .i64 1] w fun e w' => e = .returned (.int .i64 ((n : Int) + 1)) ∧ w'.heap[g]? = some (.cells (markArrB cur n) 4 (0, 0)) ∧ Within g (g + 1) w w' := by
  have H := Lib.hid h
  clear h
  go_enter Try.func43, Try.ntmps43
  go_wp2
  go_loopw [1, 5] (fun q i wr => ∃ k : Nat, k ≤ n ∧ i = .int .i64 k ∧ q = .int .i64 ((k : Int) + 1) ∧ Hid (wr.heap[g]? = some (.cells (markArrB cur k) 4 (0, 0))) ∧ Hid (Within g (g + 1) w wr)) (fun _ i _ => n - (intOf i).toNat)
  case atStart => exact ⟨0, Nat.zero_le _, rfl, rfl, H.out, Within.refl _ _ w⟩
  case round =>
    obtain ⟨k, hk, rfl, rfl, HR, HG⟩ := hrel
    by_cases hlt : k < n
    · have hki : (k : Int) < (n : Int) := by omega
      have hf := row_freeI HR.out k
      obtain ⟨u, hu⟩ : ∃ u, wr.cell? ⟨g, k, none⟩ = some u := by
        rw [row_cellI HR.out]
        exact ⟨_, Array.getElem?_eq_getElem (by rw [markArrB_size]; omega)⟩
      have HR2 := Lib.hid (row_setI HR.out k (.bool (((k : Int) + 1) % 3 == 0)))
      have HG2 := Lib.hid (within_set HG.out (Nat.le_refl g) (Nat.lt_succ_self g) k (.bool (((k : Int) + 1) % 3 == 0)))
      go_wp2
      go_roundw
      case rel => exact ⟨k + 1, by omega, by go_num, by go_num, HR2, HG2⟩
      case measure => simp [intOf]; omega
    · obtain rfl : k = n := by omega
      go_wp2
      go_ret
      exact ⟨rfl, HR.out, HG.out⟩
theorem markNoneB (cap : Nat) (w : World) :
    Calls Try.prog 43 #[.slice none 0 cap, .int .i64 1] w fun e w' => e = .returned (.int .i64 1) ∧ w' = w := by
  go_enter Try.func43, Try.ntmps43
  go_wp2
  go_loopw [1, 5] (fun q i wr => i = .int .i64 0 ∧ q = .int .i64 1 ∧ wr = w) (fun _ i _ => 0)
  case atStart => exact ⟨rfl, rfl, rfl⟩
  case round =>
    obtain ⟨rfl, rfl, rfl⟩ := hrel
    go_wp2
    go_ret
    exact ⟨rfl, rfl⟩
theorem markBools_any (A : Option Addr) (cap lo hi : Nat) (bs : List Bool) (w : World) (h : BRes w lo hi A bs) (hn : bs.length ≤ 1048576) :
    Calls Try.prog 43 #[.slice A bs.length cap, .int .i64 1] w fun e w' => e = .returned (.int .i64 ((bs.length : Int) + 1)) ∧ BRes w' lo hi A (marksB bs.length) ∧ Within lo hi w w' := by
  rcases h.own with ⟨rfl, rfl⟩ | ⟨g, cur, rfl, h1, h2, hr, hs, hc⟩
  · refine (markNoneB cap w).mono ?_
    rintro e w' ⟨rfl, hww⟩
    have hww := hww.symm
    subst hww
    exact ⟨rfl, ⟨.inl ⟨rfl, rfl⟩, h.top⟩, Within.refl _ _ _⟩
  · refine (markRowB g cap bs.length cur w hr hs (by omega)).mono ?_
    rintro e w' ⟨rfl, hr', hw⟩
    refine ⟨rfl, ⟨.inr ⟨g, _, rfl, h1, h2, hr', by rw [marksB_len, markArrB_size]; exact hs, fun j x hx => ?_⟩, Nat.le_trans h.top hw.size⟩, ⟨hw.os, hw.tape, hw.output, hw.size, fun i hi hd => hw.block i hi (by omega)⟩⟩
    obtain ⟨hj, rfl⟩ := marksB_get hx
    exact markArrB_at cur _ j hj (by omega)

set_option maxHeartbeats 1000000 in
theorem heldBools_any (A : Option Addr) (cap lo hi n : Nat) (w : World) (h : BRes w lo hi A (marksB n)) (hn2 : n ≤ 1048576) :
    Calls Try.prog 44 #[.slice A n cap, .int .i64 1] w fun e w' => e = .returned (.int .i64 ((n : Int) + 1)) ∧ Below w.heap.size w w' := by
  have H := Lib.hid h
  clear h
  go_enter Try.func44, Try.ntmps44
  go_wp2
  go_loopw [1, 5] (fun q i wr => ∃ k : Nat, k ≤ n ∧ i = .int .i64 k ∧ q = .int .i64 ((k : Int) + 1) ∧ wr = w) (fun _ i _ => n - (intOf i).toNat)
  case atStart => exact ⟨0, Nat.zero_le _, rfl, rfl, rfl⟩
  case round =>
    obtain ⟨k, hk, rfl, rfl, hww⟩ := hrel
    have hww := hww.symm
    subst hww
    by_cases hlt : k < n
    · have hki : (k : Int) < (n : Int) := by omega
      obtain ⟨b, rfl, _, _, _, hc⟩ := H.out.own.at_ (k := k) (by rw [marksB_len]; exact hlt)
      have e : (marksB n)[k]'(by rw [marksB_len]; exact hlt) = markB k := by simp [marksB]
      rw [e] at hc
      have HE : Hid (markB k = (((k : Int) + 1) % 3 == 0)) := Lib.hid rfl
      rw [HE.out] at hc
      clear e HE
      generalize hx : (((k : Int) + 1) % 3 == 0) = x at hc
      cases x
      all_goals
        go_wp2
        go_roundw
        case rel => exact ⟨k + 1, by omega, by go_num, by go_num, by first | rfl | trivial⟩
        case measure => simp [intOf]; omega
    · obtain rfl : k = n := by omega
      go_wp2
      go_ret
      exact ⟨rfl, Below.refl _ _⟩
end Go.Proofs.Ytpjoljaamakagaa
