/- Slices of Booleans in rows of whatever type: what the laws' helpers do with them. -/
import Derived.Test.YtpjoljaamakagaaL6B
namespace Go.Proofs.Ytpjoljaamakagaa
open Go.RowKit Go.ChangeShapes Go.WideShapes
set_option linter.unusedVariables false

/-- A slice of Booleans that the call may write: nothing, or the first places of a row of its own in a block of lo..hi-1. -/
def BOwnT (w : World) (lo hi : Nat) (A : Option Addr) (bs : List Bool) : Prop :=
  (A = none ∧ bs = []) ∨ ∃ g cur T, A = some ⟨g, 0, none⟩ ∧ lo ≤ g ∧ g < hi ∧ w.heap[g]? = some (.cells cur T (0, 0)) ∧ bs.length ≤ cur.size ∧ ∀ (j : Nat) (x : Bool), bs[j]? = some x → cur[j]? = some (Value.bool x)
structure BResT (w : World) (lo hi : Nat) (A : Option Addr) (bs : List Bool) : Prop where
  own : BOwnT w lo hi A bs
  top : hi ≤ w.heap.size
theorem BOwnT.within {w w' : World} {lo hi l h : Nat} {A : Option Addr} {bs : List Bool} (hI : BOwnT w lo hi A bs) (hb : Within l h w w') (hd : hi ≤ l ∨ h ≤ lo) : BOwnT w' lo hi A bs := by
  rcases hI with hn | ⟨g, cur, T, rfl, h1, h2, hr, hs, hc⟩
  · exact .inl hn
  · exact .inr ⟨g, cur, T, rfl, h1, h2, (hb.block g (row_ltI hr) (by omega)).trans hr, hs, hc⟩
theorem BOwnT.below {w w' : World} {lo hi B : Nat} {A : Option Addr} {bs : List Bool} (hI : BOwnT w lo hi A bs) (hb : Below B w w') (hB : hi ≤ B) : BOwnT w' lo hi A bs := by
  rcases hI with hn | ⟨g, cur, T, rfl, h1, h2, hr, hs, hc⟩
  · exact .inl hn
  · exact .inr ⟨g, cur, T, rfl, h1, h2, (hb.block g (by omega)).trans hr, hs, hc⟩
theorem BResT.step {w w' : World} {lo hi : Nat} {A : Option Addr} {bs : List Bool} (h : BResT w lo hi A bs) (hb : Below w.heap.size w w') : BResT w' lo hi A bs :=
  ⟨h.own.below hb h.top, Nat.le_trans h.top hb.size⟩
theorem BResT.within {w w' : World} {lo hi l t : Nat} {A : Option Addr} {bs : List Bool} (h : BResT w lo hi A bs) (hb : Within l t w w') (hd : hi ≤ l ∨ t ≤ lo) : BResT w' lo hi A bs :=
  ⟨h.own.within hb hd, Nat.le_trans h.top hb.size⟩
theorem BOwnT.at_ {w : World} {lo hi : Nat} {A : Option Addr} {bs : List Bool} (h : BOwnT w lo hi A bs) {k : Nat} (hk : k < bs.length) : ∃ g, A = some ⟨g, 0, none⟩ ∧ lo ≤ g ∧ g < hi ∧ g < w.heap.size ∧ w.cell? ⟨g, k, none⟩ = some (.bool bs[k]) := by
  rcases h with ⟨_, rfl⟩ | ⟨g, cur, T, rfl, h1, h2, hr, _, hc⟩
  · simp at hk
  · exact ⟨g, rfl, h1, h2, row_ltI hr, by rw [row_cellI hr]; exact hc k _ (List.getElem?_eq_getElem hk)⟩
set_option maxHeartbeats 1000000 in
theorem eqBoolsT_same (A A' : Option Addr) (c c' lo hi lo' hi' : Nat) (bs : List Bool) (w : World) (hS : BResT w lo hi A bs) (hS' : BResT w lo' hi' A' bs) (hn : bs.length ≤ 1048576) :
    Calls Try.prog 42 #[.slice A bs.length c, .slice A' bs.length c'] w fun e w' => e = .returned (.bool true) ∧ Below w.heap.size w w' := by
  have HS := Lib.hid hS
  have HS' := Lib.hid hS'
  clear hS hS'
  go_enter Try.func42, Try.ntmps42
  go_wp2
  go_loopw [5] (fun i wr => ∃ k q : Nat, k ≤ bs.length ∧ i = .int .i64 k ∧ wr = w.drewN q) (fun i _ => bs.length - (intOf i).toNat)
  case atStart => exact ⟨0, 0, Nat.zero_le _, rfl, rfl⟩
  case round =>
    obtain ⟨k, q, hk, rfl, rfl⟩ := hrel
    by_cases hlt : k < bs.length
    · obtain ⟨b, rfl, _, _, hb, hc⟩ := HS.out.own.at_ hlt
      obtain ⟨b', rfl, _, _, hb', hc'⟩ := HS'.out.own.at_ hlt
      have hz : (k : Int) < (bs.length : Int) := by omega
      generalize bs[k] = x at hc hc'
      cases x
      all_goals
        go_wp2
        go_quiet (fail)
        go_wp2
        go_roundw
        case rel => exact ⟨k + 1, _, by omega, by go_num, rfl⟩
        case measure => simp [intOf]; omega
    · go_wp2
      go_ret
      exact ⟨rfl, below_drewN (Below.refl _ _) _⟩

def markBT (j : Nat) : Bool := ((j : Int) + 1) % 3 == 0
def marksBT (n : Nat) : List Bool := (List.range n).map markBT
theorem marksB_lenT (n : Nat) : (marksBT n).length = n := by simp [marksBT]
theorem marksB_atT {n j : Nat} (h : j < n) : (marksBT n)[j]? = some (markBT j) := by simp [marksBT, h]
def markArrBT (cur : Array Value) : Nat → Array Value
  | 0 => cur
  | i + 1 => (markArrBT cur i).setIfInBounds i (.bool (markBT i))
theorem markArrB_sizeT (cur : Array Value) : ∀ i, (markArrBT cur i).size = cur.size
  | 0 => rfl
  | i + 1 => by show ((markArrBT cur i).setIfInBounds i _).size = _; rw [Array.size_setIfInBounds, markArrB_sizeT cur i]
theorem markArrB_atT (cur : Array Value) : ∀ i j, j < i → j < cur.size → (markArrBT cur i)[j]? = some (.bool (markBT j))
  | 0, j, h, _ => absurd h (by omega)
  | i + 1, j, h, hs => by
    show ((markArrBT cur i).setIfInBounds i _)[j]? = _
    by_cases e : i = j
    · subst e
      rw [Array.getElem?_setIfInBounds_self_of_lt (by rw [markArrB_sizeT]; exact hs)]
    · rw [Array.getElem?_setIfInBounds_ne (by omega)]
      exact markArrB_atT cur i j (by omega) hs
theorem marksB_getT {n j : Nat} {x : Bool} (h : (marksBT n)[j]? = some x) : j < n ∧ x = markBT j := by
  have hj : j < n := by
    rcases Nat.lt_or_ge j (marksBT n).length with h1 | h1
    · rwa [marksB_lenT] at h1
    · rw [List.getElem?_eq_none h1] at h; cases h
  rw [marksB_atT hj] at h
  exact ⟨hj, by injection h with h; exact h.symm⟩

set_option maxHeartbeats 1000000 in
theorem markRowBT (g cap n : Nat) (cur : Array Value) (T : TypeId) (w : World) (h : w.heap[g]? = some (.cells cur T (0, 0))) (hn : n ≤ cur.size) (hn2 : n ≤ 1048577) :
    Calls Try.prog 43 #[.slice (some ⟨g, 0, none⟩) n cap, .int .i64 1] w fun e w' => e = .returned (.int .i64 ((n : Int) + 1)) ∧ w'.heap[g]? = some (.cells (markArrBT cur n) T (0, 0)) ∧ Within g (g + 1) w w' := by
  have H := Lib.hid h
  clear h
  go_enter Try.func43, Try.ntmps43
  go_wp2
  go_loopw [1, 5] (fun q i wr => ∃ k : Nat, k ≤ n ∧ i = .int .i64 k ∧ q = .int .i64 ((k : Int) + 1) ∧ Hid (wr.heap[g]? = some (.cells (markArrBT cur k) T (0, 0))) ∧ Hid (Within g (g + 1) w wr)) (fun _ i _ => n - (intOf i).toNat)
  case atStart => exact ⟨0, Nat.zero_le _, rfl, rfl, H.out, Within.refl _ _ w⟩
  case round =>
    obtain ⟨k, hk, rfl, rfl, HR, HG⟩ := hrel
    by_cases hlt : k < n
    · have hki : (k : Int) < (n : Int) := by omega
      have hf := row_freeI HR.out k
      obtain ⟨u, hu⟩ : ∃ u, wr.cell? ⟨g, k, none⟩ = some u := by
        rw [row_cellI HR.out]
        exact ⟨_, Array.getElem?_eq_getElem (by rw [markArrB_sizeT]; omega)⟩
      have HR2 := Lib.hid (row_setI HR.out k (.bool (((k : Int) + 1) % 3 == 0)))
      have HG2 := Lib.hid (within_set HG.out (Nat.le_refl g) (Nat.lt_succ_self g) k (.bool (((k : Int) + 1) % 3 == 0)))
      go_wp2
      go_roundw
      case rel => exact ⟨k + 1, by omega, by go_num, by go_num, HR2, HG2⟩
      case measure => simp [intOf]; omega
    · obtain rfl : k = n := by omega
      go_wp2
      go_ret
      exact ⟨rfl, HR.out, HG.out⟩
theorem markNoneBT (cap : Nat) (w : World) :
    Calls Try.prog 43 #[.slice none 0 cap, .int .i64 1] w fun e w' => e = .returned (.int .i64 1) ∧ w' = w := by
  go_enter Try.func43, Try.ntmps43
  go_wp2
  go_loopw [1, 5] (fun q i wr => i = .int .i64 0 ∧ q = .int .i64 1 ∧ wr = w) (fun _ i _ => 0)
  case atStart => exact ⟨rfl, rfl, rfl⟩
  case round =>
    obtain ⟨rfl, rfl, rfl⟩ := hrel
    go_wp2
    go_ret
    exact ⟨rfl, rfl⟩
theorem markBoolsT_any (A : Option Addr) (cap lo hi : Nat) (bs : List Bool) (w : World) (h : BResT w lo hi A bs) (hn : bs.length ≤ 1048576) :
    Calls Try.prog 43 #[.slice A bs.length cap, .int .i64 1] w fun e w' => e = .returned (.int .i64 ((bs.length : Int) + 1)) ∧ BResT w' lo hi A (marksBT bs.length) ∧ Within lo hi w w' := by
  rcases h.own with ⟨rfl, rfl⟩ | ⟨g, cur, T, rfl, h1, h2, hr, hs, hc⟩
  · refine (markNoneBT cap w).mono ?_
    rintro e w' ⟨rfl, hww⟩
    have hww := hww.symm
    subst hww
    exact ⟨rfl, ⟨.inl ⟨rfl, rfl⟩, h.top⟩, Within.refl _ _ _⟩
  · refine (markRowBT g cap bs.length cur T w hr hs (by omega)).mono ?_
    rintro e w' ⟨rfl, hr', hw⟩
    refine ⟨rfl, ⟨.inr ⟨g, _, T, rfl, h1, h2, hr', by rw [marksB_lenT, markArrB_sizeT]; exact hs, fun j x hx => ?_⟩, Nat.le_trans h.top hw.size⟩, ⟨hw.os, hw.tape, hw.output, hw.size, fun i hi hd => hw.block i hi (by omega)⟩⟩
    obtain ⟨hj, rfl⟩ := marksB_getT hx
    exact markArrB_atT cur _ j hj (by omega)

set_option maxHeartbeats 1000000 in
theorem heldBoolsT_any (A : Option Addr) (cap lo hi n : Nat) (w : World) (h : BResT w lo hi A (marksBT n)) (hn2 : n ≤ 1048576) :
    Calls Try.prog 44 #[.slice A n cap, .int .i64 1] w fun e w' => e = .returned (.int .i64 ((n : Int) + 1)) ∧ Below w.heap.size w w' := by
  have H := Lib.hid h
  clear h
  go_enter Try.func44, Try.ntmps44
  go_wp2
  go_loopw [1, 5] (fun q i wr => ∃ k : Nat, k ≤ n ∧ i = .int .i64 k ∧ q = .int .i64 ((k : Int) + 1) ∧ wr = w) (fun _ i _ => n - (intOf i).toNat)
  case atStart => exact ⟨0, Nat.zero_le _, rfl, rfl, rfl⟩
  case round =>
    obtain ⟨k, hk, rfl, rfl, hww⟩ := hrel
    have hww := hww.symm
    subst hww
    by_cases hlt : k < n
    · have hki : (k : Int) < (n : Int) := by omega
      obtain ⟨b, rfl, _, _, _, hc⟩ := H.out.own.at_ (k := k) (by rw [marksB_lenT]; exact hlt)
      have e : (marksBT n)[k]'(by rw [marksB_lenT]; exact hlt) = markBT k := by simp [marksBT]
      rw [e] at hc
      have HE : Hid (markBT k = (((k : Int) + 1) % 3 == 0)) := Lib.hid rfl
      rw [HE.out] at hc
      clear e HE
      generalize hx : (((k : Int) + 1) % 3 == 0) = x at hc
      cases x
      all_goals
        go_wp2
        go_roundw
        case rel => exact ⟨k + 1, by omega, by go_num, by go_num, by first | rfl | trivial⟩
        case measure => simp [intOf]; omega
    · obtain rfl : k = n := by omega
      go_wp2
      go_ret
      exact ⟨rfl, Below.refl _ _⟩
theorem BRes.toT {w : World} {lo hi : Nat} {A : Option Addr} {bs : List Bool} (h : BRes w lo hi A bs) : BResT w lo hi A bs := by
  refine ⟨?_, h.top⟩
  rcases h.own with h | ⟨g, cur, e, h1, h2, hr, r⟩
  · exact .inl h
  · exact .inr ⟨g, cur, _, e, h1, h2, hr, r⟩
end Go.Proofs.Ytpjoljaamakagaa
