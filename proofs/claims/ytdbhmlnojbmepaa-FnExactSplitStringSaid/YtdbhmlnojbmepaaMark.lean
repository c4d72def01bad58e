/- The marks that the laws write into a slice of strings, and read again. -/
import Derived.Test.YtdbhmlnojbmepaaStrs
import Derived.Test.YtdbhmlnojbmepaaDec
import Derived.Maps.AppendAt
import Derived.Laws.IdiomStrings
import Derived.Deep.RegionHeld3
import Derived.Deep.RegionWith
import Derived.Lib.Strings
namespace Go.Proofs.Ytdbhmlnojbmepaa
open Go.RowKit
set_option linter.unusedVariables false

/-- The k-th mark. -/
def mkT (k : Nat) : ByteArray := ⟨(109 :: Lib.decDigits k).toArray⟩
theorem mkT_size {k : Nat} (h : k < 10000000) : (mkT k).size ≤ 8 := by
  have := dd_len 6 k h
  unfold mkT
  simp [ByteArray.size]
  omega
/-- What is left to write before o. -/
def Left (K q : Nat) (o : ByteArray) : Prop := Lib.decDigits K = (if q = 0 then [] else Lib.decDigits q) ++ o.data.toList
theorem left_step {K q : Nat} {o : ByteArray} (hq : 0 < q) (h : Left K q o) : Left K (q / 10) (⟨#[UInt8.ofNat (48 + q % 10)]⟩ ++ o) := by
  unfold Left at h ⊢
  rw [if_neg (by omega)] at h
  have e : ((⟨#[UInt8.ofNat (48 + q % 10)]⟩ : ByteArray) ++ o).data.toList = UInt8.ofNat (48 + q % 10) :: o.data.toList := by simp [ByteArray.data_append]
  rw [h, e]
  by_cases h10 : q < 10
  · rw [if_pos (by omega), dd_small h10, show q % 10 = q from by omega]; rfl
  · rw [if_neg (by omega), dd_big h10]; simp
theorem left_size {K q : Nat} {o : ByteArray} (hK : K < 10000000) (h : Left K q o) : o.size ≤ 7 := by
  have h1 := dd_len 6 K hK
  have h2 := congrArg List.length h
  rw [List.length_append] at h2
  have h3 := Lib.size_eq o
  omega

set_option maxHeartbeats 1000000 in
theorem markText_any (K : Nat) (h1 : 1 ≤ K) (h2 : K < 10000000) (w : World) :
    Calls Try.prog 35 #[.int .i64 (K : Int)] w fun e w' => e = .returned (.string (mkT K)) ∧ Below w.heap.size w w' := by
  go_enter Try.func35, Try.ntmps35
  go_wp2
  go_loopw [0, 3] (fun i out wr => ∃ (q : Nat) (o : ByteArray), q ≤ K ∧ i = .int .i64 q ∧ out = .string o ∧ Hid (Left K q o) ∧ Hid (Below w.heap.size w wr)) (fun i _ _ => (intOf i).toNat)
  case atStart => exact ⟨K, ⟨#[]⟩, Nat.le_refl _, rfl, rfl, by show _ = _; rw [if_neg (by omega)]; simp, Below.refl _ _⟩
  case round =>
    obtain ⟨q, o, hq, rfl, rfl, HL, HB⟩ := hrel
    have hos := left_size h2 HL.out
    by_cases hq0 : 0 < q
    · have hqi : (0 : Int) < (q : Int) := by omega
      have hl2 := left_step hq0 HL.out
      have hbn : ((UInt8.ofNat (48 + q % 10)).toNat : Int) = 48 + (q : Int) % 10 := by rw [byte_toNat (by omega)]; omega
      generalize UInt8.ofNat (48 + q % 10) = b at hl2 hbn
      have HL2 := Lib.hid hl2
      clear hl2
      have hcv : ∀ W : World, (convert 22 9 (.slice (some ⟨W.heap.size, 0, none⟩) 1 1)).run Try.prog (W.alloc (.cells #[.int .u8 (48 + (q : Int) % 10)] 5)) = .ok (.string ⟨#[b]⟩) (W.alloc (.cells #[.int .u8 (48 + (q : Int) % 10)] 5)) := fun W =>
        run_convert_bytes_back _ _ _ _ ⟨W.heap.size, 0, none⟩ 1 [b] Try.underlying22 Try.underlying5 Try.underlying9 (fun j hj => by
          have hj0 : j = 0 := by simpa using hj
          subst hj0
          simp [Addr.add, hbn])
      have hadd : ∀ W, (Op.stringOp .add ⟨#[b]⟩ o).run Try.prog W = .ok (.string (⟨#[b]⟩ ++ o)) W := fun W => by
        rw [run_string_add_sum W _ _ (by show 1 + o.size ≤ _; omega)]
      clear hbn
      clear HL
      go_wp2
      go_roundw
      case rel => exact ⟨q / 10, _, by omega, by go_num, rfl, HL2, HB.out.alloc HB.out.size _⟩
      case measure => simp [intOf]; omega
    · obtain rfl : q = 0 := by omega
      have hadd : ∀ W, (Op.stringOp .add ⟨#[109]⟩ o).run Try.prog W = .ok (.string (mkT K)) W := fun W => by
        rw [run_string_add_sum W _ _ (by show 1 + o.size ≤ _; omega)]
        have e : (⟨#[109]⟩ : ByteArray) ++ o = mkT K := by
          apply ByteArray.ext
          have := HL.out
          unfold Left at this
          rw [if_pos rfl, List.nil_append] at this
          unfold mkT
          rw [this]
          simp [ByteArray.data_append]
        rw [e]
      clear HL
      go_wp2
      go_ret
      exact ⟨rfl, HB.out⟩

/-- A row with its first marks. -/
def markArr (cur : Array Value) : Nat → Array Value
  | 0 => cur
  | i + 1 => (markArr cur i).setIfInBounds i (.string (mkT (i + 1)))
theorem markArr_size (cur : Array Value) : ∀ i, (markArr cur i).size = cur.size
  | 0 => rfl
  | i + 1 => by show ((markArr cur i).setIfInBounds i _).size = _; rw [Array.size_setIfInBounds, markArr_size cur i]
theorem markArr_at (cur : Array Value) : ∀ i j, j < i → j < cur.size → (markArr cur i)[j]? = some (.string (mkT (j + 1)))
  | 0, j, h, _ => absurd h (by omega)
  | i + 1, j, h, hs => by
    show ((markArr cur i).setIfInBounds i _)[j]? = _
    by_cases e : i = j
    · subst e
      rw [Array.getElem?_setIfInBounds_self_of_lt (by rw [markArr_size]; exact hs)]
    · rw [Array.getElem?_setIfInBounds_ne (by omega)]
      exact markArr_at cur i j (by omega) hs
theorem row_cellM {w : World} {g i : Nat} {cs : Array Value} {t : TypeId} (h : w.heap[g]? = some (.cells cs t (0, 0))) : w.cell? ⟨g, i, none⟩ = cs[i]? := cell_of_row w g i cs t (0, 0) h
theorem row_freeM {w : World} {b : Nat} {cs : Array Value} {t : TypeId} (h : w.heap[b]? = some (.cells cs t (0, 0))) (i : Nat) : w.frozen? ⟨b, i, none⟩ = false := by
  simp [World.frozen?, h]
theorem row_ltM {w : World} {b : Nat} {o : Obj} (h : w.heap[b]? = some o) : b < w.heap.size := by
  rcases Nat.lt_or_ge b w.heap.size with hl | hg
  · exact hl
  · rw [Array.getElem?_eq_none hg] at h; cases h
theorem row_setM {w : World} {b : Nat} {cs : Array Value} {t : TypeId} (h : w.heap[b]? = some (.cells cs t (0, 0))) (i : Nat) (u : Value) : (w.setCell ⟨b, i, none⟩ u).heap[b]? = some (.cells (cs.setIfInBounds i u) t (0, 0)) := by
  simp [World.setCell, Array.getElem?_modify, h]
theorem only_setM {w w' : World} {b : Nat} (h : w.grownBy w' (some b)) (i : Nat) (u : Value) : w.grownBy (w'.setCell ⟨b, i, none⟩ u) (some b) :=
  ⟨h.os, h.tape, h.output, by simpa [World.setCell] using h.size, fun j hj hne => (Below.heap_setCell w' ⟨b, i, none⟩ u j (by rintro rfl; exact hne rfl)).trans (h.block j hj hne)⟩
theorem only_below {a w w' : World} {row : Option Nat} (h : a.grownBy w row) (hb : Below w.heap.size w w') : a.grownBy w' row :=
  ⟨hb.os.trans h.os, hb.tape.trans h.tape, hb.output.trans h.output, Nat.le_trans h.size hb.size, fun i hi hne => (hb.block i (Nat.lt_of_lt_of_le hi h.size)).trans (h.block i hi hne)⟩

set_option maxHeartbeats 1000000 in
theorem markStringS_any (g cap n : Nat) (cur : Array Value) (w : World) (h : w.heap[g]? = some (.cells cur 9 (0, 0))) (hn : n ≤ cur.size) (hn2 : n ≤ 1048577) :
    Calls Try.prog 19 #[.slice (some ⟨g, 0, none⟩) n cap, .int .i64 1] w fun e w' => e = .returned (.int .i64 ((n : Int) + 1)) ∧ w'.heap[g]? = some (.cells (markArr cur n) 9 (0, 0)) ∧ w.grownBy w' (some g) := by
  have H := Lib.hid h
  clear h
  go_enter Try.func19, Try.ntmps19
  go_wp2
  go_loopw [1, 5] (fun q i wr => ∃ k : Nat, k ≤ n ∧ i = .int .i64 k ∧ q = .int .i64 ((k : Int) + 1) ∧ Hid (wr.heap[g]? = some (.cells (markArr cur k) 9 (0, 0))) ∧ Hid (w.grownBy wr (some g))) (fun _ i _ => n - (intOf i).toNat)
  case atStart => exact ⟨0, Nat.zero_le _, rfl, rfl, H.out, World.grownBy.refl w _⟩
  case round =>
    obtain ⟨k, hk, rfl, rfl, HR, HG⟩ := hrel
    by_cases hlt : k < n
    · have hki : (k : Int) < (n : Int) := by omega
      go_wp2_with fail
      refine (markText_any (k + 1) (by omega) (by omega) wr).mono ?_
      rintro e w1 ⟨rfl, hb1⟩
      have hr1 : w1.heap[g]? = some (.cells (markArr cur k) 9 (0, 0)) := (hb1.block g (row_ltM HR.out)).trans HR.out
      have hf := row_freeM hr1 k
      obtain ⟨u, hu⟩ : ∃ u, w1.cell? ⟨g, k, none⟩ = some u := by
        rw [row_cellM hr1]
        exact ⟨_, Array.getElem?_eq_getElem (by rw [markArr_size]; omega)⟩
      have HR2 := Lib.hid (row_setM hr1 k (.string (mkT (k + 1))))
      have HG2 := Lib.hid (only_setM (only_below HG.out hb1) k (.string (mkT (k + 1))))
      clear hb1 hr1
      go_wp2
      go_roundw
      case rel => exact ⟨k + 1, by omega, by go_num, by go_num, HR2, HG2⟩
      case measure => simp [intOf]; omega
    · obtain rfl : k = n := by omega
      go_wp2
      go_ret
      exact ⟨rfl, HR.out, HG.out⟩

set_option maxHeartbeats 2000000 in
theorem heldStringS_any (g cap n : Nat) (w : World) (h : ∀ j, j < n → w.cell? ⟨g, j, none⟩ = some (.string (mkT (j + 1)))) (hg : g < w.heap.size) (hn2 : n ≤ 1048577) :
    Calls Try.prog 20 #[.slice (some ⟨g, 0, none⟩) n cap, .int .i64 1] w fun e w' => e = .returned (.int .i64 ((n : Int) + 1)) ∧ Below w.heap.size w w' := by
  have H := Lib.hid h
  clear h
  go_enter Try.func20, Try.ntmps20
  go_wp2
  go_loopw [1, 5] (fun q i wr => ∃ k : Nat, k ≤ n ∧ i = .int .i64 k ∧ q = .int .i64 ((k : Int) + 1) ∧ Hid (Below w.heap.size w wr)) (fun _ i _ => n - (intOf i).toNat)
  case atStart => exact ⟨0, Nat.zero_le _, rfl, rfl, Below.refl _ _⟩
  case round =>
    obtain ⟨k, hk, rfl, rfl, HB⟩ := hrel
    by_cases hlt : k < n
    · have hki : (k : Int) < (n : Int) := by omega
      have hc : wr.cell? ⟨g, k, none⟩ = some (.string (mkT (k + 1))) := (HB.out.cell (p := ⟨g, k, none⟩) hg).trans (H.out k hlt)
      have hgs : g < wr.heap.size := Nat.lt_of_lt_of_le hg HB.out.size
      have HCM := Lib.hid (fun W => (show Calls Try.prog 35 #[.int .i64 ((k : Int) + 1)] W fun e w' => e = .returned (.string (mkT (k + 1))) ∧ Below W.heap.size W w' from markText_any (k + 1) (by omega) (by omega) W))
      go_wp2_with fail
      go_region_with ((go_at_call 35; refine (HCM.out _).mono ?_; rintro e w1 ⟨rfl, hb1⟩; have hc1 : w1.cell? ⟨g, k, none⟩ = some (.string (mkT (k + 1))) := (hb1.cell (p := ⟨g, k, none⟩) hgs).trans hc; have HB1 := Lib.hid (HB.out.drew.trans (Below.mono hb1 HB.out.size)); clear hb1))
      all_goals
        go_wp2
        go_roundw
        case rel => exact ⟨k + 1, by omega, by go_num, by go_num, HB1⟩
        case measure => simp [intOf]; omega
    · obtain rfl : k = n := by omega
      go_wp2
      go_ret
      exact ⟨rfl, HB.out⟩
end Go.Proofs.Ytdbhmlnojbmepaa
