/- Slices of strings: what the laws' own helpers do with them (size, copy, comparison). -/
import Derived.Test.YtdbhmlnojbmepaaProg
import Derived.WalkKit
import Derived.WalkLawsBesides
import Derived.LoopTactic
import Derived.Below
import Derived.Lib.Hide
import Derived.Deep.QuietTactic
import Derived.BigQuiet
import Derived.Deep.Draws
import Derived.SliceStrings
import Derived.ProofKit
import Derived.Laws.MakeOwn
import Derived.Laws.NewBlocks
import Derived.Laws.Rows
import Derived.Outline
namespace Go.Proofs.Ytdbhmlnojbmepaa
open Go.RowKit Go.ChangeShapes Go.WideShapes
set_option linter.unusedVariables false

/-- The slice at A reads as the strings ss, in a block that is there. -/
def Strs (w : World) (A : Option Addr) (ss : List ByteArray) : Prop :=
  0 < ss.length → ∃ b o, A = some ⟨b, o, none⟩ ∧ b < w.heap.size ∧ ∀ j x, ss[j]? = some x → w.cell? ⟨b, o + j, none⟩ = some (.string x)
theorem Strs.at_ {w : World} {A : Option Addr} {ss : List ByteArray} (h : Strs w A ss) {k : Nat} (hk : k < ss.length) :
    ∃ b o, A = some ⟨b, o, none⟩ ∧ b < w.heap.size ∧ w.cell? ⟨b, o + k, none⟩ = some (.string ss[k]) := by
  obtain ⟨b, o, e, hb, hc⟩ := h (by omega)
  exact ⟨b, o, e, hb, hc k _ (List.getElem?_eq_getElem hk)⟩
theorem Strs.below {w w' : World} {A : Option Addr} {ss : List ByteArray} {B : Nat} (h : Strs w A ss) (hb : Below B w w') (hB : w.heap.size ≤ B) : Strs w' A ss := fun h0 => by
  obtain ⟨b, o, e, hlt, hc⟩ := h h0
  exact ⟨b, o, e, Nat.lt_of_lt_of_le hlt hb.size, fun j x hx => (hb.cell (p := ⟨b, o + j, none⟩) (by show b < B; omega)).trans (hc j x hx)⟩
theorem Strs.nil {w : World} {A : Option Addr} : Strs w A [] := fun h => absurd h (by simp)
theorem below_drewN {B : Nat} {a w : World} (h : Below B a w) (n : Nat) : Below B a (w.drewN n) := ⟨h.os, h.tape, h.output, h.size, h.block⟩
theorem Strs.drewN {w : World} {A : Option Addr} {ss : List ByteArray} (h : Strs w A ss) (n : Nat) : Strs (w.drewN n) A ss := h

theorem lt_of_cell {w : World} {a : Addr} {v : Value} (h : w.cell? a = some v) : a.block < w.heap.size := by
  rcases Nat.lt_or_ge a.block w.heap.size with hl | hg
  · exact hl
  · simp [World.cell?, Array.getElem?_eq_none hg] at h
theorem strs_of_trod {H : Type} {enc : TypeId × Value → H} {W : World} {a : Option Addr} {len cap : Nat} {d : DataW H} {ps : List MemPlace}
    (h : DataW.Trod enc Try.prog W 0 (fun _ => true) true 26 (.slice a len cap) d ps) :
    ∃ ss : List ByteArray, len = ss.length ∧ Strs W a ss ∧ ss.length ≤ cap ∧ cap ≤ maxLen ∧ ∀ s ∈ ss, s.size ≤ maxLen := by
  obtain ⟨fuel, hf⟩ := h
  rcases open_strings Try.underlying26 Try.underlying9 (by kernel_rfl) hf with ⟨hcs, _⟩ | ⟨x, l, c, ss, hcs, _, hl, hm, hz, _, hcell, hws⟩
  · simp [Value.cells] at hcs
    obtain ⟨rfl, rfl, rfl⟩ := hcs
    exact ⟨[], rfl, Strs.nil, Nat.le_refl _, by unfold maxLen; omega, by simp⟩
  · simp [Value.cells] at hcs
    obtain ⟨rfl, rfl, rfl⟩ := hcs
    have hz' : ss.length = cap := by simpa using hz
    refine ⟨ss.take len, by simp; omega, ?_, by simp; omega, hm, fun s hs => hws s (List.mem_of_mem_take hs)⟩
    intro h0
    obtain ⟨b, off, spot⟩ := x
    have hc := hcell 0 (by simp at h0; omega)
    have hspot : spot = none := by simpa [Addr.add] using World.cell?_spot hc
    subst hspot
    refine ⟨b, off, rfl, ?_, fun j y hy => ?_⟩
    · have := lt_of_cell hc
      simpa [Addr.add] using this
    · have hj : j < ss.length := by
        rcases Nat.lt_or_ge j (ss.take len).length with h | h
        · simp at h; omega
        · rw [List.getElem?_eq_none h] at hy; cases hy
      have e : ss.getD j ByteArray.empty = y := by
        have h2 : j < len := by
          rcases Nat.lt_or_ge j (ss.take len).length with h | h
          · simp at h; omega
          · rw [List.getElem?_eq_none h] at hy; cases hy
        rw [List.getElem?_take_of_lt h2] at hy
        simp [List.getD, hy]
      have h3 := hcell j hj
      rw [e] at h3
      by_cases hj0 : j = 0
      · subst hj0
        simpa [Addr.add] using h3
      · simpa [Addr.add, hj0] using h3

/-- All the letters of a list of strings. -/
def letters (ss : List ByteArray) : Nat := (ss.map (·.size)).sum
theorem letters_snoc (ss : List ByteArray) (x : ByteArray) : letters (ss ++ [x]) = letters ss + x.size := by simp [letters]
theorem letters_take (ss : List ByteArray) : ∀ k, letters (ss.take k) ≤ letters ss := by
  induction ss with
  | nil => intro k; simp [letters]
  | cons x r ih =>
    intro k
    cases k with
    | zero => simp [letters]
    | succ k => have := ih k; simp only [letters, List.take_succ_cons, List.map_cons, List.sum_cons] at this ⊢; omega
theorem takeS_snoc (ss : List ByteArray) (k : Nat) (h : k < ss.length) : ss.take (k + 1) = ss.take k ++ [ss[k]] := List.take_succ_eq_append_getElem h
theorem letters_mem (ss : List ByteArray) {x : ByteArray} (h : x ∈ ss) : x.size ≤ letters ss := by
  induction ss with
  | nil => cases h
  | cons y r ih =>
    simp only [letters, List.map_cons, List.sum_cons]
    rcases List.mem_cons.1 h with rfl | h
    · omega
    · have := ih h; simp only [letters] at this; omega

/-- What szStringS answers. -/
def szAns (ss : List ByteArray) (left : Nat) : Int := if ss.length + letters ss ≤ left then ((left - (ss.length + letters ss) : Nat) : Int) else -1
theorem szAns_no {ss : List ByteArray} {left : Nat} (h : left < ss.length + letters ss) : szAns ss left = -1 := by unfold szAns; rw [if_neg (by omega)]
theorem szAns_yes {ss : List ByteArray} {left : Nat} (h : ss.length + letters ss ≤ left) : szAns ss left = ((left - (ss.length + letters ss) : Nat) : Int) := by unfold szAns; rw [if_pos h]
theorem ret_int' {k : IntKind} {a b : Int} (h : a = b) : Ending.returned (.int k a) = .returned (.int k b) := by rw [h]

set_option maxHeartbeats 1000000 in
theorem szStringS_any (A : Option Addr) (c : Nat) (ss : List ByteArray) (left : Nat) (w : World) (hS : Strs w A ss) (hn : ss.length ≤ maxLen) (hx : ∀ s ∈ ss, s.size ≤ maxLen) (hl : left ≤ 1048576) :
    Calls Try.prog 21 #[.slice A ss.length c, .int .i64 left] w fun e w' => e = .returned (.int .i64 (szAns ss left)) ∧ w = w' := by
  unfold maxLen at hn hx
  have HX := Lib.hid hx
  clear hx
  have HS := Lib.hid hS
  clear hS
  by_cases h0 : ss.length ≤ left
  · go_enter Try.func21, Try.ntmps21
    go_wp2
    go_loop [1, 5] (fun l i => ∃ k m : Nat, k ≤ ss.length ∧ i = .int .i64 k ∧ l = .int .i64 m ∧ Hid (m + ss.length + letters (ss.take k) = left)) (fun _ i => ss.length - (intOf i).toNat)
    case atStart => exact ⟨0, left - ss.length, Nat.zero_le _, rfl, by go_num, by show _ = _; simp [letters]; omega⟩
    case round =>
      obtain ⟨k, m, hk, rfl, rfl, HM⟩ := hrel
      by_cases hlt : k < ss.length
      · obtain ⟨b, o, rfl, hb, hc⟩ := HS.out.at_ hlt
        have hmax := HX.out ss[k] (List.getElem_mem hlt)
        have hts := takeS_snoc ss k hlt
        have hsn := letters_snoc (ss.take k) ss[k]
        rw [← hts] at hsn
        have htk := letters_take ss (k + 1)
        have hm := HM.out
        have HN := Lib.hid (show m + ss.length + letters (ss.take k) + ss[k].size = left + ss[k].size from by omega)
        by_cases hfit : ss[k].size ≤ m
        · have HR : Hid ((m - ss[k].size) + ss.length + letters (ss.take (k + 1)) = left) := by show _ = _; omega
          have hm' : m ≤ 1048576 := by omega
          clear hts hsn htk hm HN HM
          go_wp2
          go_round
          case rel => exact ⟨k + 1, m - ss[k].size, by omega, by go_num, by go_num, HR⟩
          case measure => simp [intOf]; omega
        · have HR : Hid (szAns ss left = -1) := szAns_no (by omega)
          have hm' : m ≤ 1048576 := by omega
          clear hts hsn htk hm HN HM
          go_wp2
          go_ret
          rw [HR.out]; exact ⟨rfl, rfl⟩
      · have hm := HM.out
        have et : ss.take k = ss := List.take_of_length_le (by omega)
        rw [et] at hm
        have HR : Hid (szAns ss left = (m : Int)) := by show _ = _; rw [szAns_yes (by omega)]; omega
        clear et hm HM
        go_wp2
        go_ret
        rw [HR.out]; exact ⟨rfl, rfl⟩
  · have HR : Hid (szAns ss left = -1) := szAns_no (by omega)
    go_enter Try.func21, Try.ntmps21
    go_wp2
    go_ret
    rw [HR.out]; exact ⟨rfl, rfl⟩

/-- A row of strings while it is being filled: the first k are there. -/
def rowS (ss : List ByteArray) (k : Nat) : Array Value := ((ss.take k).map Value.string ++ List.replicate (ss.length - k) (Value.string ⟨#[]⟩)).toArray
theorem rowS_at {ss : List ByteArray} {k : Nat} (h : k < ss.length) : (rowS ss k)[k]? = some (.string ⟨#[]⟩) := by
  unfold rowS
  have hl : ((ss.take k).map Value.string).length = k := by simp; omega
  rw [List.getElem?_toArray, List.getElem?_append_right (by omega), hl, Nat.sub_self, List.getElem?_replicate, if_pos (by omega)]
theorem rowS_set {ss : List ByteArray} {k : Nat} (h : k < ss.length) : (rowS ss k).setIfInBounds k (.string ss[k]) = rowS ss (k + 1) := by
  unfold rowS
  have hl : ((ss.take k).map Value.string).length = k := by simp; omega
  have e1 : ss.length - k = (ss.length - (k + 1)) + 1 := by omega
  have e2 : ss.take (k + 1) = ss.take k ++ [ss[k]] := List.take_succ_eq_append_getElem h
  rw [e2, e1, List.replicate_succ, List.setIfInBounds_toArray, List.set_append_right _ _ (by omega), hl, Nat.sub_self, List.set_cons_zero, List.map_append, List.append_assoc]
  rfl
theorem rowS_full (ss : List ByteArray) : rowS ss ss.length = (ss.map Value.string).toArray := by simp [rowS]
theorem rowS_nil (ss : List ByteArray) : rowS ss 0 = (List.replicate ss.length (Value.string ⟨#[]⟩)).toArray := by simp [rowS]
theorem Strs.new (w : World) (t : TypeId) (ss : List ByteArray) : Strs (w.alloc (.cells (ss.map Value.string).toArray t)) (some ⟨w.heap.size, 0, none⟩) ss := fun _ =>
  ⟨w.heap.size, 0, rfl, by simp, fun j x hx => by rw [World.cell?_alloc_at _ _ _ _ rfl]; simp [hx]⟩
theorem infoStr : (Try.prog.info? 9).map (fun i => (i.zero, i.size, i.bytes)) = some (some (.string ⟨#[]⟩), 1, 16) := by kernel_rfl
theorem makeStrs (ss : List ByteArray) (h : ss.length ≤ 1048576) (w : World) :
    (Instr.makeSlice 26 (.int .i64 (ss.length : Int)) (.int .i64 (ss.length : Int))).run Try.prog w = .ok (.slice (some ⟨w.heap.size, 0, none⟩) ss.length ss.length) (w.alloc (.cells (rowS ss 0) 9)) := by
  obtain ⟨i, hi, hz, hs, hb⟩ := info_parts infoStr
  have h1 := run_make (P := Try.prog) w 26 9 i _ Try.underlying26 hi hz .i64 .i64 (ss.length : Int) (ss.length : Int) (by omega) (by omega) (by rw [hb]; omega) (by omega)
  rw [h1]
  have e : madeCells (Value.string ⟨#[]⟩).cells ((ss.length : Int).toNat * i.size) = rowS ss 0 := by
    rw [hs, Int.toNat_natCast, Nat.mul_one, rowS_nil]
    apply Array.ext'
    rw [show (Value.string ⟨#[]⟩).cells = #[Value.string ⟨#[]⟩] from rfl, toList_madeCells_one]
  rw [e, Int.toNat_natCast]

/-- Some slice that reads as ss, in new memory. -/
def RetStrs (w : World) (ss : List ByteArray) (e : Ending) (w' : World) : Prop := ∃ A, e = .returned (.slice A ss.length ss.length) ∧ Strs w' A ss ∧ Below w.heap.size w w'

set_option maxHeartbeats 1000000 in
theorem toStringS_any (A : Option Addr) (c : Nat) (ss : List ByteArray) (w : World) (hS : Strs w A ss) (hn : ss.length ≤ 1048576) :
    Calls Try.prog 22 #[.slice A ss.length c] w (RetStrs w ss) := by
  have HS := Lib.hid hS
  clear hS
  have hmk := makeStrs ss hn
  go_enter Try.func22, Try.ntmps22
  go_wp2
  go_loopw [4] (fun i wr => ∃ k : Nat, k ≤ ss.length ∧ i = .int .i64 k ∧ wr = w.alloc (.cells (rowS ss k) 9)) (fun i _ => ss.length - (intOf i).toNat)
  case atStart => exact ⟨0, Nat.zero_le _, rfl, rfl⟩
  case round =>
    obtain ⟨k, hk, rfl, rfl⟩ := hrel
    by_cases hlt : k < ss.length
    · obtain ⟨b, o, rfl, hb, hc⟩ := HS.out.at_ hlt
      have hat := rowS_at hlt
      have HR := Lib.hid (rowS_set hlt)
      clear hmk
      go_wp2
      go_roundw
      case rel => exact ⟨k + 1, by omega, by go_num, by rw [HR.out]⟩
      case measure => simp [intOf]; omega
    · obtain rfl : k = ss.length := by omega
      clear hmk
      go_wp2
      go_ret
      rw [rowS_full]
      exact ⟨_, rfl, Strs.new w _ ss, (Below.refl _ _).alloc (Nat.le_refl _) _⟩

/-- Some bool, and only draws. -/
def RetBool (w : World) (b : Bool) (e : Ending) (w' : World) : Prop := e = .returned (.bool b) ∧ ∃ n, w' = w.drewN n

set_option maxHeartbeats 1000000 in
theorem eqStringS_same (A A' : Option Addr) (c c' : Nat) (ss : List ByteArray) (w : World) (hS : Strs w A ss) (hS' : Strs w A' ss) (hn : ss.length ≤ 1048576) :
    Calls Try.prog 18 #[.slice A ss.length c, .slice A' ss.length c'] w (RetBool w true) := by
  have HS := Lib.hid hS
  have HS' := Lib.hid hS'
  clear hS hS'
  go_enter Try.func18, Try.ntmps18
  go_wp2
  go_loopw [5] (fun i wr => ∃ k n : Nat, k ≤ ss.length ∧ i = .int .i64 k ∧ wr = w.drewN n) (fun i _ => ss.length - (intOf i).toNat)
  case atStart => exact ⟨0, 0, Nat.zero_le _, rfl, rfl⟩
  case round =>
    obtain ⟨k, n, hk, rfl, rfl⟩ := hrel
    by_cases hlt : k < ss.length
    · obtain ⟨b, o, rfl, hb, hc⟩ := HS.out.at_ hlt
      obtain ⟨b', o', rfl, hb', hc'⟩ := HS'.out.at_ hlt
      have hz : (k : Int) < (ss.length : Int) := by omega
      generalize ss[k] = x at hc hc'
      go_wp2
      go_quiet (fail)
      go_wp2
      go_roundw
      case rel => exact ⟨k + 1, _, by omega, by go_num, rfl⟩
      case measure => simp [intOf]; omega
    · go_wp2
      go_ret
      exact ⟨rfl, n, rfl⟩
end Go.Proofs.Ytdbhmlnojbmepaa
