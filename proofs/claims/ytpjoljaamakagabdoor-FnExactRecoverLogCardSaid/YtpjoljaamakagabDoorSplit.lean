/- The parts of a text between bytes: the model's l1Split. -/
import Derived.Test.YtpjoljaamakagabDoorProg
import Derived.Test.YtpjoljaamakagabDoorStands
import Derived.WalkKit
import Derived.WalkLawsBesides
import Derived.WalkSpells
import Derived.LoopTactic
import Derived.Below
import Derived.Lib.Hide
import Derived.Lib.Strings
import Derived.Maps.AppendAt
import Derived.RangeFuncBox
import Derived.Outline
namespace Go.Proofs.YtpjoljaamakagabDoor
open Go.RowKit
set_option linter.unusedVariables false

/-- The parts that are whole before place k, and where the next one begins. -/
def cutAt (s : ByteArray) (b : UInt8) : Nat → List ByteArray × Nat
  | 0 => ([], 0)
  | k + 1 => if s.data.toList[k]? = some b then ((cutAt s b k).1 ++ [s.extract (cutAt s b k).2 k], k + 1) else cutAt s b k
theorem cutAt_le (s : ByteArray) (b : UInt8) : ∀ k, (cutAt s b k).2 ≤ k ∧ (cutAt s b k).1.length ≤ k
  | 0 => ⟨Nat.le_refl _, Nat.le_refl _⟩
  | k + 1 => by
    have := cutAt_le s b k
    unfold cutAt
    split
    · simp; omega
    · omega
theorem cutAt_hit {s : ByteArray} {b : UInt8} {k : Nat} (hk : k < s.size) (h : s[k] = b) : cutAt s b (k + 1) = ((cutAt s b k).1 ++ [s.extract (cutAt s b k).2 k], k + 1) := by
  have e : s.data.toList[k]? = some b := by rw [List.getElem?_eq_getElem (by rw [← Lib.size_eq]; exact hk)]; exact congrArg some h
  show (if s.data.toList[k]? = some b then _ else _) = _
  rw [if_pos e]
theorem cutAt_miss {s : ByteArray} {b : UInt8} {k : Nat} (hk : k < s.size) (h : s[k] ≠ b) : cutAt s b (k + 1) = cutAt s b k := by
  have e : ¬ s.data.toList[k]? = some b := by
    rw [List.getElem?_eq_getElem (by rw [← Lib.size_eq]; exact hk)]
    intro h2
    injection h2 with h2
    exact h h2
  show (if s.data.toList[k]? = some b then _ else _) = _
  rw [if_neg e]
/-- All parts. -/
def parts (s : ByteArray) (b : UInt8) : List ByteArray := (cutAt s b s.size).1 ++ [s.extract (cutAt s b s.size).2 s.size]
theorem parts_len (s : ByteArray) (b : UInt8) : 1 ≤ (parts s b).length ∧ (parts s b).length ≤ s.size + 1 := by
  have := cutAt_le s b s.size
  unfold parts
  simp
  omega
theorem infoString : (Tryd.prog.info? 9).map (fun i => (i.zero, i.size, i.bytes)) = some (some (.string ⟨#[]⟩), 1, 16) := by kernel_rfl

/-- A slice of strings that the call itself has made. -/
def RetOwn (w : World) (ss : List ByteArray) (e : Ending) (w' : World) : Prop :=
  ∃ v, e = .returned v ∧ w'.ownsRow w.heap.size 9 1 v ss.length (ss.map Value.string) ∧ Below w.heap.size w w'

theorem u8_eq {a c : UInt8} (h : a = c) : ((a.toNat : Int) == (c.toNat : Int)) = true := by simp [h]
theorem u8_ne {a c : UInt8} (h : a ≠ c) : ((a.toNat : Int) == (c.toNat : Int)) = false := by
  rw [beq_eq_false_iff_ne]
  intro e
  exact h (UInt8.toNat_inj.1 (by omega))
/-- One part more in the row. -/
theorem own_snoc {w : World} {B n : Nat} {v : Value} {ss : List ByteArray} {x : ByteArray} (h : w.ownsRow B 9 1 v (n + 1) (ss.map Value.string ++ [Value.string x])) (hn : n = ss.length) :
    w.ownsRow B 9 1 v (ss ++ [x]).length ((ss ++ [x]).map Value.string) := by
  subst hn
  simpa using h

set_option maxHeartbeats 2000000 in
theorem l1Split_any (s : ByteArray) (c : UInt8) (w : World) (hs : s.size ≤ 1048576) :
    Calls Tryd.prog 74 #[.string s, .int .u8 (c.toNat : Int)] w (RetOwn w (parts s c)) := by
  obtain ⟨i0, hi, hz0, hz1, hz2⟩ := info_parts infoString
  go_enter Tryd.func74, Tryd.ntmps74
  go_wp2
  go_loopw [5, 6, 7] (fun out fr i wr => ∃ (k : Nat) (f : Nat) (ss : List ByteArray), k ≤ s.size ∧ f ≤ k ∧ ss.length ≤ k ∧ i = .int .i64 k ∧ fr = .int .i64 f ∧ Hid (cutAt s c k = (ss, f)) ∧ wr.ownsRow w.heap.size 9 1 out ss.length (ss.map Value.string) ∧ Below w.heap.size w wr) (fun _ _ i _ => s.size - (intOf i).toNat)
  case atStart => exact ⟨0, 0, [], Nat.zero_le _, Nat.le_refl _, Nat.le_refl _, rfl, rfl, rfl, World.ownsRow_lit w #[] 0 (Nat.le_refl _) (by unfold maxLen; omega) rfl, (Below.refl _ _).alloc (Nat.le_refl _) _⟩
  case round =>
    obtain ⟨k, f, ss, hk, hf, hl, rfl, rfl, HC, hown, hbel⟩ := hrel
    have hsz := hbel.size
    by_cases hlt : k < s.size
    · by_cases he : s[k] = c
      · have ht := u8_eq he
        have HC2 := cutAt_hit hlt he
        rw [HC.out] at HC2
        have HN := Lib.hid HC2
        clear he HC2 HC
        go_wp2_with (at_builtin; refine wpList_append_own _ rfl _ _ 101 rfl w.heap.size 9 i0 (.string ⟨#[]⟩) 1 16 Tryd.underlying101 hi hz0 hz1 hz2 rfl (by decide) _ _ _ rfl (hown.alloc _) ⟨wr.heap.size, 0, none⟩ 1 1 [.string (s.extract f k)] rfl rfl (cell_one_new _ _ _) (by simp [Value.oneCell']) (by unfold maxLen; omega) (by omega) (by simp; omega) ?_; intro v' w1 hown' hgrow _)
        have HO := Lib.hid (own_snoc hown' rfl)
        have HB := Lib.hid (((hbel.alloc hbel.size _).grown hgrow (by simp; omega) (fun q hq => (hown.lt q hq).1)))
        clear hown' hgrow hown hbel
        go_wp2
        go_roundw
        case rel => exact ⟨k + 1, k + 1, ss ++ [s.extract f k], by omega, by omega, by simp; omega, by go_num, by go_num, HN, HO.out, HB.out⟩
        case measure => simp [intOf]; omega
      · have ht := u8_ne he
        have HC2 := cutAt_miss hlt he
        rw [HC.out] at HC2
        have HN := Lib.hid HC2
        clear he HC2 HC
        go_wp2
        go_roundw
        case rel => exact ⟨k + 1, f, ss, by omega, by omega, by omega, by go_num, by go_num, HN, hown, hbel⟩
        case measure => simp [intOf]; omega
    · obtain rfl : k = s.size := by omega
      have HP : Hid (parts s c = ss ++ [s.extract f s.size]) := by show _ = _; unfold parts; rw [HC.out]
      clear HC
      go_wp2_with (at_builtin; refine wpList_append_own _ rfl _ _ 101 rfl w.heap.size 9 i0 (.string ⟨#[]⟩) 1 16 Tryd.underlying101 hi hz0 hz1 hz2 rfl (by decide) _ _ _ rfl (hown.alloc _) ⟨wr.heap.size, 0, none⟩ 1 1 [.string (s.extract f s.size)] rfl rfl (cell_one_new _ _ _) (by simp [Value.oneCell']) (by unfold maxLen; omega) (by omega) (by simp; omega) ?_; intro v' w1 hown' hgrow _)
      have HO := Lib.hid (own_snoc hown' rfl)
      have HB := Lib.hid (((hbel.alloc hbel.size _).grown hgrow (by simp; omega) (fun q hq => (hown.lt q hq).1)))
      clear hown' hgrow hown hbel
      go_wp2
      go_ret
      rw [HP.out]
      exact ⟨v', rfl, HO.out, HB.out⟩
end Go.Proofs.YtpjoljaamakagabDoor
