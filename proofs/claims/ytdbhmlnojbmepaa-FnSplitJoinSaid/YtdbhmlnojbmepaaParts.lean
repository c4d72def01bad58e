/- The program's partsOf: an iterator that hands out the parts of a text one by one. -/
import Derived.RangeFuncNested
import Derived.RangeFuncBound
import Derived.RangeFuncCalls
import Derived.RangeFuncLeaves
import Derived.RangeFuncBox
import Derived.Shelf.Abstract
import Derived.Shelf.RegionOpen
import Derived.OwnWalkIn
import Derived.TacticsInMore
import Derived.LoopNIn
import Derived.LoopIn
import Derived.RegionTactic
import Derived.Test.YtdbhmlnojbmepaaSplit
namespace Go.Proofs.Ytdbhmlnojbmepaa
open Go.RowKit Go.Shelf
set_option linter.unusedVariables false
attribute [local go_sem] Oper.semAt_some

theorem cutAt_grow (s : ByteArray) (b : UInt8) : ∀ k j, (cutAt s b k).1.length ≤ (cutAt s b (k + j)).1.length
  | k, 0 => Nat.le_refl _
  | k, j + 1 => by
    have h := cutAt_grow s b k j
    have e : (cutAt s b (k + j)).1.length ≤ (cutAt s b (k + j + 1)).1.length := by
      generalize k + j = m
      show _ ≤ (if s.data.toList[m]? = some b then ((cutAt s b m).1 ++ [s.extract (cutAt s b m).2 m], m + 1) else cutAt s b m).1.length
      split
      · simp
      · exact Nat.le_refl _
    exact Nat.le_trans h e
theorem cutAt_room {s : ByteArray} {b : UInt8} {k : Nat} (h : k ≤ s.size) : (cutAt s b k).1.length < (parts s b).length := by
  have := cutAt_grow s b k (s.size - k)
  rw [show k + (s.size - k) = s.size from by omega] at this
  unfold parts
  simp
  omega

/-- Two blocks stand as they stood. -/
def Two (b1 b2 : Nat) (W W' : World) : Prop := W'.heap[b1]? = W.heap[b1]? ∧ W'.heap[b2]? = W.heap[b2]?
theorem Two.refl (b1 b2 : Nat) (W : World) : Two b1 b2 W W := ⟨rfl, rfl⟩
theorem Two.trans {b1 b2 : Nat} {A B C : World} (h : Two b1 b2 A B) (k : Two b1 b2 B C) : Two b1 b2 A C := ⟨k.1.trans h.1, k.2.trans h.2⟩
theorem Two.drew {b1 b2 : Nat} {A B : World} (h : Two b1 b2 A B) : Two b1 b2 A B.drew := h

set_option maxRecDepth 100000 in
set_option maxHeartbeats 2000000 in
theorem parts1_in (F : Fence) (n : Nat) (hf : F.fn 37) (hro : F.round = none) (hn : 1 ≤ n) (l b1 b2 : Nat) (s : ByteArray) (c : UInt8) (hs : s.size ≤ 1048576) (J Jx : List ByteArray → World → Prop)
    (hJd : ∀ pre W, J pre W → J pre (World.drew W))
    (hY : ∀ pre x W, J pre W → pre.length < (parts s c).length → YieldAt F (n - 1) Try.prog l #[.string x] W fun e W' =>
      (e = .returned (.bool true) ∧ J (pre ++ [x]) W' ∧ Two b1 b2 W W') ∨ (e = .returned (.bool false) ∧ Jx (pre ++ [x]) W'))
    (W : World) (hc1 : W.cell? ⟨b1, 0, none⟩ = some (.string s)) (hc2 : W.cell? ⟨b2, 0, none⟩ = some (.int .u8 (c.toNat : Int))) (h0 : J [] W) :
    CallsIn F n Try.prog 37 #[.func (.yield l) #[] #[], .pointer (some ⟨b1, 0, none⟩), .pointer (some ⟨b2, 0, none⟩)] W fun e W' => (∃ v, e = .returned v) ∧
      ((∃ ys, ys = parts s c ∧ J ys W') ∨ (∃ pre, True ∧ Jx pre W')) := by
  refine callsIn_of_wp Try.func37 rfl hf ?_ hro
  simp only [Try.ntmps37, List.size_toArray, List.length_cons, List.length_nil, Nat.reduceAdd, Nat.reduceSub, Array.replicate_succ, Array.replicate_zero, List.push_toArray, List.append_toArray, List.nil_append, List.cons_append]
  gi_wp2
  gi_loopw [4, 8] (fun st i wr => ∃ k f : Nat, k ≤ s.size ∧ f ≤ k ∧ i = .int .i64 k ∧ st = .int .i64 f ∧ Hid ((cutAt s c k).2 = f) ∧ Hid (J (cutAt s c k).1 wr) ∧ Hid (Two b1 b2 W wr))
    (fun _ i _ => s.size - (intOf i).toNat)
  case atStart => exact ⟨0, 0, Nat.zero_le _, Nat.le_refl _, rfl, rfl, rfl, h0, Two.refl _ _ _⟩
  case round =>
    obtain ⟨k, f, hk, hfk, rfl, rfl, HF, HJ, HB⟩ := hrel
    have hd1 : wr.cell? ⟨b1, 0, none⟩ = some (.string s) := (World.cell?_of_block (a := ⟨b1, 0, none⟩) HB.out.1).trans hc1
    have hd2 : wr.cell? ⟨b2, 0, none⟩ = some (.int .u8 (c.toNat : Int)) := (World.cell?_of_block (a := ⟨b2, 0, none⟩) HB.out.2).trans hc2
    have HYY := Lib.hid hY
    have HJD := Lib.hid hJd
    clear hY hJd hc1 hc2 h0
    by_cases hlt : k < s.size
    · by_cases he : s[k] = c
      · have ht : ((s[k].toNat : Int) != (c.toNat : Int)) = false := by simp [he]
        have hcut := cutAt_hit hlt he
        have e1 : (cutAt s c (k + 1)).1 = (cutAt s c k).1 ++ [s.extract f k] := by rw [hcut, HF.out]
        have HF2 : Hid ((cutAt s c (k + 1)).2 = k + 1) := by show _ = _; rw [hcut]
        have HE := Lib.hid e1
        obtain ⟨fn, tmps, assign, body, hy, hR⟩ := HYY.out (cutAt s c k).1 (s.extract f k) wr.drew (HJD.out _ _ HJ.out) (cutAt_room (by omega))
        have HRR := Lib.hid hR
        clear hcut e1 he hR
        gi_wp2
        gi_region
        all_goals gi_wp2
        all_goals
          refine HRR.out.mono ?_
          rintro e W3 (⟨rfl, hJ3, hk3⟩ | ⟨rfl, hJx3⟩)
          · have HJ3 : Hid (J (cutAt s c (k + 1)).1 W3) := by show J _ _; rw [HE.out]; exact hJ3
            have HB3 := Lib.hid ((HB.out.drew).trans hk3)
            clear hJ3 hk3
            gi_wp2
            go_roundw
            case rel => exact ⟨k + 1, k + 1, by omega, by omega, by go_num, by go_num, HF2, HJ3, HB3⟩
            case measure => simp [intOf]; omega
          · gi_wp2
            refine bodyPost_ret (results_none rfl _ _ _) rfl ?_
            exact ⟨⟨_, rfl⟩, .inr ⟨_, trivial, hJx3⟩⟩
      · have ht : ((s[k].toNat : Int) != (c.toNat : Int)) = true := by
          have := u8_ne he
          simpa using this
        have hcut := cutAt_miss hlt he
        have HF2 : Hid ((cutAt s c (k + 1)).2 = f) := by show _ = _; rw [hcut]; exact HF.out
        have HJ2 : Hid (J (cutAt s c (k + 1)).1 wr.drew) := by show J _ _; rw [hcut]; exact HJD.out _ _ HJ.out
        have HB2 := Lib.hid (HB.out.drew)
        clear hcut he HB HJ HF
        gi_wp2
        gi_region
        all_goals gi_wp2
        all_goals
          go_roundw
          case rel => exact ⟨k + 1, f, by omega, by omega, by go_num, by go_num, HF2, HJ2, HB2⟩
          case measure => simp [intOf]; omega
    · obtain rfl : k = s.size := by omega
      have HP : Hid (parts s c = (cutAt s c s.size).1 ++ [s.extract f s.size]) := by show _ = _; unfold parts; rw [HF.out]
      obtain ⟨fn, tmps, assign, body, hy, hR⟩ := HYY.out (cutAt s c s.size).1 (s.extract f s.size) wr HJ.out (cutAt_room (Nat.le_refl _))
      have HRR := Lib.hid hR
      clear hR
      gi_wp2
      refine HRR.out.mono ?_
      rintro e W3 (⟨rfl, hJ3, hk3⟩ | ⟨rfl, hJx3⟩)
      · gi_wp2
        go_end0
        exact ⟨⟨_, rfl⟩, .inl ⟨_, rfl, by rw [HP.out]; exact hJ3⟩⟩
      · gi_wp2
        go_end0
        exact ⟨⟨_, rfl⟩, .inr ⟨_, trivial, hJx3⟩⟩
end Go.Proofs.Ytdbhmlnojbmepaa
