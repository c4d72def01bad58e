/- Numerals: the model's l1Num, l1In, FormatInt, and the program's FormatInt. -/
import Derived.Test.YtpjoljaamakagabDoorProg
import Derived.Test.YtpjoljaamakagabDoorDec
import Derived.Test.YtpjoljaamakagabDoorShelf
import Derived.WalkKit
import Derived.WalkLawsBesides
import Derived.WalkSpells
import Derived.LoopTactic
import Derived.Below
import Derived.Lib.Hide
import Derived.Lib.AppendIntMem
import Derived.Deep.QuietTactic
import Derived.BigQuiet
import Derived.Deep.Draws
import Derived.Outline
namespace Go.Proofs.YtpjoljaamakagabDoor
open Go.RowKit
set_option linter.unusedVariables false

theorem below_drewNL {B : Nat} {a w : World} (h : Below B a w) (n : Nat) : Below B a (w.drewN n) := ⟨h.os, h.tape, h.output, h.size, h.block⟩
def Drawn (w w' : World) : Prop := ∃ n, w' = w.drewN n
theorem Drawn.refl (w : World) : Drawn w w := ⟨0, rfl⟩
theorem Drawn.more {w w' : World} (h : Drawn w w') (n : Nat) : Drawn w (w'.drewN n) := by
  obtain ⟨m, rfl⟩ := h
  exact ⟨m + n, World.drewN_drewN _ _ _⟩
theorem Drawn.trans {a b c : World} (h : Drawn a b) (k : Drawn b c) : Drawn a c := by
  obtain ⟨m, rfl⟩ := k
  exact h.more m
theorem Drawn.below {w w' : World} (h : Drawn w w') (B : Nat) : Below B w w' := by
  obtain ⟨m, rfl⟩ := h
  exact below_drewNL (Below.refl _ _) m

def RetStr (w : World) (s : List UInt8) (e : Ending) (w' : World) : Prop := e = .returned (.string ⟨s.toArray⟩) ∧ Drawn w w'

theorem l1In_anyL (x a b : Int) (w : World) (h : a ≤ b) :
    Calls Tryd.prog 47 #[.int .i64 x, .int .i64 a, .int .i64 b] w fun e w' => e = .returned (.bool (decide (a ≤ x ∧ x ≤ b))) ∧ w = w' := by
  by_cases h1 : a ≤ x
  · by_cases h2 : x ≤ b
    · have e : decide (a ≤ x ∧ x ≤ b) = true := by simp [h1, h2]
      rw [e]
      go_enter Tryd.func47, Tryd.ntmps47
      go_wp2
      go_ret
      exact ⟨rfl, rfl⟩
    · have e : decide (a ≤ x ∧ x ≤ b) = false := by simp [h2]
      rw [e]
      go_enter Tryd.func47, Tryd.ntmps47
      go_wp2
      go_ret
      exact ⟨rfl, rfl⟩
  · have e : decide (a ≤ x ∧ x ≤ b) = false := by simp [h1]
    rw [e]
    go_enter Tryd.func47, Tryd.ntmps47
    go_wp2
    go_ret
    exact ⟨rfl, rfl⟩

/-- The ten digits. -/
def ten : ByteArray := ⟨#[48, 49, 50, 51, 52, 53, 54, 55, 56, 57]⟩
theorem ten_fin : ∀ d : Fin 10, ten.extract d.val (d.val + 1) = ⟨(Lib.decDigits d.val).toArray⟩ := by
  intro d
  rw [dd_small d.isLt]
  revert d
  decide +kernel
theorem ten_at {n : Int} (h0 : 0 ≤ n) (h1 : n < 10) : (⟨#[48, 49, 50, 51, 52, 53, 54, 55, 56, 57]⟩ : ByteArray).extract n.toNat (n + 1).toNat = ⟨(Lib.decDigits n.toNat).toArray⟩ := by
  have := ten_fin ⟨n.toNat, by omega⟩
  rw [show (n + 1).toNat = n.toNat + 1 from by omega]
  exact this
theorem dd_append {n : Int} (h0 : 10 ≤ n) : (⟨(Lib.decDigits (n / 10).toNat).toArray⟩ : ByteArray) ++ ⟨(Lib.decDigits (n % 10).toNat).toArray⟩ = ⟨(Lib.decDigits n.toNat).toArray⟩ := by
  rw [dd_big (u := n.toNat) (by omega), show (n / 10).toNat = n.toNat / 10 from by omega, show (n % 10).toNat = n.toNat % 10 from by omega, dd_small (u := n.toNat % 10) (by omega)]
  apply ByteArray.ext
  simp [ByteArray.data_append]
theorem mk_size (l : List UInt8) : (⟨l.toArray⟩ : ByteArray).size = l.length := by simp [ByteArray.size]

set_option maxHeartbeats 1000000 in
theorem l1Num_nat (k : Nat) : ∀ (n : Int) (w : World), n.toNat ≤ k → 0 ≤ n → n ≤ 1000000 →
    Calls Tryd.prog 70 #[.int .i64 n] w (RetStr w (Lib.decDigits n.toNat)) := by
  induction k with
  | zero =>
    intro n w hk h0 h1
    have hn : n < 10 := by omega
    go_enter Tryd.func70, Tryd.ntmps70
    go_wp2_with fail
    go_ret
    rw [ten_at h0 hn]
    exact ⟨rfl, Drawn.refl _⟩
  | succ k ih =>
    intro n w hk h0 h1
    by_cases hn : n < 10
    · clear ih
      go_enter Tryd.func70, Tryd.ntmps70
      go_wp2_with fail
      go_ret
      rw [ten_at h0 hn]
      exact ⟨rfl, Drawn.refl _⟩
    · have IH := Lib.hid ih
      clear ih
      have ha := mk_size (Lib.decDigits (n / 10).toNat)
      have ha2 : (Lib.decDigits (n / 10).toNat).length ≤ 7 := Nat.le_trans (dd_len6 (u := (n / 10).toNat) (by omega)) (by omega)
      have hadd : ∀ W, (Op.stringOp .add ⟨(Lib.decDigits (n / 10).toNat).toArray⟩ ((⟨#[48, 49, 50, 51, 52, 53, 54, 55, 56, 57]⟩ : ByteArray).extract (n % 10).toNat (n % 10 + 1).toNat)).run Tryd.prog W = .ok (.string ⟨(Lib.decDigits n.toNat).toArray⟩) W := fun W => by
        rw [ten_at (n := n % 10) (by omega) (by omega), run_string_add_sum W _ _ (by rw [mk_size, mk_size, dd_small (u := (n % 10).toNat) (by omega)]; simp; omega), dd_append (by omega)]
      clear ha ha2
      go_enter Tryd.func70, Tryd.ntmps70
      go_wp2_with fail
      go_quiet ((go_at_call 70; exact Calls.quiet_of (IH.out (n / 10) _ (by omega) (by omega) (by omega))))
      go_wp2
      go_ret
      exact ⟨rfl, _, rfl⟩

theorem itoa_neg' {n : Int} (h : n < 0) : Lib.itoa n = 45 :: Lib.decDigits n.natAbs := by unfold Lib.itoa; rw [if_pos h]
theorem itoa_pos' {n : Int} (h : 0 ≤ n) : Lib.itoa n = Lib.decDigits n.toNat := by unfold Lib.itoa; rw [if_neg (by omega)]
theorem itoa_len8 {n : Int} (h0 : -1000000 ≤ n) (h1 : n ≤ 1000000) : (Lib.itoa n).length ≤ 9 := by
  unfold Lib.itoa
  split
  · have := dd_len 6 n.natAbs (by have : n.natAbs < 10000000 := by omega
                                  exact this)
    simp; omega
  · have := dd_len 6 n.toNat (by have : n.toNat < 10000000 := by omega
                                 exact this)
    omega
theorem minus_append {n : Int} (h : n < 0) : (⟨#[45]⟩ : ByteArray) ++ ⟨(Lib.decDigits (-n).toNat).toArray⟩ = ⟨(Lib.itoa n).toArray⟩ := by
  rw [itoa_neg' h, show (-n).toNat = n.natAbs from by omega]
  apply ByteArray.ext
  simp [ByteArray.data_append]
theorem tq {n : Int} (h : n ≤ 0) : n.tdiv 10 = -((n.natAbs / 10 : Nat) : Int) ∧ n.tmod 10 = -((n.natAbs % 10 : Nat) : Int) := by
  obtain ⟨u, rfl⟩ : ∃ u : Nat, n = -(u : Int) := ⟨n.natAbs, by omega⟩
  rw [Int.neg_tdiv, Int.neg_tmod, Int.natAbs_neg, Int.natAbs_natCast]
  exact ⟨rfl, rfl⟩
theorem neg_append {n : Int} (h : n ≤ -10) : (⟨(Lib.itoa (n.tdiv 10)).toArray⟩ : ByteArray) ++ ⟨(Lib.decDigits (-(n.tmod 10)).toNat).toArray⟩ = ⟨(Lib.itoa n).toArray⟩ := by
  obtain ⟨e1, e2⟩ := tq (n := n) (by omega)
  rw [itoa_neg' (n := n) (by omega), itoa_neg' (n := n.tdiv 10) (by omega), e1, e2]
  rw [show (-((n.natAbs / 10 : Nat) : Int)).natAbs = n.natAbs / 10 from by omega, show (-(-((n.natAbs % 10 : Nat) : Int))).toNat = n.natAbs % 10 from by omega]
  rw [dd_big (u := n.natAbs) (by omega), dd_small (u := n.natAbs % 10) (by omega)]
  apply ByteArray.ext
  simp [ByteArray.data_append]

set_option maxHeartbeats 1000000 in
theorem l1Num_any (k : Nat) : ∀ (n : Int) (w : World), n.natAbs ≤ k → -1000000 ≤ n → n ≤ 1000000 →
    Calls Tryd.prog 70 #[.int .i64 n] w (RetStr w (Lib.itoa n)) := by
  induction k with
  | zero =>
    intro n w hk h0 h1
    rw [itoa_pos' (n := n) (by omega)]
    exact l1Num_nat 0 n w (by omega) (by omega) h1
  | succ k ih =>
    intro n w hk h0 h1
    by_cases hp : 0 ≤ n
    · rw [itoa_pos' hp]
      exact l1Num_nat n.toNat n w (Nat.le_refl _) hp h1
    · by_cases hn : -10 < n
      · have hadd : ∀ W, (Op.stringOp .add ⟨#[45]⟩ ⟨(Lib.decDigits (-n).toNat).toArray⟩).run Tryd.prog W = .ok (.string ⟨(Lib.itoa n).toArray⟩) W := fun W => by
          rw [run_string_add_sum W _ _ (by rw [mk_size, dd_small (u := (-n).toNat) (by omega)]; show (1 : Nat) + 1 ≤ _; omega), minus_append (by omega)]
        clear ih
        go_enter Tryd.func70, Tryd.ntmps70
        go_wp2_with fail
        refine (l1Num_nat (-n).toNat (-n) w (Nat.le_refl _) (by omega) (by omega)).mono ?_
        rintro e w1 ⟨rfl, hd1⟩
        have HD1 := Lib.hid hd1
        clear hd1
        go_wp2_with fail
        go_ret
        exact ⟨rfl, HD1.out⟩
      · obtain ⟨q1, q2⟩ := tq (n := n) (by omega)
        have hadd : ∀ W, (Op.stringOp .add ⟨(Lib.itoa (n.tdiv 10)).toArray⟩ ⟨(Lib.decDigits (-(n.tmod 10)).toNat).toArray⟩).run Tryd.prog W = .ok (.string ⟨(Lib.itoa n).toArray⟩) W := fun W => by
          rw [run_string_add_sum W _ _ (by
            have h2 := itoa_len8 (n := n.tdiv 10) (by omega) (by omega)
            have h3 := dd_len6 (u := (-(n.tmod 10)).toNat) (by omega)
            rw [mk_size, mk_size]; omega), neg_append (by omega)]
        have IH := Lib.hid ih
        clear ih
        have hb1 : n.tdiv 10 ≤ 0 := by omega
        have hb2 : -1000000 ≤ n.tdiv 10 := by omega
        have hb3 : n.tmod 10 ≤ 0 := by omega
        have hb4 : -10 < n.tmod 10 := by omega
        have hb5 := Lib.hid (show (n.tdiv 10).natAbs ≤ k from by omega)
        clear q1 q2
        go_enter Tryd.func70, Tryd.ntmps70
        go_wp2_with fail
        refine (IH.out (n.tdiv 10) w hb5.out (by omega) (by omega)).mono ?_
        rintro e w1 ⟨rfl, hd1⟩
        have HD1 := Lib.hid hd1
        clear hd1
        go_wp2_with fail
        refine (l1Num_nat 10 (-(n.tmod 10)) w1 (by omega) (by omega) (by omega)).mono ?_
        rintro e w2 ⟨rfl, hd2⟩
        have HD2 := Lib.hid (HD1.out.trans hd2)
        clear hd2 HD1
        go_wp2_with fail
        go_ret
        exact ⟨rfl, HD2.out⟩

/-- What FormatInt answers. -/
def fAns (n : Int) : Option (List UInt8) := if -999999 ≤ n ∧ n ≤ 999999 then some (Lib.itoa n) else none
def OptStr (w : World) (a : Option (List UInt8)) (e : Ending) (w' : World) : Prop :=
  e = .returned (.tuple #[.string ⟨(a.getD []).toArray⟩, .bool a.isSome]) ∧ Below w.heap.size w w'

theorem format_impl (n : Int) (w : World) (h0 : (Lit.int .i64 n).wf = true) (htab : Lib.TabIs Tryd.prog w "internal/strconv.uint64pow10" .u64 Lib.pow10Tab) :
    Calls Tryd.prog 72 #[.int .i64 n] w (OptStr w (fAns n)) := by
  by_cases hr : -999999 ≤ n ∧ n ≤ 999999
  · have C := Lib.hid (Tryd.strconv_Itoa n (by omega) (by omega) w htab)
    rw [show fAns n = some (Lib.itoa n) from if_pos hr]
    obtain ⟨h1, h2⟩ := hr
    clear h0 htab
    go_enter Tryd.func72, Tryd.ntmps72
    go_wp2_with fail
    refine C.out.mono ?_
    rintro e w1 ⟨rfl, q, os, rfl⟩
    have HB := Lib.hid (Lib.below_grow w.heap.size w (Nat.le_refl _) q os)
    generalize Sort.grow (w.drewN q) os = w1 at HB ⊢
    go_wp2_with fail
    go_ret2
    exact ⟨rfl, HB.out⟩
  · rw [show fAns n = none from if_neg hr]
    clear htab
    by_cases h1 : n < -999999
    · clear hr h0
      go_enter Tryd.func72, Tryd.ntmps72
      go_wp2_with fail
      go_ret2
      exact ⟨rfl, Below.refl _ _⟩
    · have h2 : 999999 < n := by omega
      clear hr h0
      go_enter Tryd.func72, Tryd.ntmps72
      go_wp2_with fail
      go_ret2
      exact ⟨rfl, Below.refl _ _⟩
end Go.Proofs.YtpjoljaamakagabDoor
