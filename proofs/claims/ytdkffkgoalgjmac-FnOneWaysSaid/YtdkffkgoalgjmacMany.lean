/- How many answers are false for a number; which answers are valid. -/
import Derived.Test.YtdkffkgoalgjmacAsks
import Derived.Test.YtdkffkgoalgjmacTold
import Derived.Maps.OwnOps
import Derived.Maps.OwnSet
import Derived.Maps.Views
namespace Go.Proofs.Ytdkffkgoalgjmac
open Go.RowKit Go.ChangeShapes Go.WideShapes
set_option linter.unusedVariables false

/-- Which answers are valid for n numbers. -/
def okA (n : Int) (l : List (Int × Bool)) : Bool := inB n 1 12 && decide (l.length ≤ 20) && l.all fun x => qOK n x.1
def OkTo (n : Int) (l : List (Int × Bool)) (k : Nat) : Prop := ∀ j (h : j < l.length), j < k → qOK n l[j].1 = true
theorem OkTo.zero {n : Int} {l : List (Int × Bool)} : OkTo n l 0 := fun j _ h => absurd h (by omega)
theorem OkTo.next {n : Int} {l : List (Int × Bool)} {k : Nat} (h : OkTo n l k) (hk : k < l.length) (hb : qOK n l[k].1 = true) : OkTo n l (k + 1) := fun j hj hlt => by
  by_cases e : j = k
  · subst e; exact hb
  · exact h j hj (by omega)
theorem okA_bad {n : Int} {l : List (Int × Bool)} {k : Nat} (h : k < l.length) (hb : qOK n l[k].1 = false) : okA n l = false := by
  have : (l.all fun x => qOK n x.1) = false := by
    rw [Bool.eq_false_iff]
    intro ha
    have := List.all_eq_true.1 ha _ (List.getElem_mem h)
    rw [hb] at this; cases this
  simp [okA, this]
theorem okA_all {n : Int} {l : List (Int × Bool)} (h : OkTo n l l.length) : okA n l = (inB n 1 12 && decide (l.length ≤ 20)) := by
  have : (l.all fun x => qOK n x.1) = true := by
    rw [List.all_eq_true]
    intro x hx
    obtain ⟨j, hj, rfl⟩ := List.getElem_of_mem hx
    exact h j hj hj
  simp [okA, this]
theorem okA_long {n : Int} {l : List (Int × Bool)} (h : ¬ l.length ≤ 20) : okA n l = false := by simp [okA, h]
theorem okA_size {n : Int} {l : List (Int × Bool)} (h : inB n 1 12 = false) : okA n l = false := by simp [okA, h]
theorem okA_iff {n : Int} {l : List (Int × Bool)} (h : okA n l = true) : inB n 1 12 = true ∧ l.length ≤ 20 := by
  simp only [okA, Bool.and_eq_true, decide_eq_true_eq] at h
  exact h.1

set_option maxRecDepth 100000 in
set_option maxHeartbeats 2000000 in
theorem areAnswers_any (n : Int) (A : Option Addr) (c lo hi : Nat) (l : List (Int × Bool)) (w : World) (hS : AIns w lo hi A l) (hn : l.length ≤ 1048576) :
    Calls Try.prog 130 #[.int .i64 n, .slice A l.length c] w fun e w' => e = .returned (.bool (okA n l)) ∧ Below w.heap.size w w' := by
  have HS := Lib.hid hS
  have HC := Lib.hid (fun W => isSize_any n W)
  clear hS
  cases h1 : inB n 1 12 with
  | false =>
    rw [h1] at HC
    have HR := Lib.hid (okA_size (l := l) h1)
    clear h1
    go_enter Try.func130, Try.ntmps130
    go_wp2_with fail
    refine (HC.out w).mono ?_
    rintro e w' ⟨rfl, hw⟩
    subst hw
    go_wp2
    go_ret
    rw [HR.out]
    exact ⟨rfl, Below.refl _ _⟩
  | true =>
    by_cases h20 : l.length ≤ 20
    · have HQ := Lib.hid (fun q W => isQuestion_any n q W)
      have HA : Hid (OkTo n l l.length → okA n l = true) := fun h => by rw [okA_all h, h1]; simpa using h20
      rw [h1] at HC
      clear h1
      go_enter Try.func130, Try.ntmps130
      go_wp2_with fail
      refine (HC.out w).mono ?_
      rintro e w' ⟨rfl, hw⟩
      subst hw
      go_wp2_with fail
      go_loopw [17] (fun i wr => ∃ k : Nat, k ≤ l.length ∧ i = .int .i64 k ∧ Hid (OkTo n l k) ∧ Hid (Below w'.heap.size w' wr)) (fun i _ => l.length - (intOf i).toNat)
      case atStart => exact ⟨0, Nat.zero_le _, rfl, OkTo.zero, Below.refl _ _⟩
      case round =>
        obtain ⟨k, hk, rfl, HO, HB⟩ := hrel
        by_cases hlt : k < l.length
        · obtain ⟨b, o, rfl, _, _, hc1, hc2⟩ := (HS.out.step HB.out).asks.at_ hlt
          have HQk := Lib.hid (fun W => HQ.out l[k].1 W)
          have HN := Lib.hid (fun h => okA_bad (n := n) hlt h)
          have HY := Lib.hid (fun h => HO.out.next hlt h)
          generalize l[k] = x at hc1 hc2 HQk HN HY
          have HB2 := Lib.hid (HB.out.alloc HB.out.size (.cells #[.int .i64 x.1, .bool x.2] 52))
          cases hq : qOK n x.1 with
          | true =>
            have HY2 := Lib.hid (HY.out hq)
            rw [hq] at HQk
            clear hq HN HY
            go_wp2_with fail
            refine (HQk.out _).mono ?_
            rintro e w5 ⟨rfl, hw⟩
            subst hw
            go_wp2
            go_roundw
            case rel => exact ⟨k + 1, by omega, by go_num, HY2, HB2⟩
            case measure => simp [intOf]; omega
          | false =>
            have HR := Lib.hid (HN.out hq)
            rw [hq] at HQk
            clear hq HN HY
            go_wp2_with fail
            refine (HQk.out _).mono ?_
            rintro e w5 ⟨rfl, hw⟩
            subst hw
            go_wp2
            go_ret
            rw [HR.out]
            exact ⟨rfl, HB2.out⟩
        · obtain rfl : k = l.length := by omega
          have HR := Lib.hid (HA.out HO.out)
          go_wp2
          go_ret
          rw [HR.out]
          exact ⟨rfl, HB.out⟩
    · have HR := Lib.hid (okA_long (n := n) h20)
      rw [h1] at HC
      clear h1
      go_enter Try.func130, Try.ntmps130
      go_wp2_with fail
      refine (HC.out w).mono ?_
      rintro e w' ⟨rfl, hw⟩
      subst hw
      go_wp2
      go_ret
      rw [HR.out]
      exact ⟨rfl, Below.refl _ _⟩

set_option maxRecDepth 100000 in
set_option maxHeartbeats 2000000 in
theorem l2Answers_any (n : Int) (A : Option Addr) (c lo hi : Nat) (l : List (Int × Bool)) (w : World) (hS : AIns w lo hi A l) (hn : l.length ≤ 1048576) :
    Calls Try.prog 76 #[.int .i64 n, .slice A l.length c] w fun e w' => e = .returned (.bool (okA n l)) ∧ Below w.heap.size w w' := by
  have HS := Lib.hid hS
  have HC := Lib.hid (fun W => l2Numbers_any n W)
  have HQ := Lib.hid (fun q W => l2Asks_any n q W)
  clear hS
  go_enter Try.func76, Try.ntmps76
  go_wp2_with fail
  go_loopw [5] (fun i wr => ∃ k : Nat, k ≤ l.length ∧ k ≤ 21 ∧ i = .int .i64 k ∧ Hid (OkTo n l k) ∧ wr = w) (fun i _ => l.length - (intOf i).toNat)
  case atStart => exact ⟨0, Nat.zero_le _, by omega, rfl, OkTo.zero, rfl⟩
  case round =>
    obtain ⟨k, hk, hk21, rfl, HO, rfl⟩ := hrel
    by_cases hlt : k < l.length
    · by_cases h20 : k ≤ 20
      · obtain ⟨b, o, rfl, _, _, hc1, hc2⟩ := HS.out.asks.at_ hlt
        have HQk := Lib.hid (fun W => HQ.out l[k].1 W)
        have HN := Lib.hid (fun h => okA_bad (n := n) hlt h)
        have HY := Lib.hid (fun h => HO.out.next hlt h)
        generalize l[k] = x at hc1 hc2 HQk HN HY
        cases hq : qOK n x.1 with
        | true =>
          have HY2 := Lib.hid (HY.out hq)
          rw [hq] at HQk
          clear hq HN HY
          go_wp2_with fail
          refine (HQk.out _).mono ?_
          rintro e w5 ⟨rfl, hw⟩
          subst hw
          go_wp2
          go_roundw
          case rel => exact ⟨k + 1, by omega, by omega, by go_num, HY2, by first | rfl | trivial⟩
          case measure => simp [intOf]; omega
        | false =>
          have HR := Lib.hid (HN.out hq)
          rw [hq] at HQk
          clear hq HN HY
          go_wp2_with fail
          refine (HQk.out _).mono ?_
          rintro e w5 ⟨rfl, hw⟩
          subst hw
          go_wp2
          go_ret
          rw [HR.out]
          first | exact ⟨rfl, Below.refl _ _⟩ | (rw [decide_eq_false (show ¬ (l.length : Int) ≤ 20 by omega)]; exact ⟨rfl, Below.refl _ _⟩) | (rw [decide_eq_true (show (l.length : Int) ≤ 20 by omega)]; exact ⟨rfl, Below.refl _ _⟩)
      · obtain rfl : k = 21 := by omega
        have HR := Lib.hid (okA_long (n := n) (l := l) (by omega))
        cases h1 : inB n 1 12 with
        | true =>
          rw [h1] at HC
          have hgt : ¬ (l.length : Int) ≤ 20 := by omega
          go_wp2_with fail
          refine (HC.out _).mono ?_
          rintro e w5 ⟨rfl, hw⟩
          subst hw
          go_wp2
          go_ret
          rw [HR.out]
          first | exact ⟨rfl, Below.refl _ _⟩ | (rw [decide_eq_false (show ¬ (l.length : Int) ≤ 20 by omega)]; exact ⟨rfl, Below.refl _ _⟩) | (rw [decide_eq_true (show (l.length : Int) ≤ 20 by omega)]; exact ⟨rfl, Below.refl _ _⟩)
        | false =>
          rw [h1] at HC
          go_wp2_with fail
          refine (HC.out _).mono ?_
          rintro e w5 ⟨rfl, hw⟩
          subst hw
          go_wp2
          go_ret
          rw [HR.out]
          first | exact ⟨rfl, Below.refl _ _⟩ | (rw [decide_eq_false (show ¬ (l.length : Int) ≤ 20 by omega)]; exact ⟨rfl, Below.refl _ _⟩) | (rw [decide_eq_true (show (l.length : Int) ≤ 20 by omega)]; exact ⟨rfl, Below.refl _ _⟩)
    · obtain rfl : k = l.length := by omega
      have HR := Lib.hid (okA_all HO.out)
      cases h1 : inB n 1 12 with
      | true =>
        rw [h1] at HC HR
        by_cases h20 : l.length ≤ 20
        · have hle : (l.length : Int) ≤ 20 := by omega
          rw [decide_eq_true h20] at HR
          go_wp2_with fail
          refine (HC.out _).mono ?_
          rintro e w5 ⟨rfl, hw⟩
          subst hw
          go_wp2
          go_ret
          rw [HR.out]
          first | exact ⟨rfl, Below.refl _ _⟩ | (rw [decide_eq_false (show ¬ (l.length : Int) ≤ 20 by omega)]; exact ⟨rfl, Below.refl _ _⟩) | (rw [decide_eq_true (show (l.length : Int) ≤ 20 by omega)]; exact ⟨rfl, Below.refl _ _⟩)
        · have hle : ¬ (l.length : Int) ≤ 20 := by omega
          rw [decide_eq_false h20] at HR
          go_wp2_with fail
          refine (HC.out _).mono ?_
          rintro e w5 ⟨rfl, hw⟩
          subst hw
          go_wp2
          go_ret
          rw [HR.out]
          first | exact ⟨rfl, Below.refl _ _⟩ | (rw [decide_eq_false (show ¬ (l.length : Int) ≤ 20 by omega)]; exact ⟨rfl, Below.refl _ _⟩) | (rw [decide_eq_true (show (l.length : Int) ≤ 20 by omega)]; exact ⟨rfl, Below.refl _ _⟩)
      | false =>
        rw [h1] at HC HR
        go_wp2_with fail
        refine (HC.out _).mono ?_
        rintro e w5 ⟨rfl, hw⟩
        subst hw
        go_wp2
        go_ret
        rw [HR.out]
        exact ⟨rfl, Below.refl _ _⟩

/-- How many of the first k answers are false for s. -/
def cntF (l : List (Int × Bool)) (s : Nat) : Nat → Nat
  | 0 => 0
  | k + 1 => cntF l s k + (if ((l.getD k (0, false)).2 != inQ (l.getD k (0, false)).1 s) = true then 1 else 0)
theorem cntF_le (l : List (Int × Bool)) (s : Nat) : ∀ k, cntF l s k ≤ k
  | 0 => Nat.le_refl _
  | k + 1 => by have := cntF_le l s k; rw [cntF]; split <;> omega
theorem getDA {l : List (Int × Bool)} {k : Nat} (h : k < l.length) : l.getD k (0, false) = l[k] := by simp [List.getD, h]

end Go.Proofs.Ytdkffkgoalgjmac
