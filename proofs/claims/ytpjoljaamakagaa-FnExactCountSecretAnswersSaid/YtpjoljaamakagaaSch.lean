/- Schemes: which ones are valid; words: which ones there are. -/
import Derived.Test.YtpjoljaamakagaaWord
namespace Go.Proofs.Ytpjoljaamakagaa
open Go.RowKit Go.ChangeShapes Go.WideShapes
set_option linter.unusedVariables false

theorem pow_le14 (k : Nat) (h : k ≤ 14) : (1 : Int) ≤ 2 ^ k ∧ (2 : Int) ^ k ≤ 16384 := by
  have : ∀ k, k ≤ 14 → ((1 : Int) ≤ 2 ^ k ∧ (2 : Int) ^ k ≤ 16384) := by decide
  exact this k h
theorem wrap_pow14 (k : Nat) (h : k ≤ 14) : wrap64 ((2 : Int) ^ k) = 2 ^ k := by
  have : ∀ k, k ≤ 14 → wrap64 ((2 : Int) ^ k) = 2 ^ k := by decide +kernel
  exact this k h
theorem isSchemeSize_any (x : Int) (w : World) :
    Calls Try.prog 163 #[.int .i64 x] w fun e w' => e = .returned (.bool (inB x 0 14)) ∧ w' = w := by
  by_cases h1 : 0 ≤ x
  · by_cases h2 : x ≤ 14
    · rw [inB_t h1 h2]
      go_enter Try.func163, Try.ntmps163
      go_wp2
      go_ret
      exact ⟨rfl, rfl⟩
    · rw [inB_f2 h2]
      go_enter Try.func163, Try.ntmps163
      go_wp2
      go_ret
      exact ⟨rfl, rfl⟩
  · rw [inB_f1 h1]
    go_enter Try.func163, Try.ntmps163
    go_wp2
    go_ret
    exact ⟨rfl, rfl⟩
/-- Whether x is a word of m answers. -/
def wOK5 (m : Nat) (x : Int) : Bool := inB x 0 (2 ^ m - 1)
theorem wOK5_iff {m : Nat} {x : Int} : wOK5 m x = true ↔ 0 ≤ x ∧ x < 2 ^ m := by simp [wOK5, inB]; omega
/-- The first k are all questions. -/
def QsTo (qs : List Int) (n : Int) (k : Nat) : Prop := ∀ j (h : j < qs.length), j < k → qOK n qs[j] = true
theorem QsTo.zero {qs : List Int} {n : Int} : QsTo qs n 0 := fun j _ h => absurd h (by omega)
theorem QsTo.step {qs : List Int} {n : Int} {k : Nat} (h : QsTo qs n k) (hk : k < qs.length) (hb : qOK n qs[k] = true) : QsTo qs n (k + 1) := fun j hj hlt => by
  by_cases e : j = k
  · subst e; exact hb
  · exact h j hj (by omega)
theorem isSch_bad {qs : List Int} {n : Int} {k : Nat} (h : k < qs.length) (hb : qOK n qs[k] = false) : isSch n qs = false := by
  rw [Bool.eq_false_iff, Ne, isSch_iff]
  rintro ⟨_, _, h3⟩
  rw [h3 _ (List.getElem_mem h)] at hb
  cases hb
theorem isSch_long {qs : List Int} {n : Int} (h : 14 < qs.length) : isSch n qs = false := by
  rw [Bool.eq_false_iff, Ne, isSch_iff]
  rintro ⟨_, h2, _⟩
  omega
theorem isSch_n {qs : List Int} {n : Int} (h : inB n 1 12 = false) : isSch n qs = false := by simp [isSch, h]
theorem QsTo.isSch {qs : List Int} {n : Int} {k : Nat} (h : QsTo qs n k) (hk : qs.length ≤ k ∨ 15 ≤ k) : isSch n qs = (inB n 1 12 && decide (qs.length ≤ 14)) := by
  by_cases hl : qs.length ≤ 14
  · have : (qs.all fun q => qOK n q) = true := by
      rw [List.all_eq_true]
      intro z hz
      obtain ⟨j, hj, rfl⟩ := List.getElem_of_mem hz
      exact h j hj (by omega)
    unfold Go.Proofs.Ytpjoljaamakagaa.isSch
    rw [this, Bool.and_true]
  · rw [isSch_long (by omega)]
    simp [hl]

set_option maxHeartbeats 2000000 in
theorem isScheme_impl (A : Option Addr) (c lo hi : Nat) (n : Int) (qs : List Int) (w : World) (hS : Ins w lo hi A qs) (hn : qs.length ≤ 1048576) :
    Calls Try.prog 151 #[.int .i64 n, .slice A qs.length c] w fun e w' => e = .returned (.bool (isSch n qs)) ∧ w' = w := by
  have HI := Lib.hid hS
  have htop := hS.top
  have HC := Lib.hid (fun q W => isQuestion_any n q W)
  have HD := Lib.hid (fun W => isSize_any n W)
  have HE := Lib.hid (fun W => isSchemeSize_any (qs.length : Int) W)
  clear hS
  cases hnn : inB n 1 12 with
  | false =>
    have HS := Lib.hid (isSch_n (qs := qs) hnn)
    rw [hnn] at HD
    clear hnn
    go_enter Try.func151, Try.ntmps151
    go_wp2_with (go_at_call 65; refine (HD.out _).mono ?_; rintro e w1 ⟨rfl, rfl⟩)
    go_ret
    rw [HS.out]
    exact ⟨rfl, rfl⟩
  | true =>
    by_cases hl : qs.length ≤ 14
    · rw [inB_t (x := (qs.length : Int)) (a := 0) (b := 14) (by omega) (by omega)] at HE
      have HN := Lib.hid hnn
      rw [hnn] at HD
      clear hnn
      go_enter Try.func151, Try.ntmps151
      go_wp2_with (first | (go_at_call 65; refine (HD.out _).mono ?_; rintro e w1 ⟨rfl, rfl⟩) | (go_at_call 163; refine (HE.out _).mono ?_; rintro e w1 ⟨rfl, rfl⟩))
      go_loopw [18] (fun i wr => ∃ k : Nat, k ≤ qs.length ∧ i = .int .i64 k ∧ Hid (QsTo qs n k) ∧ wr = w1) (fun i _ => qs.length - (intOf i).toNat)
      case atStart => exact ⟨0, Nat.zero_le _, rfl, QsTo.zero, rfl⟩
      case round =>
        obtain ⟨k, hk, rfl, HQ, rfl⟩ := hrel
        by_cases hlt : k < qs.length
        · obtain ⟨b, o, rfl, _, hb, hc⟩ := HI.out.ints.at_ hlt
          have HCk := Lib.hid (HC.out qs[k])
          cases hq : qOK n qs[k] with
          | true =>
            rw [hq] at HCk
            have HS := Lib.hid (HQ.out.step hlt hq)
            clear hq HQ
            generalize qs[k] = q at hc HCk
            go_wp2_with (go_at_call 98; refine (HCk.out _).mono ?_; rintro e w1 ⟨rfl, rfl⟩)
            go_roundw
            case rel => exact ⟨k + 1, by omega, by go_num, HS, by first | trivial | rfl⟩
            case measure => simp [intOf]; omega
          | false =>
            rw [hq] at HCk
            have HS := Lib.hid (isSch_bad hlt hq)
            clear hq HQ
            generalize qs[k] = q at hc HCk
            go_wp2_with (go_at_call 98; refine (HCk.out _).mono ?_; rintro e w1 ⟨rfl, rfl⟩)
            go_ret
            rw [HS.out]
            exact ⟨rfl, rfl⟩
        · obtain rfl : k = qs.length := by omega
          have HS := Lib.hid (HQ.out.isSch (by omega))
          rw [HN.out, decide_eq_true hl] at HS
          go_wp2
          go_ret
          rw [HS.out]
          exact ⟨rfl, rfl⟩
    · have HS := Lib.hid (isSch_long (n := n) (qs := qs) (by omega))
      rw [inB_f2 (x := (qs.length : Int)) (a := 0) (b := 14) (by omega)] at HE
      rw [hnn] at HD
      clear hnn
      go_enter Try.func151, Try.ntmps151
      go_wp2_with (first | (go_at_call 65; refine (HD.out _).mono ?_; rintro e w1 ⟨rfl, rfl⟩) | (go_at_call 163; refine (HE.out _).mono ?_; rintro e w1 ⟨rfl, rfl⟩))
      go_ret
      rw [HS.out]
      exact ⟨rfl, rfl⟩
end Go.Proofs.Ytpjoljaamakagaa
