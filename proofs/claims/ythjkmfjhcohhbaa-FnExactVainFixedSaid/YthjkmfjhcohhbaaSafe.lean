/- IsSafe: both. -/
import Derived.Test.YthjkmfjhcohhbaaGapS
namespace Go.Proofs.Ythjkmfjhcohhbaa
open Go.RowKit Go.ChangeShapes Go.WideShapes
set_option linter.unusedVariables false

/-- Whether a scheme is safe. -/
def safeB (n : Nat) (qs : List Int) (M : Nat) : Bool := decide (n = 1) || decide (2 * M < gapN (twL qs n))
set_option maxRecDepth 100000 in
set_option maxHeartbeats 2000000 in
theorem isSafeFor_any (A : Option Addr) (c lo hi : Nat) (n : Nat) (qs : List Int) (M : Nat) (w : World) (hS : Ins w lo hi A qs) (hl : qs.length ≤ 14) (hn : 1 ≤ n ∧ n ≤ 12) (hM : M ≤ 2) :
    Calls Try.prog 63 #[.int .i64 (n : Int), .slice A qs.length c, .int .i64 (M : Int)] w fun e w' => e = .returned (.bool (safeB n qs M)) ∧ Below w.heap.size w w' := by
  have HI := Lib.hid hS
  clear hS
  by_cases h1 : n = 1
  · have HR : Hid (safeB n qs M = true) := Lib.hid (by simp [safeB, h1])
    have e1 : ((n : Int) == 1) = true := by simp [h1]
    clear h1
    go_enter Try.func63, Try.ntmps63
    go_wp2
    go_ret
    rw [HR.out]
    exact ⟨rfl, Below.refl _ _⟩
  · have HR : Hid (safeB n qs M = decide ((2 : Int) * (M : Int) < (gapN (twL qs n) : Int))) := Lib.hid (by
      unfold safeB
      rw [decide_eq_false h1, Bool.false_or, Bool.eq_iff_iff, decide_eq_true_iff, decide_eq_true_iff]
      omega)
    have hg := gapN_le (twL qs n)
    have HT := Lib.hid (fun W h => allTrue_any A c lo hi qs n W h hl (by omega))
    have HG := Lib.hid (fun b W h => gapOf_any b n qs n W h (by omega))
    have e1 : ((n : Int) == 1) = false := by simp; omega
    clear h1
    go_enter Try.func63, Try.ntmps63
    go_wp2_with fail
    refine (HT.out _ HI.out).mono ?_
    rintro e w2 ⟨rfl, hW, hb⟩
    have HW := Lib.hid hW
    have HB := Lib.hid hb
    clear hW hb
    go_wp2_with fail
    refine (HG.out _ _ HW.out).mono ?_
    rintro e w3 ⟨rfl, hb⟩
    have HB2 := Lib.hid (below_trans HB.out hb)
    clear hb HB HW
    generalize gapN (twL qs n) = g at HR hg ⊢
    go_wp2
    go_ret
    rw [HR.out]
    exact ⟨rfl, HB2.out⟩
set_option maxRecDepth 100000 in
set_option maxHeartbeats 2000000 in
theorem l5Safe_any (A : Option Addr) (c lo hi : Nat) (n : Nat) (qs : List Int) (M : Nat) (w : World) (hS : Ins w lo hi A qs) (hl : qs.length ≤ 14) (hn : 1 ≤ n ∧ n ≤ 12) (hM : M ≤ 2) :
    Calls Try.prog 61 #[.int .i64 (n : Int), .slice A qs.length c, .int .i64 (M : Int)] w fun e w' => e = .returned (.bool (safeB n qs M)) ∧ Below w.heap.size w w' := by
  have HI := Lib.hid hS
  clear hS
  by_cases h1 : n = 1
  · have HR : Hid (safeB n qs M = true) := Lib.hid (by simp [safeB, h1])
    have e1 : ((n : Int) == 1) = true := by simp [h1]
    clear h1
    go_enter Try.func61, Try.ntmps61
    go_wp2
    go_ret
    rw [HR.out]
    exact ⟨rfl, Below.refl _ _⟩
  · have HR : Hid (safeB n qs M = decide ((2 : Int) * (M : Int) < (gapN (twL qs n) : Int))) := Lib.hid (by
      unfold safeB
      rw [decide_eq_false h1, Bool.false_or, Bool.eq_iff_iff, decide_eq_true_iff, decide_eq_true_iff]
      omega)
    have hg := gapN_le (twL qs n)
    have HT := Lib.hid (fun W h => l5Words_any A c lo hi qs n W h hl (by omega))
    have HG := Lib.hid (fun B c' lo hi W h => l5Gap_any B c' lo hi qs n W h hl (by omega))
    have e1 : ((n : Int) == 1) = false := by simp; omega
    clear h1
    go_enter Try.func61, Try.ntmps61
    go_wp2_with fail
    refine (HT.out _ HI.out).mono ?_
    rintro e w2 ⟨v, rfl, ho, hb⟩
    obtain ⟨B, c', rfl, _, hr⟩ := own_res (zs := twI qs n) ho rfl
    have HR2 := Lib.hid hr.ins
    have HB := Lib.hid hb
    have HL := Lib.hid (twI_len qs n)
    rw [HL.out]
    clear ho hb hr
    go_wp2_with fail
    refine (HG.out B c' _ _ _ HR2.out).mono ?_
    rintro e w3 ⟨rfl, hb⟩
    have HB2 := Lib.hid (below_trans HB.out hb)
    clear hb HB HR2
    generalize gapN (twL qs n) = g at HR hg ⊢
    go_wp2
    go_ret
    rw [HR.out]
    exact ⟨rfl, HB2.out⟩

theorem isSafe_both (n : Int) (qs : List Int) (h : qs.length ≤ 1048576) (m : Int) : ∃ (r0 : Bool) (r1 : Bool),
    (∀ (w : World) (B : Option Addr) (c lo hi : Nat), Ins w lo hi B qs → Calls Try.prog 30 #[.int .i64 n, .slice B qs.length c, .int .i64 m] w fun e w' => e = .returned (.tuple #[.bool r0, .bool r1]) ∧ Below w.heap.size w w') ∧
    (∀ (w : World) (B : Option Addr) (c lo hi : Nat), Ins w lo hi B qs → Calls Try.prog 29 #[.int .i64 n, .slice B qs.length c, .int .i64 m] w fun e w' => e = .returned (.tuple #[.bool r0, .bool r1]) ∧ Below w.heap.size w w') := by
  cases hs : isSch n qs with
  | false =>
    refine ⟨false, false, fun w B c lo hi hS => ?_, fun w B c lo hi hS => ?_⟩
    · have HC := Lib.hid (isScheme_impl B c lo hi n qs w hS h)
      rw [hs] at HC
      clear hS hs
      go_enter Try.func30, Try.ntmps30
      go_wp2_with fail
      refine HC.out.mono ?_
      rintro e w1 ⟨rfl, rfl⟩
      go_wp2
      go_ret2
      exact ⟨rfl, Below.refl _ _⟩
    · have HC := Lib.hid (l5Scheme_any B c lo hi n qs w hS h)
      rw [hs] at HC
      clear hS hs
      go_enter Try.func29, Try.ntmps29
      go_wp2_with fail
      refine HC.out.mono ?_
      rintro e w1 ⟨rfl, rfl⟩
      go_wp2
      go_ret2
      exact ⟨rfl, Below.refl _ _⟩
  | true =>
    have HM := Lib.hid (fun W => isMost_any m W)
    have HN := Lib.hid (fun W => l1In_any m 0 2 W)
    obtain ⟨hn, hl14, _⟩ := isSch_iff.1 hs
    cases hm : inB m 0 2 with
    | false =>
      rw [hm] at HM HN
      refine ⟨false, false, fun w B c lo hi hS => ?_, fun w B c lo hi hS => ?_⟩
      · have HC := Lib.hid (isScheme_impl B c lo hi n qs w hS h)
        rw [hs] at HC
        clear hS hs hm
        go_enter Try.func30, Try.ntmps30
        go_wp2_with fail
        refine HC.out.mono ?_
        rintro e w1 ⟨rfl, rfl⟩
        go_wp2_with fail
        refine (HM.out _).mono ?_
        rintro e w2 ⟨rfl, rfl⟩
        go_wp2
        go_ret2
        exact ⟨rfl, Below.refl _ _⟩
      · have HC := Lib.hid (l5Scheme_any B c lo hi n qs w hS h)
        rw [hs] at HC
        clear hS hs hm
        go_enter Try.func29, Try.ntmps29
        go_wp2_with fail
        refine HC.out.mono ?_
        rintro e w1 ⟨rfl, rfl⟩
        go_wp2_with fail
        refine (HN.out _).mono ?_
        rintro e w2 ⟨rfl, rfl⟩
        go_wp2
        go_ret2
        exact ⟨rfl, Below.refl _ _⟩
    | true =>
      have hm2 := inB_iff.1 hm
      rw [hm] at HM HN
      obtain ⟨k, rfl⟩ : ∃ k : Nat, n = (k : Int) := ⟨n.toNat, by omega⟩
      obtain ⟨M, rfl⟩ : ∃ M : Nat, m = (M : Int) := ⟨m.toNat, by omega⟩
      refine ⟨safeB k qs M, true, fun w B c lo hi hS => ?_, fun w B c lo hi hS => ?_⟩
      · have HC := Lib.hid (isScheme_impl B c lo hi (k : Int) qs w hS h)
        have HI := Lib.hid hS
        have HF := Lib.hid (fun W h => isSafeFor_any B c lo hi k qs M W h hl14 (by omega) (by omega))
        rw [hs] at HC
        clear hS hs hm
        go_enter Try.func30, Try.ntmps30
        go_wp2_with fail
        refine HC.out.mono ?_
        rintro e w1 ⟨rfl, rfl⟩
        go_wp2_with fail
        refine (HM.out _).mono ?_
        rintro e w2 ⟨rfl, rfl⟩
        go_wp2_with fail
        refine (HF.out _ HI.out).mono ?_
        rintro e w3 ⟨rfl, hb⟩
        have HB := Lib.hid hb
        clear hb
        go_wp2
        go_ret2
        exact ⟨rfl, HB.out⟩
      · have HC := Lib.hid (l5Scheme_any B c lo hi (k : Int) qs w hS h)
        have HI := Lib.hid hS
        have HF := Lib.hid (fun W h => l5Safe_any B c lo hi k qs M W h hl14 (by omega) (by omega))
        rw [hs] at HC
        clear hS hs hm
        go_enter Try.func29, Try.ntmps29
        go_wp2_with fail
        refine HC.out.mono ?_
        rintro e w1 ⟨rfl, rfl⟩
        go_wp2_with fail
        refine (HN.out _).mono ?_
        rintro e w2 ⟨rfl, rfl⟩
        go_wp2_with fail
        refine (HF.out _ HI.out).mono ?_
        rintro e w3 ⟨rfl, hb⟩
        have HB := Lib.hid hb
        clear hb
        go_wp2
        go_ret2
        exact ⟨rfl, HB.out⟩
end Go.Proofs.Ythjkmfjhcohhbaa
