/- CountUntold: both. -/
import Derived.Test.YthjkmfjhcohhbaaFit
namespace Go.Proofs.Ythjkmfjhcohhbaa
open Go.RowKit Go.ChangeShapes Go.WideShapes
set_option linter.unusedVariables false

theorem untold_step (ws : List Nat) (m W : Nat) : untoldTo ws m (W + 1) = untoldTo ws m W + (if 1 < (fitL ws W m).length then 1 else 0) := by
  show cntB _ (W + 1) = _
  rw [cntB]
  by_cases h : 1 < (fitL ws W m).length <;> simp [h, untoldTo]
set_option maxRecDepth 100000 in
set_option maxHeartbeats 2000000 in
theorem countUntold_yes (A : Option Addr) (c lo hi : Nat) (n : Nat) (qs : List Int) (m : Nat) (w : World) (hS : Ins w lo hi A qs) (hs : isSch n qs = true) (hm : m ≤ 14) :
    Calls Try.prog 36 #[.int .i64 (n : Int), .slice A qs.length c, .int .i64 (m : Int)] w fun e w' => e = .returned (.tuple #[.int .i64 (untoldTo (twL qs n) m (2 ^ qs.length) : Int), .bool true]) ∧ Below w.heap.size w w' := by
  obtain ⟨hn, hl, _⟩ := isSch_iff.1 hs
  have HI := Lib.hid hS
  have HC := Lib.hid (fun W h => isScheme_impl A c lo hi (n : Int) qs W h (by omega))
  have HE := Lib.hid (fun W => isSchemeSize_any (m : Int) W)
  rw [hs] at HC
  rw [inB_t (x := (m : Int)) (a := 0) (b := 14) (by omega) (by omega)] at HE
  have HH := Lib.hid (fun W h => holdersOf_any A c lo hi qs n W h hl (by omega))
  have HA := Lib.hid (fun x (hx : x < 2 ^ 14) W => answersOf_any x W hx)
  have HW := Lib.hid (fun x M base D W h => within_any M base qs n x m D W h hl (by omega) hm)
  have hp := pow_le14 qs.length hl
  have hpc : Hid ((2 : Int) ^ qs.length = ((2 ^ qs.length : Nat) : Int)) := Lib.hid (by norm_cast)
  have hp14 := Lib.hid (pow_mono14 hl)
  clear hS hs
  go_enter Try.func36, Try.ntmps36
  go_wp2_with fail
  refine (HC.out w HI.out).mono ?_
  rintro e w1 ⟨rfl, rfl⟩
  go_wp2_with fail
  refine (HE.out _).mono ?_
  rintro e w3 ⟨rfl, rfl⟩
  go_wp2_with fail
  refine (HH.out _ HI.out).mono ?_
  rintro e w4 ⟨base, D, rfl, hh, hb⟩
  have HHo := Lib.hid hh
  have HB := Lib.hid hb
  clear hh hb
  go_wp2_with fail
  go_loopw [9, 26] (fun r i wr => ∃ (x : Nat), x ≤ 2 ^ qs.length ∧ i = .int .i64 (x : Int) ∧ r = .int .i64 (untoldTo (twL qs n) m x : Int) ∧ Hid (Hold wr w3.heap.size base qs n D) ∧ Hid (Below w3.heap.size w3 wr)) (fun _ i _ => 2 ^ qs.length - (intOf i).toNat)
  case atStart => exact ⟨0, Nat.zero_le _, rfl, rfl, HHo, HB⟩
  case round =>
    clear HHo HB
    obtain ⟨x, hx, rfl, rfl, HHo, HB⟩ := hrel
    rename World => wr
    have hx14 := Nat.le_trans hx hp14.out
    have hx15 : x ≤ 16384 := hx14
    have hcl := cntB_le (fun x => decide (1 < (fitL (twL qs n) x m).length)) x
    have hcl2 : untoldTo (twL qs n) m x ≤ x := hcl
    by_cases hlt : x < 2 ^ qs.length
    · have hcmp : (x : Int) < 2 ^ qs.length := by rw [hpc.out]; omega
      have HAk := Lib.hid (HA.out x (Nat.lt_of_lt_of_le hlt hp14.out))
      have HWk := Lib.hid (HW.out x w3.heap.size base D)
      have HSt := Lib.hid (untold_step (twL qs n) m x)
      have hfl := fitL_len (twL qs n) x m
      rw [twL_len] at hfl
      have HM : Hid (2 ^ qs.length - (x + 1) < 2 ^ qs.length - x) := Lib.hid (by omega)
      have HXL := Lib.hid hlt
      clear hx14 hcl hlt
      go_wp2_with fail
      refine (HAk.out _).mono ?_
      rintro e w5 ⟨rfl, hb⟩
      have HHo2 := Lib.hid (HHo.out.step hb)
      have HB2 := Lib.hid (below_trans HB.out hb)
      clear hb HHo HB
      go_wp2_with fail
      refine (HWk.out _ HHo2.out).mono ?_
      rintro e w6 ⟨v, rfl, ho, hb⟩
      obtain ⟨B, c', rfl, _, _⟩ := own_res ho rfl
      have HHo3 := Lib.hid (HHo2.out.step hb)
      have HB3 := Lib.hid (below_trans HB2.out hb)
      clear ho hb HHo2 HB2
      generalize (fitL (twL qs n) x m).length = f at HSt hfl ⊢
      by_cases h1 : 1 < f
      · rw [if_pos h1] at HSt
        go_wp2
        go_roundw
        case rel => exact ⟨x + 1, HXL.out, by go_num, by rw [HSt.out]; push_cast; rfl, HHo3, HB3⟩
        case measure => simp [intOf]; exact HM.out
      · rw [if_neg h1] at HSt
        go_wp2
        go_roundw
        case rel => exact ⟨x + 1, HXL.out, by go_num, by rw [HSt.out]; rfl, HHo3, HB3⟩
        case measure => simp [intOf]; exact HM.out
    · have hxe : x = 2 ^ qs.length := by omega
      have hcmp : ¬ (x : Int) < 2 ^ qs.length := by rw [hpc.out]; omega
      have HX := Lib.hid hxe
      clear hxe hlt hx hx14
      go_wp2
      go_ret2
      rw [← HX.out]
      exact ⟨rfl, HB.out⟩
set_option maxRecDepth 100000 in
set_option maxHeartbeats 2000000 in
theorem countUntold_yesS (A : Option Addr) (c lo hi : Nat) (n : Nat) (qs : List Int) (m : Nat) (w : World) (hS : Ins w lo hi A qs) (hs : isSch n qs = true) (hm : m ≤ 14) :
    Calls Try.prog 35 #[.int .i64 (n : Int), .slice A qs.length c, .int .i64 (m : Int)] w fun e w' => e = .returned (.tuple #[.int .i64 (untoldTo (twL qs n) m (2 ^ qs.length) : Int), .bool true]) ∧ Below w.heap.size w w' := by
  obtain ⟨hn, hl, _⟩ := isSch_iff.1 hs
  have HI := Lib.hid hS
  have HC := Lib.hid (fun W h => l5Scheme_any A c lo hi (n : Int) qs W h (by omega))
  have HE := Lib.hid (fun W => l1In_any (m : Int) 0 14 W)
  rw [hs] at HC
  rw [inB_t (x := (m : Int)) (a := 0) (b := 14) (by omega) (by omega)] at HE
  have HH := Lib.hid (fun W h => l5Words_any A c lo hi qs n W h hl (by omega))
  have HW := Lib.hid (fun x (hx : x < 2 ^ 14) B c' lo hi W h => l5Fit_any B c' lo hi (twL qs n) x m W h (twL_14 hl n) hx (by rw [twL_len]; omega) hm)
  have HL := Lib.hid (twL_len qs n)
  have hp := pow_le14 qs.length hl
  have hpc : Hid ((2 : Int) ^ qs.length = ((2 ^ qs.length : Nat) : Int)) := Lib.hid (by norm_cast)
  have hp14 := Lib.hid (pow_mono14 hl)
  clear hS hs
  go_enter Try.func35, Try.ntmps35
  go_wp2_with fail
  refine (HC.out w HI.out).mono ?_
  rintro e w1 ⟨rfl, rfl⟩
  go_wp2_with fail
  refine (HE.out _).mono ?_
  rintro e w3 ⟨rfl, rfl⟩
  go_wp2_with fail
  refine (HH.out _ HI.out).mono ?_
  rintro e w4 ⟨v, rfl, ho, hb⟩
  obtain ⟨B, c', rfl, _, hr⟩ := own_res ho rfl
  have HR := Lib.hid hr.ins
  have HB := Lib.hid hb
  rw [List.length_map, HL.out]
  clear ho hb hr
  go_wp2_with fail
  go_loopw [8, 10] (fun r i wr => ∃ (x : Nat), x ≤ 2 ^ qs.length ∧ i = .int .i64 (x : Int) ∧ r = .int .i64 (untoldTo (twL qs n) m x : Int) ∧ Hid (Ins wr w3.heap.size w4.heap.size B ((twL qs n).map Int.ofNat)) ∧ Hid (Below w3.heap.size w3 wr)) (fun _ i _ => 2 ^ qs.length - (intOf i).toNat)
  case atStart => exact ⟨0, Nat.zero_le _, rfl, rfl, HR, HB⟩
  case round =>
    clear HR HB
    obtain ⟨x, hx, rfl, rfl, HR, HB⟩ := hrel
    rename World => wr
    have hx14 := Nat.le_trans hx hp14.out
    have hx15 : x ≤ 16384 := hx14
    have hcl := cntB_le (fun x => decide (1 < (fitL (twL qs n) x m).length)) x
    have hcl2 : untoldTo (twL qs n) m x ≤ x := hcl
    by_cases hlt : x < 2 ^ qs.length
    · have hcmp : (x : Int) < 2 ^ qs.length := by rw [hpc.out]; omega
      have HWk := Lib.hid (HW.out x (Nat.lt_of_lt_of_le hlt hp14.out) B c' w3.heap.size w4.heap.size)
      rw [HL.out] at HWk
      have HSt := Lib.hid (untold_step (twL qs n) m x)
      have hfl := fitL_len (twL qs n) x m
      rw [twL_len] at hfl
      have HM : Hid (2 ^ qs.length - (x + 1) < 2 ^ qs.length - x) := Lib.hid (by omega)
      have HXL := Lib.hid hlt
      clear hx14 hcl hlt
      go_wp2_with fail
      refine (HWk.out _ HR.out).mono ?_
      rintro e w6 ⟨v, rfl, ho, hb⟩
      obtain ⟨B2, c2, rfl, _, _⟩ := own_res ho rfl
      have HR2 := Lib.hid (HR.out.step hb)
      have HB2 := Lib.hid (below_trans HB.out hb)
      clear ho hb HR HB
      generalize (fitL (twL qs n) x m).length = f at HSt hfl ⊢
      by_cases h1 : 1 < f
      · rw [if_pos h1] at HSt
        go_wp2
        go_roundw
        case rel => exact ⟨x + 1, HXL.out, by go_num, by rw [HSt.out]; push_cast; rfl, HR2, HB2⟩
        case measure => simp [intOf]; exact HM.out
      · rw [if_neg h1] at HSt
        go_wp2
        go_roundw
        case rel => exact ⟨x + 1, HXL.out, by go_num, by rw [HSt.out]; rfl, HR2, HB2⟩
        case measure => simp [intOf]; exact HM.out
    · have hxe : x = 2 ^ qs.length := by omega
      have hcmp : ¬ (x : Int) < 2 ^ qs.length := by rw [hpc.out]; omega
      have HX := Lib.hid hxe
      clear hxe hlt hx hx14
      go_wp2
      go_ret2
      rw [← HX.out]
      exact ⟨rfl, HB.out⟩
theorem countUntold_both (n : Int) (qs : List Int) (h : qs.length ≤ 1048576) (m : Int) : ∃ (r0 : Int) (r1 : Bool),
    (∀ (w : World) (B : Option Addr) (c lo hi : Nat), Ins w lo hi B qs → Calls Try.prog 36 #[.int .i64 n, .slice B qs.length c, .int .i64 m] w fun e w' => e = .returned (.tuple #[.int .i64 r0, .bool r1]) ∧ Below w.heap.size w w') ∧
    (∀ (w : World) (B : Option Addr) (c lo hi : Nat), Ins w lo hi B qs → Calls Try.prog 35 #[.int .i64 n, .slice B qs.length c, .int .i64 m] w fun e w' => e = .returned (.tuple #[.int .i64 r0, .bool r1]) ∧ Below w.heap.size w w') := by
  cases hs : isSch n qs with
  | false =>
    refine ⟨0, false, fun w B c lo hi hS => ?_, fun w B c lo hi hS => ?_⟩
    · have HC := Lib.hid (isScheme_impl B c lo hi n qs w hS h)
      rw [hs] at HC
      clear hS hs
      go_enter Try.func36, Try.ntmps36
      go_wp2_with fail
      refine HC.out.mono ?_
      rintro e w1 ⟨rfl, rfl⟩
      go_wp2
      go_ret2
      exact ⟨rfl, Below.refl _ _⟩
    · have HC := Lib.hid (l5Scheme_any B c lo hi n qs w hS h)
      rw [hs] at HC
      clear hS hs
      go_enter Try.func35, Try.ntmps35
      go_wp2_with fail
      refine HC.out.mono ?_
      rintro e w1 ⟨rfl, rfl⟩
      go_wp2
      go_ret2
      exact ⟨rfl, Below.refl _ _⟩
  | true =>
    have HM := Lib.hid (fun W => isSchemeSize_any m W)
    have HN := Lib.hid (fun W => l1In_any m 0 14 W)
    obtain ⟨hn, hl14, _⟩ := isSch_iff.1 hs
    cases hm : inB m 0 14 with
    | false =>
      rw [hm] at HM HN
      refine ⟨0, false, fun w B c lo hi hS => ?_, fun w B c lo hi hS => ?_⟩
      · have HC := Lib.hid (isScheme_impl B c lo hi n qs w hS h)
        rw [hs] at HC
        clear hS hs hm
        go_enter Try.func36, Try.ntmps36
        go_wp2_with fail
        refine HC.out.mono ?_
        rintro e w1 ⟨rfl, rfl⟩
        go_wp2_with fail
        refine (HM.out _).mono ?_
        rintro e w2 ⟨rfl, rfl⟩
        go_wp2
        go_ret2
        exact ⟨rfl, Below.refl _ _⟩
      · have HC := Lib.hid (l5Scheme_any B c lo hi n qs w hS h)
        rw [hs] at HC
        clear hS hs hm
        go_enter Try.func35, Try.ntmps35
        go_wp2_with fail
        refine HC.out.mono ?_
        rintro e w1 ⟨rfl, rfl⟩
        go_wp2_with fail
        refine (HN.out _).mono ?_
        rintro e w2 ⟨rfl, rfl⟩
        go_wp2
        go_ret2
        exact ⟨rfl, Below.refl _ _⟩
    | true =>
      have hm2 := inB_iff.1 hm
      obtain ⟨k, rfl⟩ : ∃ k : Nat, n = (k : Int) := ⟨n.toNat, by omega⟩
      obtain ⟨M, rfl⟩ : ∃ M : Nat, m = (M : Int) := ⟨m.toNat, by omega⟩
      exact ⟨_, true, fun w B c lo hi hS => countUntold_yes B c lo hi k qs M w hS hs (by omega), fun w B c lo hi hS => countUntold_yesS B c lo hi k qs M w hS hs (by omega)⟩
end Go.Proofs.Ythjkmfjhcohhbaa
