/- FalseFor: both functions' contracts. -/
import Derived.Test.YtkdhmhbabbeokaaFalse
namespace Go.Proofs.Ytkdhmhbabbeokaa
open Go.RowKit Go.ChangeShapes Go.WideShapes Go.Maps
set_option linter.unusedVariables false

theorem isNumberF_any (n k : Int) (w : World) :
    Calls Try.prog 72 #[.int .i64 n, .int .i64 k] w fun e w' => e = .returned (.bool (inB n 1 12 && inB k 0 (n - 1))) ∧ w' = w := by
  have HC := Lib.hid (fun W => isSize_any n W)
  cases hn : inB n 1 12 with
  | false =>
    rw [hn] at HC
    clear hn
    rw [Bool.false_and]
    go_enter Try.func72, Try.ntmps72
    go_wp2_with (go_at_call 71; refine (HC.out _).mono ?_; rintro e w1 ⟨rfl, rfl⟩)
    go_ret
    exact ⟨rfl, rfl⟩
  | true =>
    rw [hn] at HC
    clear hn
    rw [Bool.true_and]
    by_cases h1 : 0 ≤ k
    · by_cases h2 : k < n
      · rw [inB_t h1 (show k ≤ n - 1 by omega)]
        go_enter Try.func72, Try.ntmps72
        go_wp2_with (go_at_call 71; refine (HC.out _).mono ?_; rintro e w1 ⟨rfl, rfl⟩)
        go_ret
        first | exact ⟨rfl, rfl⟩ | (rw [decide_eq_true (show k < n by omega)]; exact ⟨rfl, rfl⟩)
      · rw [inB_f2 (show ¬ k ≤ n - 1 by omega)]
        go_enter Try.func72, Try.ntmps72
        go_wp2_with (go_at_call 71; refine (HC.out _).mono ?_; rintro e w1 ⟨rfl, rfl⟩)
        go_ret
        first | exact ⟨rfl, rfl⟩ | (rw [decide_eq_false (show ¬ k < n by omega)]; exact ⟨rfl, rfl⟩)
    · rw [inB_f1 h1]
      go_enter Try.func72, Try.ntmps72
      go_wp2_with (go_at_call 71; refine (HC.out _).mono ?_; rintro e w1 ⟨rfl, rfl⟩)
      go_ret
      exact ⟨rfl, rfl⟩

set_option maxRecDepth 100000 in
set_option maxHeartbeats 2000000 in
theorem falseFor_impl (n s : Nat) (A : Option Addr) (c lo hi : Nat) (l : List (Int × Bool)) (w : World) (hS : AIns w lo hi A l) (hok : okA n l = true) (hs : s < n) (hn : n ≤ 12) (h20 : l.length ≤ 20) :
    Calls Try.prog 58 #[.int .i64 (n : Int), .slice A l.length c, .int .i64 (s : Int)] w fun e w' => e = .returned (.tuple #[.int .i64 (cntF l s l.length : Int), .bool true]) ∧ Below w.heap.size w w' := by
  have HN := Lib.hid (fun W => isNumberF_any (n : Int) (s : Int) W)
  rw [inB_t (x := (n : Int)) (a := 1) (b := 12) (by omega) (by omega), inB_t (x := (s : Int)) (a := 0) (b := (n : Int) - 1) (by omega) (by omega), Bool.and_true] at HN
  have HA := Lib.hid (fun W h => areAnswers_any (n : Int) A c lo hi l W h (by omega))
  rw [hok] at HA
  have HF := Lib.hid (fun W h => falseByNumber_any n A c lo hi l W h hn h20)
  have HS := Lib.hid hS
  have hkey := keyI s (by omega)
  clear hS hok
  go_enter Try.func58, Try.ntmps58
  go_wp2_with fail
  refine (HN.out w).mono ?_
  rintro e w1 ⟨rfl, hw⟩
  subst hw
  go_wp2_with fail
  refine (HA.out w1 HS.out).mono ?_
  rintro e w2 ⟨rfl, hb⟩
  have HS2 := Lib.hid (HS.out.step hb)
  have HB2 := Lib.hid hb
  clear hb
  go_wp2_with fail
  refine (HF.out w2 HS2.out).mono ?_
  rintro e w3 ⟨M, rfl, hm, hb⟩
  have HB3 := Lib.hid (below_trans HB2.out hb)
  obtain ⟨D, N, hown, _, hs'⟩ := hm
  have HSS := Lib.hid hs'
  clear hb hs'
  go_wp2_with (at_lookup; refine wpList_lookup_own_int _ rfl _ _ 100 rfl 3 3 .i64 keyedI Try.underlying100 Try.underlying3 (zeroI _) M N D rfl hown _ _ rfl hkey ?_; intro cc hat hwc; have hcc := MapIs.at_ HSS.out hs hat; rw [cnt2_zero] at hcc; subst hcc; clear hat hwc)
  go_ret2
  exact ⟨rfl, HB3.out⟩

set_option maxRecDepth 100000 in
set_option maxHeartbeats 2000000 in
theorem falseFor_spec (n s : Nat) (A : Option Addr) (c lo hi : Nat) (l : List (Int × Bool)) (w : World) (hS : AIns w lo hi A l) (hok : okA n l = true) (hs : s < n) (hn : n ≤ 12) (h20 : l.length ≤ 20) :
    Calls Try.prog 57 #[.int .i64 (n : Int), .slice A l.length c, .int .i64 (s : Int)] w fun e w' => e = .returned (.tuple #[.int .i64 (cntF l s l.length : Int), .bool true]) ∧ Below w.heap.size w w' := by
  have HN := Lib.hid (fun W => l1In_any (s : Int) 0 ((n : Int) - 1) W)
  rw [inB_t (x := (s : Int)) (a := 0) (b := (n : Int) - 1) (by omega) (by omega)] at HN
  have HA := Lib.hid (fun W h => l2Answers_any (n : Int) A c lo hi l W h (by omega))
  rw [hok] at HA
  have HF := Lib.hid (fun W h => l2Many_any A c lo hi l s W h h20 (by omega))
  have HS := Lib.hid hS
  clear hS hok
  go_enter Try.func57, Try.ntmps57
  go_wp2_with fail
  refine (HA.out w HS.out).mono ?_
  rintro e w2 ⟨rfl, hb⟩
  have HS2 := Lib.hid (HS.out.step hb)
  have HB2 := Lib.hid hb
  clear hb
  go_wp2_with fail
  refine (HN.out w2).mono ?_
  rintro e w1 ⟨rfl, hw⟩
  subst hw
  go_wp2_with fail
  refine (HF.out _ HS2.out).mono ?_
  rintro e w3 ⟨rfl, hb⟩
  have HB3 := Lib.hid (below_trans HB2.out hb)
  clear hb
  go_wp2
  go_ret2
  exact ⟨rfl, HB3.out⟩

set_option maxHeartbeats 2000000 in
theorem falseFor_impl_no (n s : Int) (A : Option Addr) (c lo hi : Nat) (l : List (Int × Bool)) (w : World) (hS : AIns w lo hi A l) (hl : l.length ≤ 1048576) (hno : (inB n 1 12 && inB s 0 (n - 1)) = false ∨ okA n l = false) :
    Calls Try.prog 58 #[.int .i64 n, .slice A l.length c, .int .i64 s] w fun e w' => e = .returned (.tuple #[.int .i64 0, .bool false]) ∧ Below w.heap.size w w' := by
  have HN := Lib.hid (fun W => isNumberF_any n s W)
  have HA := Lib.hid (fun W h => areAnswers_any n A c lo hi l W h hl)
  have HS := Lib.hid hS
  clear hS
  generalize (inB n 1 12 && inB s 0 (n - 1)) = p at HN hno
  generalize okA n l = q at HA hno
  cases p with
  | false =>
    clear hno
    go_enter Try.func58, Try.ntmps58
    go_wp2_with fail
    refine (HN.out w).mono ?_
    rintro e w1 ⟨rfl, hw⟩
    subst hw
    go_wp2
    go_ret2
    exact ⟨rfl, Below.refl _ _⟩
  | true =>
    obtain rfl : q = false := by simpa using hno
    clear hno
    go_enter Try.func58, Try.ntmps58
    go_wp2_with fail
    refine (HN.out w).mono ?_
    rintro e w1 ⟨rfl, hw⟩
    subst hw
    go_wp2_with fail
    refine (HA.out _ HS.out).mono ?_
    rintro e w2 ⟨rfl, hb⟩
    have HB := Lib.hid hb
    clear hb
    go_wp2
    go_ret2
    exact ⟨rfl, HB.out⟩
set_option maxHeartbeats 2000000 in
theorem falseFor_spec_no (n s : Int) (A : Option Addr) (c lo hi : Nat) (l : List (Int × Bool)) (w : World) (hS : AIns w lo hi A l) (hl : l.length ≤ 1048576) (hno : (inB n 1 12 && inB s 0 (n - 1)) = false ∨ okA n l = false) :
    Calls Try.prog 57 #[.int .i64 n, .slice A l.length c, .int .i64 s] w fun e w' => e = .returned (.tuple #[.int .i64 0, .bool false]) ∧ Below w.heap.size w w' := by
  have HA := Lib.hid (fun W h => l2Answers_any n A c lo hi l W h hl)
  have HS := Lib.hid hS
  clear hS
  cases hq : okA n l with
  | false =>
    rw [hq] at HA
    clear hno hq
    go_enter Try.func57, Try.ntmps57
    go_wp2_with fail
    refine (HA.out w HS.out).mono ?_
    rintro e w1 ⟨rfl, hb⟩
    have HB := Lib.hid hb
    clear hb
    go_wp2
    go_ret2
    exact ⟨rfl, HB.out⟩
  | true =>
    rw [hq] at HA hno
    have h1 := (okA_iff hq).1
    have hb12 := inB_iff.1 h1
    rw [h1, Bool.true_and] at hno
    have hp : inB s 0 (n - 1) = false := by simpa using hno
    have HN := Lib.hid (fun W => l1In_any s 0 (n - 1) W)
    rw [hp] at HN
    obtain ⟨hb1, hb2⟩ := hb12
    clear hno hq h1 hp
    go_enter Try.func57, Try.ntmps57
    go_wp2_with fail
    refine (HA.out w HS.out).mono ?_
    rintro e w1 ⟨rfl, hb⟩
    have HB := Lib.hid hb
    clear hb
    go_wp2_with fail
    refine (HN.out w1).mono ?_
    rintro e w2 ⟨rfl, hw⟩
    subst hw
    go_wp2
    go_ret2
    exact ⟨rfl, HB.out⟩
theorem falseFor_both (n : Int) (l : List (Int × Bool)) (h : l.length ≤ 1048576) (s : Int) : ∃ (r0 : Int) (r1 : Bool),
    (∀ (w : World) (B : Option Addr) (c lo hi : Nat), AIns w lo hi B l → Calls Try.prog 58 #[.int .i64 n, .slice B l.length c, .int .i64 s] w fun e w' => e = .returned (.tuple #[.int .i64 r0, .bool r1]) ∧ Below w.heap.size w w') ∧
    (∀ (w : World) (B : Option Addr) (c lo hi : Nat), AIns w lo hi B l → Calls Try.prog 57 #[.int .i64 n, .slice B l.length c, .int .i64 s] w fun e w' => e = .returned (.tuple #[.int .i64 r0, .bool r1]) ∧ Below w.heap.size w w') := by
  by_cases hg : (inB n 1 12 && inB s 0 (n - 1)) = true ∧ okA n l = true
  · have h1 := hg.1
    rw [Bool.and_eq_true] at h1
    have ha := inB_iff.1 h1.1
    have hb := inB_iff.1 h1.2
    have h20 := (okA_iff hg.2).2
    obtain ⟨k, rfl⟩ : ∃ k : Nat, n = (k : Int) := ⟨n.toNat, by omega⟩
    obtain ⟨j, rfl⟩ : ∃ j : Nat, s = (j : Int) := ⟨s.toNat, by omega⟩
    exact ⟨_, _, fun w B c lo hi hS => falseFor_impl k j B c lo hi l w hS hg.2 (by omega) (by omega) h20, fun w B c lo hi hS => falseFor_spec k j B c lo hi l w hS hg.2 (by omega) (by omega) h20⟩
  · have hno : (inB n 1 12 && inB s 0 (n - 1)) = false ∨ okA n l = false := by
      cases h1 : (inB n 1 12 && inB s 0 (n - 1)) with
      | false => exact .inl rfl
      | true =>
        cases h2 : okA n l with
        | false => exact .inr rfl
        | true => exact absurd ⟨h1, h2⟩ hg
    exact ⟨_, _, fun w B c lo hi hS => falseFor_impl_no n s B c lo hi l w hS h hno, fun w B c lo hi hS => falseFor_spec_no n s B c lo hi l w hS h hno⟩
end Go.Proofs.Ytkdhmhbabbeokaa
