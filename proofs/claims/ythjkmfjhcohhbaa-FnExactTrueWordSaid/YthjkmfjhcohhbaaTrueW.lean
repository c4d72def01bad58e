/- TrueWord: both. -/
import Derived.Test.YthjkmfjhcohhbaaTrue
import Derived.Test.YthjkmfjhcohhbaaQOf
namespace Go.Proofs.Ythjkmfjhcohhbaa
open Go.RowKit Go.ChangeShapes Go.WideShapes
set_option linter.unusedVariables false

set_option maxRecDepth 100000 in
set_option maxHeartbeats 2000000 in
theorem trueWord_yes (A : Option Addr) (c lo hi : Nat) (n : Int) (qs : List Int) (k : Nat) (w : World) (hS : Ins w lo hi A qs) (hs : isSch n qs = true) (hk : (k : Int) < n) :
    Calls Try.prog 20 #[.int .i64 n, .slice A qs.length c, .int .i64 (k : Int)] w fun e w' => e = .returned (.tuple #[.int .i64 (twN qs k : Int), .bool true]) ∧ Below w.heap.size w w' := by
  obtain ⟨hn, hl, hq⟩ := isSch_iff.1 hs
  have HI := Lib.hid hS
  have HC := Lib.hid (fun W h => isScheme_impl A c lo hi n qs W h (by omega))
  have HD := Lib.hid (fun W => isNumber_any n (k : Int) W (inB_t hn.1 hn.2))
  rw [inB_t (x := (k : Int)) (a := 0) (b := n - 1) (by omega) (by omega)] at HD
  rw [hs] at HC
  have HT := Lib.hid (fun W h => trueAnswers_any A c lo hi qs k W h hl (by omega))
  have HN := Lib.hid (fun W => number_any (twN qs k).testBit W)
  rw [ofB_self (twN_14 hl k)] at HN
  clear hS hs hq
  go_enter Try.func20, Try.ntmps20
  go_wp2_with fail
  refine (HC.out w HI.out).mono ?_
  rintro e w1 ⟨rfl, rfl⟩
  go_wp2_with fail
  refine (HD.out _).mono ?_
  rintro e w2 ⟨rfl, rfl⟩
  go_wp2_with fail
  refine (HT.out _ HI.out).mono ?_
  rintro e w3 ⟨rfl, hb⟩
  have HB := Lib.hid hb
  clear hb
  go_wp2_with fail
  refine (HN.out _).mono ?_
  rintro e w4 ⟨rfl, hb⟩
  have HB2 := Lib.hid (below_trans HB.out hb)
  clear hb HB
  go_wp2
  go_ret2
  exact ⟨rfl, HB2.out⟩
set_option maxHeartbeats 2000000 in
theorem trueWord_no (A : Option Addr) (c lo hi : Nat) (n : Int) (qs : List Int) (k : Int) (w : World) (hS : Ins w lo hi A qs) (hl : qs.length ≤ 1048576) (hs : isSch n qs = false ∨ (isSch n qs = true ∧ inB k 0 (n - 1) = false)) :
    Calls Try.prog 20 #[.int .i64 n, .slice A qs.length c, .int .i64 k] w fun e w' => e = .returned (.tuple #[.int .i64 0, .bool false]) ∧ Below w.heap.size w w' := by
  have HI := Lib.hid hS
  have HC := Lib.hid (fun W h => isScheme_impl A c lo hi n qs W h hl)
  clear hS
  rcases hs with hs | ⟨hs, hk⟩
  · rw [hs] at HC
    clear hs
    go_enter Try.func20, Try.ntmps20
    go_wp2_with fail
    refine (HC.out w HI.out).mono ?_
    rintro e w1 ⟨rfl, rfl⟩
    go_wp2
    go_ret2
    exact ⟨rfl, Below.refl _ _⟩
  · obtain ⟨hn, _, _⟩ := isSch_iff.1 hs
    have HD := Lib.hid (fun W => isNumber_any n k W (inB_t hn.1 hn.2))
    rw [hs] at HC
    rw [hk] at HD
    clear hs hk
    go_enter Try.func20, Try.ntmps20
    go_wp2_with fail
    refine (HC.out w HI.out).mono ?_
    rintro e w1 ⟨rfl, rfl⟩
    go_wp2_with fail
    refine (HD.out _).mono ?_
    rintro e w2 ⟨rfl, rfl⟩
    go_wp2
    go_ret2
    exact ⟨rfl, Below.refl _ _⟩
set_option maxHeartbeats 2000000 in
theorem trueWord_spec (A : Option Addr) (c lo hi : Nat) (n : Int) (qs : List Int) (k : Int) (w : World) (hS : Ins w lo hi A qs) (hl : qs.length ≤ 1048576) :
    Calls Try.prog 19 #[.int .i64 n, .slice A qs.length c, .int .i64 k] w fun e w' => e = .returned (.tuple #[.int .i64 (if isSch n qs && inB k 0 (n - 1) then (twN qs k.toNat : Int) else 0), .bool (isSch n qs && inB k 0 (n - 1))]) ∧ Below w.heap.size w w' := by
  have HI := Lib.hid hS
  have HC := Lib.hid (fun W h => l5Scheme_any A c lo hi n qs W h hl)
  clear hS
  cases hs : isSch n qs with
  | false =>
    rw [hs] at HC
    clear hs
    go_enter Try.func19, Try.ntmps19
    go_wp2_with fail
    refine (HC.out w HI.out).mono ?_
    rintro e w1 ⟨rfl, rfl⟩
    go_wp2
    go_ret2
    exact ⟨rfl, Below.refl _ _⟩
  | true =>
    obtain ⟨hn, hl14, _⟩ := isSch_iff.1 hs
    have HD := Lib.hid (fun W => l1In_any k 0 (n - 1) W)
    rw [hs] at HC
    clear hs
    cases hk : inB k 0 (n - 1) with
    | false =>
      rw [hk] at HD
      clear hk
      go_enter Try.func19, Try.ntmps19
      go_wp2_with fail
      refine (HC.out w HI.out).mono ?_
      rintro e w1 ⟨rfl, rfl⟩
      go_wp2_with fail
      refine (HD.out _).mono ?_
      rintro e w2 ⟨rfl, rfl⟩
      go_wp2
      go_ret2
      exact ⟨rfl, Below.refl _ _⟩
    | true =>
      rw [hk] at HD
      have hk2 := inB_iff.1 hk
      obtain ⟨j, rfl⟩ : ∃ j : Nat, k = (j : Int) := ⟨k.toNat, by omega⟩
      have HT := Lib.hid (fun W h => l5True_any A c lo hi qs j W h hl14 (by omega))
      clear hk
      go_enter Try.func19, Try.ntmps19
      go_wp2_with fail
      refine (HC.out w HI.out).mono ?_
      rintro e w1 ⟨rfl, rfl⟩
      go_wp2_with fail
      refine (HD.out _).mono ?_
      rintro e w2 ⟨rfl, rfl⟩
      go_wp2_with fail
      refine (HT.out _ HI.out).mono ?_
      rintro e w3 ⟨rfl, rfl⟩
      go_wp2
      go_ret2
      exact ⟨rfl, Below.refl _ _⟩
theorem trueWord_both (n : Int) (qs : List Int) (h : qs.length ≤ 1048576) (k : Int) : ∃ (r0 : Int) (r1 : Bool),
    (∀ (w : World) (B : Option Addr) (c lo hi : Nat), Ins w lo hi B qs → Calls Try.prog 20 #[.int .i64 n, .slice B qs.length c, .int .i64 k] w fun e w' => e = .returned (.tuple #[.int .i64 r0, .bool r1]) ∧ Below w.heap.size w w') ∧
    (∀ (w : World) (B : Option Addr) (c lo hi : Nat), Ins w lo hi B qs → Calls Try.prog 19 #[.int .i64 n, .slice B qs.length c, .int .i64 k] w fun e w' => e = .returned (.tuple #[.int .i64 r0, .bool r1]) ∧ Below w.heap.size w w') := by
  refine ⟨_, _, fun w B c lo hi hS => ?_, fun w B c lo hi hS => trueWord_spec B c lo hi n qs k w hS h⟩
  cases hs : isSch n qs with
  | false => exact trueWord_no B c lo hi n qs k w hS h (.inl hs)
  | true =>
    cases hk : inB k 0 (n - 1) with
    | false => exact trueWord_no B c lo hi n qs k w hS h (.inr ⟨hs, hk⟩)
    | true =>
      have hk2 := inB_iff.1 hk
      obtain ⟨j, rfl⟩ : ∃ j : Nat, k = (j : Int) := ⟨k.toNat, by omega⟩
      exact trueWord_yes B c lo hi n qs j w hS hs (by omega)
end Go.Proofs.Ythjkmfjhcohhbaa
