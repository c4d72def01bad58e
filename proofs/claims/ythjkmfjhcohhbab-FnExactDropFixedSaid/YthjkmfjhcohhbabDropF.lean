/- DropFixed: both. -/
import Derived.Test.YthjkmfjhcohhbabCat
namespace Go.Proofs.Ythjkmfjhcohhbab
open Go.RowKit Go.ChangeShapes Go.WideShapes
set_option linter.unusedVariables false

set_option maxRecDepth 100000 in
set_option maxHeartbeats 2000000 in
theorem dropFixed_yes (A : Option Addr) (lo hi : Nat) (n : Int) (qs : List Int) (i : Nat) (w : World) (hS : Ins w lo hi A qs) (hs : isSch n qs = true) (hi_ : i < qs.length) :
    Calls Try.prog 19 #[.int .i64 n, .slice A qs.length qs.length, .int .i64 (i : Int)] w (LAns w (outL qs i) true) := by
  obtain ⟨hn, hl, _⟩ := isSch_iff.1 hs
  have HI := Lib.hid hS
  have HC := Lib.hid (fun W h => isScheme_impl A qs.length lo hi n qs W h (by omega))
  rw [hs] at HC
  have HW := Lib.hid (fun W h => without_any A qs.length lo hi qs i W h (by omega) hi_ (Nat.le_refl _) (by omega))
  clear hS hs
  unfold LAns
  go_enter Try.func19, Try.ntmps19
  go_wp2_with fail
  refine (HC.out w HI.out).mono ?_
  rintro e w1 ⟨rfl, rfl⟩
  go_wp2_with fail
  refine (HW.out _ HI.out).mono ?_
  rintro e w2 ⟨v, rfl, ho, hb⟩
  have HO := Lib.hid ho
  have HB := Lib.hid hb
  clear ho hb
  go_wp2
  go_ret2
  exact lans_own rfl HO.out HB.out
set_option maxRecDepth 100000 in
set_option maxHeartbeats 2000000 in
theorem dropFixed_yesS (A : Option Addr) (lo hi : Nat) (n : Int) (qs : List Int) (i : Nat) (w : World) (hS : Ins w lo hi A qs) (hs : isSch n qs = true) (hi_ : i < qs.length) :
    Calls Try.prog 18 #[.int .i64 n, .slice A qs.length qs.length, .int .i64 (i : Int)] w (LAns w (outL qs i) true) := by
  obtain ⟨hn, hl, _⟩ := isSch_iff.1 hs
  have HI := Lib.hid hS
  have HC := Lib.hid (fun W h => l5Scheme_any A qs.length lo hi n qs W h (by omega))
  have HD := Lib.hid (fun W => l1In_any (i : Int) 0 ((qs.length : Int) - 1) W)
  rw [hs] at HC
  rw [inB_t (x := (i : Int)) (a := 0) (b := (qs.length : Int) - 1) (by omega) (by omega)] at HD
  have HW := Lib.hid (fun W h => l5Drop_any A qs.length lo hi qs i W h (by omega) hi_ (Nat.le_refl _) (by omega))
  clear hS hs
  unfold LAns
  go_enter Try.func18, Try.ntmps18
  go_wp2_with fail
  refine (HC.out w HI.out).mono ?_
  rintro e w1 ⟨rfl, rfl⟩
  go_wp2_with fail
  refine (HD.out _).mono ?_
  rintro e w3 ⟨rfl, rfl⟩
  go_wp2_with fail
  refine (HW.out _ HI.out).mono ?_
  rintro e w2 ⟨v, rfl, ho, hb⟩
  have HO := Lib.hid ho
  have HB := Lib.hid hb
  clear ho hb
  go_wp2
  go_ret2
  exact lans_own rfl HO.out HB.out
set_option maxHeartbeats 2000000 in
theorem dropFixed_no (A : Option Addr) (c lo hi : Nat) (n : Int) (qs : List Int) (i : Int) (w : World) (hS : Ins w lo hi A qs) (hl : qs.length ≤ 1048576) (h : isSch n qs = false ∨ (isSch n qs = true ∧ (i < 0 ∨ (qs.length : Int) ≤ i))) :
    Calls Try.prog 19 #[.int .i64 n, .slice A qs.length c, .int .i64 i] w (LAns w [] false) := by
  have HI := Lib.hid hS
  have HC := Lib.hid (fun W h => isScheme_impl A c lo hi n qs W h hl)
  clear hS
  rcases h with h | ⟨h, h2⟩
  · rw [h] at HC
    clear h
    go_enter Try.func19, Try.ntmps19
    go_wp2_with fail
    refine (HC.out w HI.out).mono ?_
    rintro e w1 ⟨rfl, rfl⟩
    go_wp2
    go_ret2
    exact lans_nil (Below.refl _ _)
  · rw [h] at HC
    clear h
    by_cases h0 : i < 0
    · clear h2
      go_enter Try.func19, Try.ntmps19
      go_wp2_with fail
      refine (HC.out w HI.out).mono ?_
      rintro e w1 ⟨rfl, rfl⟩
      go_wp2
      go_ret2
      exact lans_nil (Below.refl _ _)
    · have h3 : (qs.length : Int) ≤ i := by omega
      clear h2
      go_enter Try.func19, Try.ntmps19
      go_wp2_with fail
      refine (HC.out w HI.out).mono ?_
      rintro e w1 ⟨rfl, rfl⟩
      go_wp2
      go_ret2
      exact lans_nil (Below.refl _ _)
set_option maxHeartbeats 2000000 in
theorem dropFixed_noS (A : Option Addr) (c lo hi : Nat) (n : Int) (qs : List Int) (i : Int) (w : World) (hS : Ins w lo hi A qs) (hl : qs.length ≤ 1048576) (h : isSch n qs = false ∨ (isSch n qs = true ∧ (i < 0 ∨ (qs.length : Int) ≤ i))) :
    Calls Try.prog 18 #[.int .i64 n, .slice A qs.length c, .int .i64 i] w (LAns w [] false) := by
  have HI := Lib.hid hS
  have HC := Lib.hid (fun W h => l5Scheme_any A c lo hi n qs W h hl)
  have HD := Lib.hid (fun W => l1In_any i 0 ((qs.length : Int) - 1) W)
  clear hS
  rcases h with h | ⟨h, h2⟩
  · rw [h] at HC
    clear h
    go_enter Try.func18, Try.ntmps18
    go_wp2_with fail
    refine (HC.out w HI.out).mono ?_
    rintro e w1 ⟨rfl, rfl⟩
    go_wp2
    go_ret2
    exact lans_nil (Below.refl _ _)
  · rw [h] at HC
    have hb : inB i 0 ((qs.length : Int) - 1) = false := by
      rw [Bool.eq_false_iff, Ne, inB_iff]
      omega
    rw [hb] at HD
    clear h h2 hb
    go_enter Try.func18, Try.ntmps18
    go_wp2_with fail
    refine (HC.out w HI.out).mono ?_
    rintro e w1 ⟨rfl, rfl⟩
    go_wp2_with fail
    refine (HD.out _).mono ?_
    rintro e w2 ⟨rfl, rfl⟩
    go_wp2
    go_ret2
    exact lans_nil (Below.refl _ _)
theorem dropFixed_both (n : Int) (qs : List Int) (h : qs.length ≤ 1048576) (i : Int) : ∃ (r0 : List Int) (r1 : Bool), r0.length ≤ 1048576 ∧
    (∀ (w : World) (B : Option Addr) (c lo hi : Nat), Ins w lo hi B qs → c = qs.length → Calls Try.prog 19 #[.int .i64 n, .slice B qs.length c, .int .i64 i] w fun e w' => ∃ B c', e = .returned (.tuple #[.slice B r0.length c', .bool r1]) ∧ Res w' w.heap.size w'.heap.size B r0 ∧ Below w.heap.size w w') ∧
    (∀ (w : World) (B : Option Addr) (c lo hi : Nat), Ins w lo hi B qs → c = qs.length → Calls Try.prog 18 #[.int .i64 n, .slice B qs.length c, .int .i64 i] w fun e w' => ∃ B c', e = .returned (.tuple #[.slice B r0.length c', .bool r1]) ∧ Res w' w.heap.size w'.heap.size B r0 ∧ Below w.heap.size w w') := by
  by_cases hok : isSch n qs = true ∧ 0 ≤ i ∧ i < (qs.length : Int)
  · obtain ⟨h1, h2, h3⟩ := hok
    obtain ⟨k, rfl⟩ : ∃ k : Nat, i = (k : Int) := ⟨i.toNat, by omega⟩
    exact ⟨outL qs k, true, by rw [outL_len (by omega)]; omega, fun w B c lo hi hS hc => by subst hc; exact dropFixed_yes B lo hi n qs k w hS h1 (by omega), fun w B c lo hi hS hc => by subst hc; exact dropFixed_yesS B lo hi n qs k w hS h1 (by omega)⟩
  · have h2 : isSch n qs = false ∨ (isSch n qs = true ∧ (i < 0 ∨ (qs.length : Int) ≤ i)) := by
      cases ha : isSch n qs with
      | false => exact .inl rfl
      | true => exact .inr ⟨rfl, by rw [ha] at hok; simp at hok; omega⟩
    exact ⟨[], false, by simp, fun w B c lo hi hS _ => dropFixed_no B c lo hi n qs i w hS h h2, fun w B c lo hi hS _ => dropFixed_noS B c lo hi n qs i w hS h h2⟩
end Go.Proofs.Ythjkmfjhcohhbab
