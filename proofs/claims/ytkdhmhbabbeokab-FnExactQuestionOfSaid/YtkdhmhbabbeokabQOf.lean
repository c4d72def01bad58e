/- The question of numbers. -/
import Derived.Test.YtkdhmhbabbeokabStates
import Derived.Test.YtkdhmhbabbeokabQuest
namespace Go.Proofs.Ytkdhmhbabbeokab
open Go.RowKit Go.ChangeShapes Go.WideShapes
set_option linter.unusedVariables false

def orTo (zs : List Int) : Nat → Int
  | 0 => 0
  | k + 1 => bits .or .i64 (orTo zs k) (2 ^ (zs.getD k 0).toNat)
theorem isNumber_any (n k : Int) (w : World) (hn : inB n 1 12 = true) :
    Calls Try.prog 29 #[.int .i64 n, .int .i64 k] w fun e w' => e = .returned (.bool (inB k 0 (n - 1))) ∧ w' = w := by
  have HC := Lib.hid (fun W => isSize_any n W)
  rw [hn] at HC
  by_cases h1 : 0 ≤ k
  · by_cases h2 : k < n
    · rw [inB_t h1 (by omega)]
      clear hn
      go_enter Try.func29, Try.ntmps29
      go_wp2_with (go_at_call 28; refine (HC.out _).mono ?_; rintro e w1 ⟨rfl, rfl⟩)
      go_ret
      first | exact ⟨rfl, rfl⟩ | (rw [decide_eq_true (show k < n by omega)]; exact ⟨rfl, rfl⟩)
    · rw [inB_f2 (show ¬ k ≤ n - 1 by omega)]
      clear hn
      go_enter Try.func29, Try.ntmps29
      go_wp2_with (go_at_call 28; refine (HC.out _).mono ?_; rintro e w1 ⟨rfl, rfl⟩)
      go_ret
      first | exact ⟨rfl, rfl⟩ | (rw [decide_eq_false (show ¬ k < n by omega)]; exact ⟨rfl, rfl⟩)
  · rw [inB_f1 h1]
    clear hn
    go_enter Try.func29, Try.ntmps29
    go_wp2_with (go_at_call 28; refine (HC.out _).mono ?_; rintro e w1 ⟨rfl, rfl⟩)
    go_ret
    exact ⟨rfl, rfl⟩

/-- The first k are all in 0..n-1. -/
def NumTo (zs : List Int) (n : Int) (k : Nat) : Prop := ∀ j (h : j < zs.length), j < k → inB zs[j] 0 (n - 1) = true
def numAll (zs : List Int) (n : Int) : Bool := zs.all fun z => inB z 0 (n - 1)
theorem NumTo.step {zs : List Int} {n : Int} {k : Nat} (h : NumTo zs n k) (hk : k < zs.length) (hb : inB zs[k] 0 (n - 1) = true) : NumTo zs n (k + 1) := fun j hj hlt => by
  by_cases e : j = k
  · subst e; exact hb
  · exact h j hj (by omega)
theorem numAll_yes {zs : List Int} {n : Int} (h : NumTo zs n zs.length) : numAll zs n = true := by
  unfold numAll
  rw [List.all_eq_true]
  intro z hz
  obtain ⟨j, hj, rfl⟩ := List.getElem_of_mem hz
  exact h j hj hj
theorem numAll_no {zs : List Int} {n : Int} {k : Nat} (h : k < zs.length) (hb : inB zs[k] 0 (n - 1) = false) : numAll zs n = false := by
  rw [Bool.eq_false_iff]
  intro ha
  have := List.all_eq_true.1 ha _ (List.getElem_mem h)
  rw [hb] at this; cases this
/-- What QuestionOf answers where the sizes fit. -/
def qAns (zs : List Int) (n : Int) : Int := if numAll zs n = true then orTo zs zs.length else 0

set_option maxRecDepth 100000 in
set_option maxHeartbeats 4000000 in
theorem questionOf_impl (n : Int) (A : Option Addr) (c lo hi : Nat) (zs : List Int) (w : World) (hS : Ins w lo hi A zs) (hn : inB n 1 12 = true) (hl : zs.length ≤ 24) :
    Calls Try.prog 10 #[.int .i64 n, .slice A zs.length c] w fun e w' => e = .returned (.tuple #[.int .i64 (qAns zs n), .bool (numAll zs n)]) ∧ w' = w := by
  have HC := Lib.hid (fun W => isSize_any n W)
  rw [hn] at HC
  have HD := Lib.hid (fun k W => isNumber_any n k W hn)
  have hb := inB_iff.1 hn
  have HS := Lib.hid hS
  clear hS hn
  go_enter Try.func10, Try.ntmps10
  go_wp2_with fail
  refine (HC.out w).mono ?_
  rintro e w' ⟨rfl, hw⟩
  subst hw
  go_wp2_with fail
  go_loopw [6, 19] (fun o i wr => ∃ (k : Nat), k ≤ zs.length ∧ i = .int .i64 k ∧ o = .int .i64 (orTo zs k) ∧ Hid (NumTo zs n k) ∧ wr = w') (fun _ i _ => zs.length - (intOf i).toNat)
  case atStart => exact ⟨0, Nat.zero_le _, rfl, rfl, fun j _ h => absurd h (by omega), rfl⟩
  case round =>
    obtain ⟨k, hk, rfl, rfl, HN, rfl⟩ := hrel
    by_cases hlt : k < zs.length
    · obtain ⟨b, o, rfl, _, _, hc⟩ := HS.out.ints.at_ hlt
      have HDk := Lib.hid (fun W => HD.out zs[k] W)
      cases hin : inB zs[k] 0 (n - 1) with
      | true =>
        have hz := inB_iff.1 hin
        have HN2 := Lib.hid (HN.out.step hlt hin)
        rw [hin] at HDk
        obtain ⟨i, hi⟩ : ∃ i : Nat, zs[k] = (i : Int) := ⟨zs[k].toNat, by omega⟩
        have HF : Hid (orTo zs (k + 1) = bits .or .i64 (orTo zs k) (2 ^ i)) := by
          show bits .or .i64 (orTo zs k) (2 ^ (zs.getD k 0).toNat) = _
          rw [show zs.getD k 0 = zs[k] by simp [List.getD, hlt], hi, Int.toNat_natCast]
        rw [hi] at hc HDk hz
        clear hin hi
        have hp := pow_le i (by omega)
        generalize orTo zs k = acc at HF ⊢
        go_wp2_with fail
        refine (HDk.out _).mono ?_
        rintro e w5 ⟨rfl, hw⟩
        subst hw
        go_wp2
        go_roundw
        case rel => exact ⟨k + 1, by omega, by go_num, by rw [HF.out], HN2, by first | rfl | trivial⟩
        case measure => simp [intOf]; omega
      | false =>
        have HR := Lib.hid (numAll_no hlt hin)
        rw [hin] at HDk
        clear hin
        go_wp2_with fail
        refine (HDk.out _).mono ?_
        rintro e w5 ⟨rfl, hw⟩
        subst hw
        go_wp2
        go_ret2
        unfold qAns
        rw [HR.out]
        exact ⟨rfl, rfl⟩
    · obtain rfl : k = zs.length := by omega
      have HR := Lib.hid (numAll_yes HN.out)
      go_wp2
      go_ret2
      unfold qAns
      rw [HR.out]
      exact ⟨rfl, rfl⟩

set_option maxRecDepth 100000 in
set_option maxHeartbeats 4000000 in
theorem questionOf_spec (n : Int) (A : Option Addr) (c lo hi : Nat) (zs : List Int) (w : World) (hS : Ins w lo hi A zs) (hn : inB n 1 12 = true) (hl : zs.length ≤ 24) :
    Calls Try.prog 8 #[.int .i64 n, .slice A zs.length c] w fun e w' => e = .returned (.tuple #[.int .i64 (qAns zs n), .bool (numAll zs n)]) ∧ w' = w := by
  have HC := Lib.hid (fun W => l2Numbers_any n W)
  rw [hn] at HC
  have HD := Lib.hid (fun k W => l1In_any k 0 (n - 1) W)
  have hb := inB_iff.1 hn
  have HS := Lib.hid hS
  obtain ⟨hb1, hb2⟩ := hb
  clear hS hn
  go_enter Try.func8, Try.ntmps8
  go_wp2_with fail
  refine (HC.out w).mono ?_
  rintro e w' ⟨rfl, hw⟩
  subst hw
  go_wp2_with fail
  go_loopw [6, 7] (fun o i wr => ∃ (k : Nat), k ≤ zs.length ∧ i = .int .i64 k ∧ o = .int .i64 (orTo zs k) ∧ Hid (NumTo zs n k) ∧ wr = w') (fun _ i _ => zs.length - (intOf i).toNat)
  case atStart => exact ⟨0, Nat.zero_le _, rfl, rfl, fun j _ h => absurd h (by omega), rfl⟩
  case round =>
    obtain ⟨k, hk, rfl, rfl, HN, rfl⟩ := hrel
    by_cases hlt : k < zs.length
    · obtain ⟨b, o, rfl, _, _, hc⟩ := HS.out.ints.at_ hlt
      have HDk := Lib.hid (fun W => HD.out zs[k] W)
      cases hin : inB zs[k] 0 (n - 1) with
      | true =>
        have hz := inB_iff.1 hin
        have HN2 := Lib.hid (HN.out.step hlt hin)
        rw [hin] at HDk
        obtain ⟨i, hi⟩ : ∃ i : Nat, zs[k] = (i : Int) := ⟨zs[k].toNat, by omega⟩
        have HF : Hid (orTo zs (k + 1) = bits .or .i64 (orTo zs k) (2 ^ i)) := by
          show bits .or .i64 (orTo zs k) (2 ^ (zs.getD k 0).toNat) = _
          rw [show zs.getD k 0 = zs[k] by simp [List.getD, hlt], hi, Int.toNat_natCast]
        rw [hi] at hc HDk hz
        clear hin hi
        have hp := pow_le i (by omega)
        generalize orTo zs k = acc at HF ⊢
        go_wp2_with fail
        refine (HDk.out _).mono ?_
        rintro e w5 ⟨rfl, hw⟩
        subst hw
        go_wp2
        go_roundw
        case rel => exact ⟨k + 1, by omega, by go_num, by rw [HF.out], HN2, by first | rfl | trivial⟩
        case measure => simp [intOf]; omega
      | false =>
        have HR := Lib.hid (numAll_no hlt hin)
        rw [hin] at HDk
        clear hin
        go_wp2_with fail
        refine (HDk.out _).mono ?_
        rintro e w5 ⟨rfl, hw⟩
        subst hw
        go_wp2
        go_ret2
        unfold qAns
        rw [HR.out]
        exact ⟨rfl, rfl⟩
    · obtain rfl : k = zs.length := by omega
      have HR := Lib.hid (numAll_yes HN.out)
      go_wp2
      go_ret2
      unfold qAns
      rw [HR.out]
      exact ⟨rfl, rfl⟩
set_option maxHeartbeats 1000000 in
theorem questionOf_no (n : Int) (A : Option Addr) (c lo hi : Nat) (zs : List Int) (w : World) (hl : zs.length ≤ 1048576) (h : inB n 1 12 = false ∨ 24 < zs.length) :
    Calls Try.prog 10 #[.int .i64 n, .slice A zs.length c] w fun e w' => e = .returned (.tuple #[.int .i64 0, .bool false]) ∧ w' = w := by
  have HC := Lib.hid (fun W => isSize_any n W)
  cases hn : inB n 1 12 with
  | true =>
    rw [hn] at HC h
    have h24 : 24 < zs.length := by simpa using h
    clear h hn
    go_enter Try.func10, Try.ntmps10
    go_wp2_with fail
    refine (HC.out w).mono ?_
    rintro e w' ⟨rfl, hw⟩
    subst hw
    go_wp2
    go_ret2
    exact ⟨rfl, rfl⟩
  | false =>
    rw [hn] at HC
    clear h hn
    go_enter Try.func10, Try.ntmps10
    go_wp2_with fail
    refine (HC.out w).mono ?_
    rintro e w' ⟨rfl, hw⟩
    subst hw
    go_wp2
    go_ret2
    exact ⟨rfl, rfl⟩
set_option maxHeartbeats 1000000 in
theorem questionOfSpec_no (n : Int) (A : Option Addr) (c lo hi : Nat) (zs : List Int) (w : World) (hl : zs.length ≤ 1048576) (h : inB n 1 12 = false ∨ 24 < zs.length) :
    Calls Try.prog 8 #[.int .i64 n, .slice A zs.length c] w fun e w' => e = .returned (.tuple #[.int .i64 0, .bool false]) ∧ w' = w := by
  have HC := Lib.hid (fun W => l2Numbers_any n W)
  cases hn : inB n 1 12 with
  | true =>
    rw [hn] at HC h
    have h24 : 24 < zs.length := by simpa using h
    clear h hn
    go_enter Try.func8, Try.ntmps8
    go_wp2_with fail
    refine (HC.out w).mono ?_
    rintro e w' ⟨rfl, hw⟩
    subst hw
    go_wp2
    go_ret2
    exact ⟨rfl, rfl⟩
  | false =>
    rw [hn] at HC
    clear h hn
    go_enter Try.func8, Try.ntmps8
    go_wp2_with fail
    refine (HC.out w).mono ?_
    rintro e w' ⟨rfl, hw⟩
    subst hw
    go_wp2
    go_ret2
    exact ⟨rfl, rfl⟩
theorem same_below {w w' : World} (h : w' = w) : Below w.heap.size w w' := by subst h; exact Below.refl _ _
theorem questionOf_both (n : Int) (zs : List Int) (h : zs.length ≤ 1048576) : ∃ (r0 : Int) (r1 : Bool),
    (∀ (w : World) (B : Option Addr) (c lo hi : Nat), Ins w lo hi B zs → Calls Try.prog 10 #[.int .i64 n, .slice B zs.length c] w fun e w' => e = .returned (.tuple #[.int .i64 r0, .bool r1]) ∧ Below w.heap.size w w') ∧
    (∀ (w : World) (B : Option Addr) (c lo hi : Nat), Ins w lo hi B zs → Calls Try.prog 8 #[.int .i64 n, .slice B zs.length c] w fun e w' => e = .returned (.tuple #[.int .i64 r0, .bool r1]) ∧ Below w.heap.size w w') := by
  by_cases hg : inB n 1 12 = true ∧ zs.length ≤ 24
  · exact ⟨_, _, fun w B c lo hi hS => (questionOf_impl n B c lo hi zs w hS hg.1 hg.2).mono fun e w' ⟨a, b⟩ => ⟨a, same_below b⟩, fun w B c lo hi hS => (questionOf_spec n B c lo hi zs w hS hg.1 hg.2).mono fun e w' ⟨a, b⟩ => ⟨a, same_below b⟩⟩
  · have hno : inB n 1 12 = false ∨ 24 < zs.length := by
      cases h1 : inB n 1 12 with
      | false => exact .inl rfl
      | true => exact .inr (by have : ¬ zs.length ≤ 24 := fun h2 => hg ⟨h1, h2⟩; omega)
    exact ⟨_, _, fun w B c lo hi hS => (questionOf_no n B c lo hi zs w h hno).mono fun e w' ⟨a, b⟩ => ⟨a, same_below b⟩, fun w B c lo hi hS => (questionOfSpec_no n B c lo hi zs w h hno).mono fun e w' ⟨a, b⟩ => ⟨a, same_below b⟩⟩
end Go.Proofs.Ytkdhmhbabbeokab
