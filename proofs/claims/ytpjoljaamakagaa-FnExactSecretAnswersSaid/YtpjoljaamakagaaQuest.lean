/- Questions: which ones are valid, what is in them. -/
import Derived.Test.YtpjoljaamakagaaState
namespace Go.Proofs.Ytpjoljaamakagaa
open Go.RowKit Go.ChangeShapes Go.WideShapes
set_option linter.unusedVariables false

theorem pow_le (k : Nat) (h : k ≤ 12) : (1 : Int) ≤ 2 ^ k ∧ (2 : Int) ^ k ≤ 4096 := by
  have : ∀ k, k ≤ 12 → ((1 : Int) ≤ 2 ^ k ∧ (2 : Int) ^ k ≤ 4096) := by decide
  exact this k h
theorem wrap_pow (k : Nat) (h : k ≤ 12) : wrap64 ((2 : Int) ^ k) = 2 ^ k := by
  have : ∀ k, k ≤ 12 → wrap64 ((2 : Int) ^ k) = 2 ^ k := by decide +kernel
  exact this k h
/-- Which questions there are of n numbers. -/
def qOK (n q : Int) : Bool := inB n 1 12 && inB q 0 (2 ^ n.toNat - 1)
theorem qOK_n {n q : Int} (h : inB n 1 12 = false) : qOK n q = false := by simp [qOK, h]
theorem qOK_iff {n q : Int} : qOK n q = true ↔ (1 ≤ n ∧ n ≤ 12) ∧ 0 ≤ q ∧ q < 2 ^ n.toNat := by simp [qOK, inB]; omega
/-- Whether k is in a question. -/
def inQ (q : Int) (k : Nat) : Bool := bits .and .i64 (q / 2 ^ k) 1 == 1

theorem isQuestion_any (n q : Int) (w : World) :
    Calls Try.prog 98 #[.int .i64 n, .int .i64 q] w fun e w' => e = .returned (.bool (qOK n q)) ∧ w' = w := by
  have HC := Lib.hid (fun W => isSize_any n W)
  cases hn : inB n 1 12 with
  | false =>
    rw [hn] at HC
    rw [qOK_n hn]
    clear hn
    go_enter Try.func98, Try.ntmps98
    go_wp2_with (go_at_call 65; refine (HC.out _).mono ?_; rintro e w1 ⟨rfl, rfl⟩)
    go_ret
    exact ⟨rfl, rfl⟩
  | true =>
    rw [hn] at HC
    have hb := inB_iff.1 hn
    obtain ⟨k, rfl⟩ : ∃ k : Nat, n = (k : Int) := ⟨n.toNat, by omega⟩
    have HP := Lib.hid (wrap_pow k (by omega))
    by_cases h0 : 0 ≤ q
    · have HR : Hid (qOK (k : Int) q = decide (q < 2 ^ k)) := by
        show _ = _
        rw [Bool.eq_iff_iff, qOK_iff, decide_eq_true_iff, Int.toNat_natCast]
        exact ⟨fun h => h.2.2, fun h => ⟨hb, h0, h⟩⟩
      clear hn
      go_enter Try.func98, Try.ntmps98
      go_wp2_with (go_at_call 65; refine (HC.out _).mono ?_; rintro e w1 ⟨rfl, rfl⟩)
      go_ret
      rw [HR.out, HP.out]
      exact ⟨rfl, rfl⟩
    · have HR : Hid (qOK (k : Int) q = false) := by
        show _ = _
        rw [Bool.eq_false_iff, Ne, qOK_iff]
        exact fun h => h0 h.2.1
      clear hn
      go_enter Try.func98, Try.ntmps98
      go_wp2_with (go_at_call 65; refine (HC.out _).mono ?_; rintro e w1 ⟨rfl, rfl⟩)
      go_ret
      rw [HR.out]
      exact ⟨rfl, rfl⟩
theorem l2Asks_any (n q : Int) (w : World) :
    Calls Try.prog 142 #[.int .i64 n, .int .i64 q] w fun e w' => e = .returned (.bool (qOK n q)) ∧ w' = w := by
  have HC := Lib.hid (fun W => l2Numbers_any n W)
  cases hn : inB n 1 12 with
  | false =>
    rw [hn] at HC
    rw [qOK_n hn]
    clear hn
    go_enter Try.func142, Try.ntmps142
    go_wp2_with (go_at_call 112; refine (HC.out _).mono ?_; rintro e w1 ⟨rfl, rfl⟩)
    go_ret
    exact ⟨rfl, rfl⟩
  | true =>
    rw [hn] at HC
    have HR : Hid (qOK n q = inB q 0 (2 ^ n.toNat - 1)) := by show _ = _; simp [qOK, hn]
    have hb := inB_iff.1 hn
    obtain ⟨k, rfl⟩ : ∃ k : Nat, n = (k : Int) := ⟨n.toNat, by omega⟩
    rw [Int.toNat_natCast] at HR
    have hp := pow_le k (by omega)
    have HD := Lib.hid (fun W => l1In_any q 0 (2 ^ k - 1) W)
    clear hn
    go_enter Try.func142, Try.ntmps142
    go_wp2_with fail
    refine (HC.out _).mono ?_
    rintro e w1 ⟨rfl, rfl⟩
    go_wp2_with fail
    refine (HD.out _).mono ?_
    rintro e w1 ⟨rfl, rfl⟩
    go_wp2
    go_ret
    rw [HR.out]
    exact ⟨rfl, rfl⟩
theorem inQuestion_any (q : Int) (k : Nat) (w : World) (h2 : k ≤ 12) :
    Calls Try.prog 131 #[.int .i64 q, .int .i64 (k : Int)] w fun e w' => e = .returned (.bool (inQ q k)) ∧ w' = w := by
  go_enter Try.func131, Try.ntmps131
  go_wp2
  go_ret
  exact ⟨rfl, rfl⟩
theorem l2False_any (q : Int) (y : Bool) (k : Nat) (w : World) (h2 : k ≤ 12) :
    Calls Try.prog 125 #[.int .i64 q, .bool y, .int .i64 (k : Int)] w fun e w' => e = .returned (.bool (y != inQ q k)) ∧ w' = w := by
  have hx : inQ q k = (bits .and .i64 (q / 2 ^ k) 1 == 1) := rfl
  rw [hx]
  clear hx
  go_enter Try.func125, Try.ntmps125
  go_wp2
  go_ret
  exact ⟨rfl, rfl⟩
theorem isFalse_any (q : Int) (y : Bool) (k : Nat) (w : World) (h2 : k ≤ 12) :
    Calls Try.prog 109 #[.agg #[.int .i64 q, .bool y], .int .i64 (k : Int)] w fun e w' => e = .returned (.bool (y != inQ q k)) ∧ Below w.heap.size w w' := by
  have HC := Lib.hid (fun W => inQuestion_any q k W h2)
  go_enter Try.func109, Try.ntmps109
  go_wp2_with fail
  go_region_with (go_at_call 131; refine (HC.out _).mono ?_; rintro e w1 ⟨rfl, rfl⟩)
  all_goals
    go_wp2
    go_ret
    exact ⟨rfl, ((Below.refl _ _).alloc (Nat.le_refl _) _).drew⟩
theorem l2Question_any (A : Option Addr) (n c : Nat) (m q : Int) (w : World) :
    Calls Try.prog 100 #[.agg #[.slice A n c, .int .i64 m], .int .i64 q] w fun e w' => e = .returned (.bool (qOK n q)) ∧ Below w.heap.size w w' := by
  have HC := Lib.hid (fun W => l2Asks_any n q W)
  go_enter Try.func100, Try.ntmps100
  go_wp2_with (go_at_call 142; refine (HC.out _).mono ?_; rintro e w1 ⟨rfl, rfl⟩)
  go_ret
  exact ⟨rfl, (Below.refl _ _).alloc (Nat.le_refl _) _⟩

end Go.Proofs.Ytpjoljaamakagaa
