/- Chances compared; how often to repeat. -/
import Derived.Test.YtbgdnidbdfhgjabL7g
import Derived.Test.YtbgdnidbdfhgjabShelf
namespace Go.Proofs.Ytbgdnidbdfhgjab
open Go.RowKit Go.ChangeShapes Go.WideShapes
set_option linter.unusedVariables false

theorem split64 (p q : Nat) : p < q ↔ p / 18446744073709551616 < q / 18446744073709551616 ∨ (p / 18446744073709551616 = q / 18446744073709551616 ∧ p % 18446744073709551616 < q % 18446744073709551616) := by omega
set_option maxRecDepth 100000 in
set_option maxHeartbeats 8000000 in
theorem isLessChance_any (a0 a1 b0 b1 : Nat) (h1 : a0 ≤ 1000000000000000000) (h2 : a1 ≤ 1000000000000000000) (h3 : b0 ≤ 1000000000000000000) (h4 : b1 ≤ 1000000000000000000) (w : World) :
    Calls Try.prog 136 #[.agg #[.int .i64 (a0 : Int), .int .i64 (a1 : Int)], .agg #[.int .i64 (b0 : Int), .int .i64 (b1 : Int)]] w fun e w' => e = .returned (.bool (decide (a0 * b1 < b0 * a1))) ∧ Below w.heap.size w w' := by
  have HT := Lib.hid (Two.new w (.int .i64 (a0 : Int)) (.int .i64 (a1 : Int)) 85 (w.heap.size) rfl)
  have HB := Lib.hid ((Below.refl w.heap.size w).alloc (Nat.le_refl _) (.cells #[.int .i64 (a0 : Int), .int .i64 (a1 : Int)] 85))
  have HU := Lib.hid (Two.new (w.alloc (.cells #[.int .i64 (a0 : Int), .int .i64 (a1 : Int)] 85)) (.int .i64 (b0 : Int)) (.int .i64 (b1 : Int)) 85 (w.heap.size + 1) (by simp))
  replace HT := Lib.hid (HT.out.step ((Below.refl _ _).alloc (Nat.le_refl _) (.cells #[.int .i64 (b0 : Int), .int .i64 (b1 : Int)] 85)))
  replace HB := Lib.hid (HB.out.alloc HB.out.size (.cells #[.int .i64 (b0 : Int), .int .i64 (b1 : Int)] 85))
  have H1 := Lib.hid (fun W => Try.bits_Mul64 a0 b1 (by omega) (by omega) W)
  have H2 := Lib.hid (fun W => Try.bits_Mul64 b0 a1 (by omega) (by omega) W)
  have hs := split64 (a0 * b1) (b0 * a1)
  have hm1 := Nat.mod_lt (a0 * b1) (show 0 < 18446744073709551616 by omega)
  have hm2 := Nat.mod_lt (b0 * a1) (show 0 < 18446744073709551616 by omega)
  generalize a0 * b1 / 18446744073709551616 = p1 at H1 hs
  generalize a0 * b1 % 18446744073709551616 = p0 at H1 hs hm1
  generalize b0 * a1 / 18446744073709551616 = q1 at H2 hs
  generalize b0 * a1 % 18446744073709551616 = q0 at H2 hs hm2
  have hans : ∀ c : Bool, (c = true ↔ (p1 < q1 ∨ (p1 = q1 ∧ p0 < q0))) → decide (a0 * b1 < b0 * a1) = c := fun c h => by rw [Bool.eq_iff_iff, decide_eq_true_iff, hs, h]
  clear hs
  obtain ⟨c, hc⟩ : ∃ c : Bool, (c = true ↔ (p1 < q1 ∨ (p1 = q1 ∧ p0 < q0))) := ⟨decide (p1 < q1 ∨ (p1 = q1 ∧ p0 < q0)), by simp⟩
  rw [hans c hc]
  clear hans
  by_cases c1 : p1 < q1
  · obtain rfl : c = true := hc.2 (.inl c1)
    clear hc
    go_enter Try.func136, Try.ntmps136
    go_wp2_with fail
    generalize (w.alloc (.cells #[.int .i64 (a0 : Int), .int .i64 (a1 : Int)] 85)).alloc (.cells #[.int .i64 (b0 : Int), .int .i64 (b1 : Int)] 85) = w0 at HT HU HB ⊢
    have h0 := HT.out.c0
    have h1 := HT.out.c1
    have g0 := HU.out.c0
    have g1 := HU.out.c1
    go_wp2_with (first | (go_at_call 181; with_reducible refine (H1.out _).mono ?_; rintro e wX ⟨rfl, hw⟩; have hw := hw.symm; subst hw) | (go_at_call 181; with_reducible refine (H2.out _).mono ?_; rintro e wX ⟨rfl, hw⟩; have hw := hw.symm; subst hw))
    go_ret
    exact ⟨rfl, HB.out⟩
  · by_cases c2 : p1 = q1
    · subst c2
      by_cases c3 : p0 < q0
      · obtain rfl : c = true := hc.2 (.inr ⟨rfl, c3⟩)
        clear hc
        go_enter Try.func136, Try.ntmps136
        go_wp2_with fail
        generalize (w.alloc (.cells #[.int .i64 (a0 : Int), .int .i64 (a1 : Int)] 85)).alloc (.cells #[.int .i64 (b0 : Int), .int .i64 (b1 : Int)] 85) = w0 at HT HU HB ⊢
        have h0 := HT.out.c0
        have h1 := HT.out.c1
        have g0 := HU.out.c0
        have g1 := HU.out.c1
        go_wp2_with (first | (go_at_call 181; with_reducible refine (H1.out _).mono ?_; rintro e wX ⟨rfl, hw⟩; have hw := hw.symm; subst hw) | (go_at_call 181; with_reducible refine (H2.out _).mono ?_; rintro e wX ⟨rfl, hw⟩; have hw := hw.symm; subst hw))
        go_ret
        exact ⟨rfl, HB.out⟩
      · obtain rfl : c = false := by cases c with
          | false => rfl
          | true => have := hc.1 rfl; omega
        clear hc
        go_enter Try.func136, Try.ntmps136
        go_wp2_with fail
        generalize (w.alloc (.cells #[.int .i64 (a0 : Int), .int .i64 (a1 : Int)] 85)).alloc (.cells #[.int .i64 (b0 : Int), .int .i64 (b1 : Int)] 85) = w0 at HT HU HB ⊢
        have h0 := HT.out.c0
        have h1 := HT.out.c1
        have g0 := HU.out.c0
        have g1 := HU.out.c1
        go_wp2_with (first | (go_at_call 181; with_reducible refine (H1.out _).mono ?_; rintro e wX ⟨rfl, hw⟩; have hw := hw.symm; subst hw) | (go_at_call 181; with_reducible refine (H2.out _).mono ?_; rintro e wX ⟨rfl, hw⟩; have hw := hw.symm; subst hw))
        go_ret
        exact ⟨rfl, HB.out⟩
    · obtain rfl : c = false := by cases c with
        | false => rfl
        | true => have := hc.1 rfl; omega
      clear hc
      go_enter Try.func136, Try.ntmps136
      go_wp2_with fail
      generalize (w.alloc (.cells #[.int .i64 (a0 : Int), .int .i64 (a1 : Int)] 85)).alloc (.cells #[.int .i64 (b0 : Int), .int .i64 (b1 : Int)] 85) = w0 at HT HU HB ⊢
      have h0 := HT.out.c0
      have h1 := HT.out.c1
      have g0 := HU.out.c0
      have g1 := HU.out.c1
      go_wp2_with (first | (go_at_call 181; with_reducible refine (H1.out _).mono ?_; rintro e wX ⟨rfl, hw⟩; have hw := hw.symm; subst hw) | (go_at_call 181; with_reducible refine (H2.out _).mono ?_; rintro e wX ⟨rfl, hw⟩; have hw := hw.symm; subst hw))
      go_ret
      exact ⟨rfl, HB.out⟩
/-- How two chances compare. -/
def cmpC (a0 a1 b0 b1 : Nat) : Int := if a0 = b0 ∧ a1 = b1 then 0 else if a0 * b1 < b0 * a1 then -1 else 1
theorem cmpC_fr {p q c d : Nat} (hq : 0 < q) (hd : 0 < d) : cmpC (fr1 p q) (fr2 p q) (fr1 c d) (fr2 c d) = if p * d = c * q then 0 else if p * d < c * q then -1 else 1 := by
  unfold cmpC
  simp only [fr_eq hq hd, fr_less hq hd]
theorem cmpC_ge {p q c d : Nat} (hq : 0 < q) (hd : 0 < d) : 0 ≤ cmpC (fr1 p q) (fr2 p q) (fr1 c d) (fr2 c d) ↔ c * q ≤ p * d := by
  rw [cmpC_fr hq hd]
  split
  · omega
  · split <;> omega
theorem cmpC_lt {p q c d : Nat} (hq : 0 < q) (hd : 0 < d) : cmpC (fr1 p q) (fr2 p q) (fr1 c d) (fr2 c d) < 0 ↔ p * d < c * q := by
  rw [cmpC_fr hq hd]
  split
  · omega
  · split <;> omega
theorem cmpC_gt {p q c d : Nat} (hq : 0 < q) (hd : 0 < d) : 0 < cmpC (fr1 p q) (fr2 p q) (fr1 c d) (fr2 c d) ↔ c * q < p * d := by
  rw [cmpC_fr hq hd]
  split
  · omega
  · split <;> omega
theorem cmpC_bd (a0 a1 b0 b1 : Nat) : -1 ≤ cmpC a0 a1 b0 b1 ∧ cmpC a0 a1 b0 b1 ≤ 1 := by
  unfold cmpC
  split
  · omega
  · split <;> omega
set_option maxRecDepth 100000 in
set_option maxHeartbeats 8000000 in
theorem compareChances_any (a0 a1 b0 b1 : Nat) (h1 : a0 ≤ 1000000000000000000) (h2 : a1 ≤ 1000000000000000000) (h3 : b0 ≤ 1000000000000000000) (h4 : b1 ≤ 1000000000000000000) (w : World) :
    Calls Try.prog 73 #[.agg #[.int .i64 (a0 : Int), .int .i64 (a1 : Int)], .agg #[.int .i64 (b0 : Int), .int .i64 (b1 : Int)]] w fun e w' => e = .returned (.int .i64 (cmpC a0 a1 b0 b1)) ∧ Below w.heap.size w w' := by
  have HT := Lib.hid (Two.new w (.int .i64 (a0 : Int)) (.int .i64 (a1 : Int)) 85 (w.heap.size) rfl)
  have HB := Lib.hid ((Below.refl w.heap.size w).alloc (Nat.le_refl _) (.cells #[.int .i64 (a0 : Int), .int .i64 (a1 : Int)] 85))
  have HU := Lib.hid (Two.new (w.alloc (.cells #[.int .i64 (a0 : Int), .int .i64 (a1 : Int)] 85)) (.int .i64 (b0 : Int)) (.int .i64 (b1 : Int)) 85 (w.heap.size + 1) (by simp))
  replace HT := Lib.hid (HT.out.step ((Below.refl _ _).alloc (Nat.le_refl _) (.cells #[.int .i64 (b0 : Int), .int .i64 (b1 : Int)] 85)))
  replace HB := Lib.hid (HB.out.alloc HB.out.size (.cells #[.int .i64 (b0 : Int), .int .i64 (b1 : Int)] 85))
  have H1 := Lib.hid (fun W => isLessChance_any a0 a1 b0 b1 h1 h2 h3 h4 W)
  have heq := eq_arr27 (a0 : Int) (a1 : Int) (b0 : Int) (b1 : Int)
  unfold cmpC
  by_cases c1 : a0 = b0 ∧ a1 = b1
  · rw [if_pos c1]
    rw [show (decide ((a0 : Int) = (b0 : Int)) && decide ((a1 : Int) = (b1 : Int))) = true by rw [c1.1, c1.2]; simp] at heq
    clear c1
    go_enter Try.func73, Try.ntmps73
    go_wp2_with fail
    generalize (w.alloc (.cells #[.int .i64 (a0 : Int), .int .i64 (a1 : Int)] 85)).alloc (.cells #[.int .i64 (b0 : Int), .int .i64 (b1 : Int)] 85) = w0 at HT HU HB ⊢
    have h0 := HT.out.c0
    have h1 := HT.out.c1
    have g0 := HU.out.c0
    have g1 := HU.out.c1
    go_wp2
    go_ret
    exact ⟨rfl, HB.out⟩
  · rw [if_neg c1]
    rw [show (decide ((a0 : Int) = (b0 : Int)) && decide ((a1 : Int) = (b1 : Int))) = false by rw [Bool.eq_false_iff]; intro h; rw [Bool.and_eq_true, decide_eq_true_iff, decide_eq_true_iff] at h; exact c1 ⟨by omega, by omega⟩] at heq
    clear c1
    by_cases c2 : a0 * b1 < b0 * a1
    · rw [if_pos c2]
      rw [decide_eq_true c2] at H1
      clear c2
      go_enter Try.func73, Try.ntmps73
      go_wp2_with fail
      generalize (w.alloc (.cells #[.int .i64 (a0 : Int), .int .i64 (a1 : Int)] 85)).alloc (.cells #[.int .i64 (b0 : Int), .int .i64 (b1 : Int)] 85) = w0 at HT HU HB ⊢
      have h0 := HT.out.c0
      have h1 := HT.out.c1
      have g0 := HU.out.c0
      have g1 := HU.out.c1
      go_wp2_with fail
      with_reducible refine (H1.out _).mono ?_
      rintro e w1 ⟨rfl, hb⟩
      replace HT := Lib.hid (HT.out.step hb)
      replace HU := Lib.hid (HU.out.step hb)
      replace HB := Lib.hid (below_trans HB.out hb)
      replace h0 := HT.out.c0
      replace h1 := HT.out.c1
      replace g0 := HU.out.c0
      replace g1 := HU.out.c1
      clear hb
      go_wp2
      go_ret
      exact ⟨rfl, HB.out⟩
    · rw [if_neg c2]
      rw [decide_eq_false c2] at H1
      clear c2
      go_enter Try.func73, Try.ntmps73
      go_wp2_with fail
      generalize (w.alloc (.cells #[.int .i64 (a0 : Int), .int .i64 (a1 : Int)] 85)).alloc (.cells #[.int .i64 (b0 : Int), .int .i64 (b1 : Int)] 85) = w0 at HT HU HB ⊢
      have h0 := HT.out.c0
      have h1 := HT.out.c1
      have g0 := HU.out.c0
      have g1 := HU.out.c1
      go_wp2_with fail
      with_reducible refine (H1.out _).mono ?_
      rintro e w1 ⟨rfl, hb⟩
      replace HT := Lib.hid (HT.out.step hb)
      replace HU := Lib.hid (HU.out.step hb)
      replace HB := Lib.hid (below_trans HB.out hb)
      replace h0 := HT.out.c0
      replace h1 := HT.out.c1
      replace g0 := HU.out.c0
      replace g1 := HU.out.c1
      clear hb
      go_wp2
      go_ret
      exact ⟨rfl, HB.out⟩
/-- How far twice a number is from another. -/
def far2 (p q : Nat) : Nat := (2 * p - q) + (q - 2 * p)
end Go.Proofs.Ytbgdnidbdfhgjab
