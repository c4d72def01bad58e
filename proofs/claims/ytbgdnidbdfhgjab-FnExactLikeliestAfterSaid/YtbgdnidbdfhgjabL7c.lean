/- Chances: the mean of what is told of places, and the chance of a set of them. -/
import Derived.Test.YtbgdnidbdfhgjabL7b
namespace Go.Proofs.Ytbgdnidbdfhgjab
open Go.RowKit Go.ChangeShapes Go.WideShapes
set_option linter.unusedVariables false

/-- A list of n numbers, by their places. -/
def zsN (f : Nat → Nat) (n : Nat) : List Int := (List.range n).map fun i => ((f i : Nat) : Int)
theorem zsN_len (f : Nat → Nat) (n : Nat) : (zsN f n).length = n := by simp [zsN]
theorem zsN_at (f : Nat → Nat) (n k : Nat) (h : k < (zsN f n).length) : (zsN f n)[k] = ((f k : Nat) : Int) := by simp [zsN]
theorem zsN_cell {w : World} {lo hi : Nat} {A : Option Addr} {f : Nat → Nat} {n k : Nat} (hI : Ints w lo hi A (zsN f n)) (h : k < n) : ∃ b o, A = some ⟨b, o, none⟩ ∧ lo ≤ b ∧ b < hi ∧ w.cell? ⟨b, o + k, none⟩ = some (.int .i64 ((f k : Nat) : Int)) := by
  obtain ⟨b, o, e, h1, h2, h3⟩ := hI.at_ (k := k) (by rw [zsN_len]; exact h)
  rw [zsN_at] at h3
  exact ⟨b, o, e, h1, h2, h3⟩
/-- How often a place is in a set: once or not at all. -/
def hasN (q : Int) (i : Nat) : Nat := if inQ q i then 1 else 0
theorem hasN_le (q : Int) (i : Nat) : hasN q i ≤ 1 := by unfold hasN; split <;> omega
theorem has_any (q : Int) (k : Nat) (w : World) (hk : k ≤ 12) :
    Calls Try.prog 135 #[.int .i64 q, .int .i64 (k : Int)] w fun e w' => e = .returned (.int .i64 ((hasN q k : Nat) : Int)) ∧ w' = w := by
  have HC := Lib.hid (fun W => inQuestion_any q k W hk)
  unfold hasN
  generalize inQ q k = b at HC ⊢
  cases b
  all_goals
    go_enter Try.func135, Try.ntmps135
    go_wp2_with (go_at_call 166; refine (HC.out _).mono ?_; rintro e w1 ⟨rfl, rfl⟩)
    go_ret
    exact ⟨rfl, rfl⟩
theorem sumT_next (f T : Nat → Nat) (k : Nat) : ((sumT f T k : Nat) : Int) + ((f k : Nat) : Int) * ((T k : Nat) : Int) = ((sumT f T (k + 1) : Nat) : Int) := by
  simp only [sumT]
  rw [Int.natCast_add, Int.natCast_mul]
theorem sumF_next (f : Nat → Nat) (k : Nat) : ((sumF f k : Nat) : Int) + ((f k : Nat) : Int) = ((sumF f (k + 1) : Nat) : Int) := by
  simp only [sumF]
  rw [Int.natCast_add]
theorem sumT_big {f T : Nat → Nat} {n : Nat} (hn : n ≤ 13) (hf : ∀ i, i < n → f i ≤ 1000000000000) (hT : ∀ i, i < n → T i ≤ 12) (k : Nat) (hk : k ≤ n) : sumT f T k ≤ 156000000000000 := by
  have h1 := sumT_le (f := f) (T := T) (B := 1000000000000) (C := 12) k fun i hi => ⟨hf i (by omega), hT i (by omega)⟩
  have h2 := Nat.mul_le_mul_right (1000000000000 * 12) (show k ≤ 13 by omega)
  omega
theorem sumF_big {f : Nat → Nat} {n : Nat} (hn : n ≤ 13) (hf : ∀ i, i < n → f i ≤ 1000000000000) (k : Nat) (hk : k ≤ n) : sumF f k ≤ 13000000000000 := by
  have h1 := sumF_le (f := f) (B := 1000000000000) k fun i hi => hf i (by omega)
  have h2 := Nat.mul_le_mul_right 1000000000000 (show k ≤ 13 by omega)
  omega
set_option maxRecDepth 100000 in
set_option maxHeartbeats 4000000 in
theorem meanOf_has (A : Option Addr) (c lo hi : Nat) (f : Nat → Nat) (n : Nat) (q : Int) (w : World) (hS : Ins w lo hi A (zsN f n)) (hn : n ≤ 13) (hf : ∀ i, i < n → f i ≤ 1000000000000) (hpos : 1 ≤ sumF f n) :
    Calls Try.prog 134 #[.slice A n c, .func (.func 135) #[.int .i64 q] #[]] w fun e w' => e = .returned (.agg #[.int .i64 ((fr1 (sumT f (hasN q) n) (sumF f n) : Nat) : Int), .int .i64 ((fr2 (sumT f (hasN q) n) (sumF f n) : Nat) : Int)]) ∧ Below w.heap.size w w' := by
  have HR0 := Lib.hid (Two.new w (.int .i64 0) (.int .i64 0) 85 w.heap.size rfl)
  have HB0 := Lib.hid ((Below.refl w.heap.size w).alloc (Nat.le_refl _) (.cells #[.int .i64 0, .int .i64 0] 85))
  have HI0 := Lib.hid (hS.step HB0.out)
  have HF := Lib.hid hf
  have HT : Hid (∀ i, i < n → (hasN q) i ≤ 12) := Lib.hid (fun i _ => by have := hasN_le q i; omega)
  have HFR := Lib.hid (fun W => fractionOf_any (sumT f (hasN q) n) (sumF f n) hpos (by have := sumT_big hn HF.out HT.out n (Nat.le_refl _); omega) (by have := sumF_big hn HF.out n (Nat.le_refl _); omega) W)
  generalize hTT : (hasN q) = T at HT HFR ⊢
  clear hS hf hpos
  go_enter Try.func134, Try.ntmps134
  go_wp2_with fail
  generalize w.alloc (.cells #[.int .i64 0, .int .i64 0] 85) = wa at HR0 HB0 HI0 ⊢
  go_loopw [5, 6, 11] (fun sum all i wr => ∃ (k : Nat), k ≤ n ∧ i = .int .i64 k ∧ sum = .int .i64 ((sumT f T k : Nat) : Int) ∧ all = .int .i64 ((sumF f k : Nat) : Int) ∧ Hid (wr = wa)) (fun _ _ i _ => n - (intOf i).toNat)
  case atStart => exact ⟨0, Nat.zero_le _, rfl, rfl, rfl, Lib.hid rfl⟩
  case round =>
    obtain ⟨k, hk, rfl, rfl, rfl, HW⟩ := hrel
    have hw := HW.out
    subst hw
    by_cases hlt : k < n
    · obtain ⟨b, o, rfl, _, hb, hc⟩ := zsN_cell HI0.out.ints hlt
      have htop := HI0.out.top
      have HC := Lib.hid (has_any q k wr (by omega))
      rw [hTT] at HC
      have b1 := sumT_big hn HF.out HT.out k hk
      have b2 := sumT_big hn HF.out HT.out (k + 1) hlt
      have b3 := sumF_big hn HF.out k hk
      have b4 := HF.out k hlt
      have b5 := HT.out k hlt
      have HS1 := Lib.hid (sumT_next f T k)
      have HS2 := Lib.hid (sumF_next f k)
      have hx : 0 ≤ ((f k : Nat) : Int) * ((T k : Nat) : Int) ∧ ((sumT f T k : Nat) : Int) + ((f k : Nat) : Int) * ((T k : Nat) : Int) ≤ 156000000000000 := by
        refine ⟨Int.mul_nonneg (Int.natCast_nonneg _) (Int.natCast_nonneg _), ?_⟩
        rw [HS1.out]; omega
      clear b2
      generalize f k = x at HS1 HS2 hc hx b4
      generalize T k = y at HS1 HC hx b5
      generalize sumT f T k = s1 at HS1 hx b1
      generalize sumF f k = s2 at HS2 b3
      go_wp2_with fail
      refine (HC.out).mono ?_
      rintro e w2 ⟨rfl, hw⟩
      have hw := hw.symm
      subst hw
      go_wp2
      go_roundw
      case rel => exact ⟨k + 1, by omega, by go_num, by rw [HS1.out], by rw [HS2.out], (by first | exact Lib.hid rfl | exact Lib.hid trivial)⟩
      case measure => simp [intOf]; omega
    · obtain rfl : k = n := by omega
      go_wp2_with fail
      refine (HFR.out _).mono ?_
      rintro e w2 ⟨rfl, hb⟩
      have HR := Lib.hid (HR0.out.step hb)
      have HB := Lib.hid (below_trans HB0.out hb)
      clear hb HR0 HB0
      have q0 := HR.out.c0
      have q1 := HR.out.c1
      have q2 := HR.out.f0
      have q3 := HR.out.f1
      go_wp2
      obtain ⟨hs, hw⟩ := stored2 HR.out.row (.int .i64 ((fr1 (sumT f T k) (sumF f k) : Nat) : Int)) (.int .i64 ((fr2 (sumT f T k) (sumF f k) : Nat) : Int))
      generalize ((w2.setCell ⟨w.heap.size, 0, none⟩ (.int .i64 ((fr1 (sumT f T k) (sumF f k) : Nat) : Int))).setCell ⟨w.heap.size, 1, none⟩ (.int .i64 ((fr2 (sumT f T k) (sumF f k) : Nat) : Int))) = wf at hs hw ⊢
      have e0 := two0 hs
      have e1 := two1 hs
      refine bodyPost_ret (v := .agg #[.int .i64 ((fr1 (sumT f T k) (sumF f k) : Nat) : Int), .int .i64 ((fr2 (sumT f T k) (sumF f k) : Nat) : Int)]) (by simp [results, go_sem, e0, e1]) rfl ?_
      exact ⟨rfl, HB.out.trans (hw.below (Nat.le_refl _) HB.out.size)⟩
set_option maxRecDepth 100000 in
set_option maxHeartbeats 4000000 in
theorem chanceOf_any (A : Option Addr) (c lo hi : Nat) (f : Nat → Nat) (n : Nat) (q : Int) (w : World) (hS : Ins w lo hi A (zsN f n)) (hn : n ≤ 13) (hf : ∀ i, i < n → f i ≤ 1000000000000) (hpos : 1 ≤ sumF f n) :
    Calls Try.prog 68 #[.slice A n c, .int .i64 q] w fun e w' => e = .returned (.agg #[.int .i64 ((fr1 (sumT f (hasN q) n) (sumF f n) : Nat) : Int), .int .i64 ((fr2 (sumT f (hasN q) n) (sumF f n) : Nat) : Int)]) ∧ Below w.heap.size w w' := by
  have HR := Lib.hid (Two.new w (.int .i64 0) (.int .i64 0) 85 w.heap.size rfl)
  have HB := Lib.hid ((Below.refl w.heap.size w).alloc (Nat.le_refl _) (.cells #[.int .i64 0, .int .i64 0] 85))
  have HC := Lib.hid (meanOf_has A c lo hi f n q _ (hS.step HB.out) hn hf hpos)
  have hmf : ∀ (fn : Fn) (first cap : Array Value) (w : World), (Instr.makeFunc fn first cap).run Try.prog w = .ok (.func fn first cap) w := fun _ _ _ _ => rfl
  generalize fr1 (sumT f (hasN q) n) (sumF f n) = x at HC ⊢
  generalize fr2 (sumT f (hasN q) n) (sumF f n) = y at HC ⊢
  clear hS hf hpos
  go_enter Try.func68, Try.ntmps68
  go_wp2_with fail
  generalize w.alloc (.cells #[.int .i64 0, .int .i64 0] 85) = wa at HR HB HC ⊢
  refine (HC.out).mono ?_
  rintro e w2 ⟨rfl, hb⟩
  replace HR := Lib.hid (HR.out.step hb)
  replace HB := Lib.hid (below_trans HB.out hb)
  clear hb HC
  have q0 := HR.out.c0
  have q1 := HR.out.c1
  have q2 := HR.out.f0
  have q3 := HR.out.f1
  go_wp2
  obtain ⟨hs, hw⟩ := stored2 HR.out.row (.int .i64 (x : Int)) (.int .i64 (y : Int))
  generalize ((w2.setCell ⟨w.heap.size, 0, none⟩ (.int .i64 (x : Int))).setCell ⟨w.heap.size, 1, none⟩ (.int .i64 (y : Int))) = wf at hs hw ⊢
  have e0 := two0 hs
  have e1 := two1 hs
  refine bodyPost_ret (v := .agg #[.int .i64 (x : Int), .int .i64 (y : Int)]) (by simp [results, go_sem, e0, e1]) rfl ?_
  exact ⟨rfl, HB.out.trans (hw.below (Nat.le_refl _) HB.out.size)⟩
end Go.Proofs.Ytbgdnidbdfhgjab
