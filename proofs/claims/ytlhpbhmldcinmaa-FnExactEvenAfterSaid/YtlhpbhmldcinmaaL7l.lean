/- EvenAfter, of both sides. -/
import Derived.Test.YtlhpbhmldcinmaaL7k
namespace Go.Proofs.Ytlhpbhmldcinmaa
open Go.RowKit Go.ChangeShapes Go.WideShapes Go.Maps
set_option linter.unusedVariables false

theorem far_scale {g X Y x S : Nat} (h1 : X * g = x) (h2 : Y * g = S) : far2 x S = g * far2 X Y ∧ 2 * S = g * (2 * Y) := by
  subst h1 h2
  unfold far2
  refine ⟨?_, by rw [Nat.mul_comm Y g, Nat.mul_left_comm]⟩
  rw [Nat.mul_add, Nat.mul_sub, Nat.mul_sub, Nat.mul_comm X g, Nat.mul_comm Y g, Nat.mul_left_comm]
theorem far_fr (x S : Nat) (hS : 0 < S) : fr1 (far2 (fr1 x S) (fr2 x S)) (2 * fr2 x S) = fr1 (far2 x S) (2 * S) ∧ fr2 (far2 (fr1 x S) (fr2 x S)) (2 * fr2 x S) = fr2 (far2 x S) (2 * S) := by
  obtain ⟨e1, e2⟩ := far_scale (fr1_mul x S) (fr2_mul x S)
  have h := fr_scale (far2 (fr1 x S) (fr2 x S)) (2 * fr2 x S) (fr_gcd_pos x hS)
  rw [← e1, ← e2] at h
  exact ⟨h.1.symm, h.2.symm⟩
/-- How far twice the draws in a question are from all. -/
def farQ (f : Nat → Nat) (n : Nat) (q : Nat) : Nat := far2 (sumT f (hasN (q : Int)) n) (sumF f n)
theorem farQ_le (f : Nat → Nat) (n q : Nat) : farQ f n q ≤ sumF f n := by
  have h : sumT f (hasN (q : Int)) n ≤ sumF f n := sumT_part n fun i _ => hasN_le _ i
  unfold farQ far2
  omega
theorem far_lt (f : Nat → Nat) (n q r : Nat) (hS : 0 < sumF f n) : cmpC (fr1 (farQ f n q) (2 * sumF f n)) (fr2 (farQ f n q) (2 * sumF f n)) (fr1 (farQ f n r) (2 * sumF f n)) (fr2 (farQ f n r) (2 * sumF f n)) < 0 ↔ farQ f n q < farQ f n r := by
  rw [cmpC_lt (by omega) (by omega)]
  exact Nat.mul_lt_mul_right (by omega)
theorem leastAt_step (g : Nat → Nat) (q : Nat) : leastAt g q = if g q < g (leastAt g (q - 1)) then q else leastAt g (q - 1) := by
  cases q with
  | zero => simp [leastAt]
  | succ k => rw [leastAt, Nat.add_sub_cancel]
theorem hasN_zero (i : Nat) (hi : i ≤ 12) : hasN 0 i = 0 := by
  have : ∀ i, i ≤ 12 → hasN 0 i = 0 := by decide +kernel
  exact this i hi
theorem pow12 (n : Nat) (h : n ≤ 12) : 2 ^ n ≤ 4096 ∧ 1 ≤ 2 ^ n := by
  have : ∀ n, n ≤ 12 → 2 ^ n ≤ 4096 ∧ 1 ≤ 2 ^ n := by decide
  exact this n h
theorem farQ_zero (f : Nat → Nat) (n : Nat) (h : n ≤ 12) : farQ f n 0 = sumF f n := by
  show far2 (sumT f (hasN 0) n) (sumF f n) = sumF f n
  rw [sumT_congr (T' := fun _ => 0) n fun i hi => hasN_zero i (by omega)]
  have : ∀ k, sumT f (fun _ => 0) k = 0 := fun k => by
    induction k with
    | zero => rfl
    | succ k ih => simp only [sumT, ih]; omega
  rw [this]
  unfold far2
  omega
set_option maxRecDepth 100000 in
set_option maxHeartbeats 4000000 in
theorem evenAfter_impl (n a b : Nat) (A : Option Addr) (c lo hi : Nat) (l : List (Int × Bool)) (w : World) (hS : AIns w lo hi A l) (hg : Given n a b l) (hpos : 0 < sumF (g7 a b l) n) :
    Calls Try.prog 39 #[.int .i64 (n : Int), .slice A l.length c, .agg #[.int .i64 (a : Int), .int .i64 (b : Int)]] w fun e w' => e = .returned (.tuple #[.int .i64 ((leastAt (farQ (g7 a b l) n) (2 ^ n - 1) : Nat) : Int), .bool true]) ∧ Below w.heap.size w w' := by
  have HT := Lib.hid (Two.new w (.int .i64 (a : Int)) (.int .i64 (b : Int)) 25 (w.heap.size) rfl)
  have HB := Lib.hid ((Below.refl w.heap.size w).alloc (Nat.le_refl _) (.cells #[.int .i64 (a : Int), .int .i64 (b : Int)] 25))
  have HI := Lib.hid (hS.step HB.out)
  have HD := Lib.hid (fun W h => drawsAfter_impl n a b A c lo hi l W h hg)
  rw [show decide (0 < sumF (g7 a b l) n) = true from decide_eq_true hpos] at HD
  have HC := Lib.hid (fun (W : World) (g : Nat) (q : Nat) (hI : Ins W g (g + 1) (some ⟨g, 0, none⟩) (zsN (g7 a b l) n)) => chanceOf_any (some ⟨g, 0, none⟩) n g (g + 1) (g7 a b l) n (q : Int) W hI (by have := hg.n12; omega) (fun i _ => hg.bd i) hpos)
  have hs := hg.sum n (Nat.le_refl _)
  have HFF := Lib.hid (fun (W : World) (q : Nat) => farFromHalf_any (fr1 (sumT (g7 a b l) (hasN (q : Int)) n) (sumF (g7 a b l) n)) (fr2 (sumT (g7 a b l) (hasN (q : Int)) n) (sumF (g7 a b l) n)) (by have h1 := fr1_le_fr2 (hg.in_le (q : Int)); have h2 := fr2_le (sumT (g7 a b l) (hasN (q : Int)) n) (sumF (g7 a b l) n); omega) (by have h2 := fr2_le (sumT (g7 a b l) (hasN (q : Int)) n) (sumF (g7 a b l) n); omega) (fr2_pos _ hpos) W)
  have HE := Lib.hid (fun (q : Nat) => far_fr (sumT (g7 a b l) (hasN (q : Int)) n) (sumF (g7 a b l) n) hpos)
  have HF2 : Hid (∀ (W : World) (q : Nat), Calls Try.prog 77 #[.agg #[.int .i64 ((fr1 (sumT (g7 a b l) (hasN (q : Int)) n) (sumF (g7 a b l) n) : Nat) : Int), .int .i64 ((fr2 (sumT (g7 a b l) (hasN (q : Int)) n) (sumF (g7 a b l) n) : Nat) : Int)]] W fun e w' => e = .returned (.agg #[.int .i64 ((fr1 (farQ (g7 a b l) n q) (2 * sumF (g7 a b l) n) : Nat) : Int), .int .i64 ((fr2 (farQ (g7 a b l) n q) (2 * sumF (g7 a b l) n) : Nat) : Int)]) ∧ Below W.heap.size W w') := Lib.hid (fun W q => by have h := HFF.out W q; rw [(HE.out q).1, (HE.out q).2] at h; exact h)
  have HLT := Lib.hid (fun q r => far_lt (g7 a b l) n q r hpos)
  have HBD := Lib.hid (fun q => (⟨Nat.le_trans (fr1_le (farQ (g7 a b l) n q) (2 * sumF (g7 a b l) n)) (Nat.le_trans (farQ_le _ _ _) hs), Nat.le_trans (fr2_le (farQ (g7 a b l) n q) (2 * sumF (g7 a b l) n)) (Nat.mul_le_mul_left 2 hs)⟩ : fr1 (farQ (g7 a b l) n q) (2 * sumF (g7 a b l) n) ≤ 12000000000000 ∧ fr2 (farQ (g7 a b l) n q) (2 * sumF (g7 a b l) n) ≤ 2 * 12000000000000))
  have HCM := Lib.hid (fun (W : World) (q r : Nat) => compareChances_any (fr1 (farQ (g7 a b l) n q) (2 * sumF (g7 a b l) n)) (fr2 (farQ (g7 a b l) n q) (2 * sumF (g7 a b l) n)) (fr1 (farQ (g7 a b l) n r) (2 * sumF (g7 a b l) n)) (fr2 (farQ (g7 a b l) n r) (2 * sumF (g7 a b l) n)) (by have := (HBD.out q).1; omega) (by have := (HBD.out q).2; omega) (by have := (HBD.out r).1; omega) (by have := (HBD.out r).2; omega) W)
  have hp12 := pow13 n (by have := hg.n12; omega)
  have hn12 := hg.n12
  have HC0 := Lib.hid (fun W g h => HC.out W g 0 h)
  have HF0 := Lib.hid (fun W => HF2.out W 0)
  rw [show ((0 : Nat) : Int) = 0 from rfl] at HC0 HF0
  have HPI : Hid ((2 : Int) ^ n = ((2 ^ n : Nat) : Int)) := Lib.hid (by rw [Int.natCast_pow]; rfl)
  skip
  clear HFF HE hs hg hS hpos
  go_enter Try.func39, Try.ntmps39
  go_wp2_with fail
  generalize w.alloc (.cells #[.int .i64 (a : Int), .int .i64 (b : Int)] 25) = w0 at HT HB HI ⊢
  have h0 := HT.out.c0
  have h1 := HT.out.c1
  with_reducible refine (HD.out _ HI.out).mono ?_
  rintro e w1 ⟨g, rfl, hgl, hrow, hb⟩
  replace HT := Lib.hid (HT.out.step hb)
  replace HB := Lib.hid (below_trans HB.out hb)
  replace HI := Lib.hid (HI.out.step hb)
  replace h0 := HT.out.c0
  replace h1 := HT.out.c1
  have HW := Lib.hid (row_insW hrow)
  clear hrow
  clear hb
  clear h0 h1
  clear HD HI HT
  go_wp2_with fail
  with_reducible refine (HC0.out _ g HW.out).mono ?_
  rintro e w2 ⟨rfl, hb⟩
  replace HB := Lib.hid (below_trans HB.out hb)
  replace HW := Lib.hid (HW.out.step hb)
  clear hb
  go_wp2_with fail
  with_reducible refine (HF0.out _).mono ?_
  rintro e w3 ⟨rfl, hb⟩
  replace HB := Lib.hid (below_trans HB.out hb)
  replace HW := Lib.hid (HW.out.step hb)
  clear hb
  have hb2 := (Below.refl _ w3).alloc (Nat.le_refl _) (.cells #[.int .i64 ((fr1 (farQ (g7 a b l) n 0) (2 * sumF (g7 a b l) n) : Nat) : Int), .int .i64 ((fr2 (farQ (g7 a b l) n 0) (2 * sumF (g7 a b l) n) : Nat) : Int)] 28)
  have HV := Lib.hid (Two.new w3 (.int .i64 ((fr1 (farQ (g7 a b l) n 0) (2 * sumF (g7 a b l) n) : Nat) : Int)) (.int .i64 ((fr2 (farQ (g7 a b l) n 0) (2 * sumF (g7 a b l) n) : Nat) : Int)) 28 w3.heap.size rfl)
  have hgv := HB.out.size
  have hgw := HW.out.top
  replace HW := Lib.hid (HW.out.step hb2)
  replace HB := Lib.hid (below_trans HB.out hb2)
  clear hb2 HC0 HF0
  go_wp2_with fail
  generalize w3.alloc (.cells #[.int .i64 ((fr1 (farQ (g7 a b l) n 0) (2 * sumF (g7 a b l) n) : Nat) : Int), .int .i64 ((fr2 (farQ (g7 a b l) n 0) (2 * sumF (g7 a b l) n) : Nat) : Int)] 28) = w4 at HV HW HB ⊢
  generalize w3.heap.size = gv at HV hgv hgw ⊢
  go_loopw [10, 28] (fun ev i wr => ∃ (q : Nat), (q : Int) ≤ (2 : Int) ^ n ∧ i = .int .i64 (q : Int) ∧ ev = .int .i64 (((leastAt (farQ (g7 a b l) n) (q - 1)) : Nat) : Int) ∧ Hid (Two wr gv (.int .i64 ((fr1 (farQ (g7 a b l) n (leastAt (farQ (g7 a b l) n) (q - 1))) (2 * sumF (g7 a b l) n) : Nat) : Int)) (.int .i64 ((fr2 (farQ (g7 a b l) n (leastAt (farQ (g7 a b l) n) (q - 1))) (2 * sumF (g7 a b l) n) : Nat) : Int)) 28) ∧ Hid (Ins wr g (g + 1) (some ⟨g, 0, none⟩) (zsN (g7 a b l) n)) ∧ Hid (Below w.heap.size w wr)) (fun _ i _ => 2 ^ n - (intOf i).toNat)
  case atStart => exact ⟨0, by omega, rfl, rfl, HV, HW, HB⟩
  case round =>
    clear HV HW HB
    obtain ⟨q, hqn, rfl, rfl, HV, HW, HB⟩ := hrel
    skip
    by_cases hlt : (q : Int) < (2 : Int) ^ n
    · have HCq := Lib.hid (fun W h => HC.out W g q h)
      have HFq := Lib.hid (fun W => HF2.out W q)
      have HMq := Lib.hid (fun W => HCM.out W q (leastAt (farQ (g7 a b l) n) (q - 1)))
      have HLq := Lib.hid (HLT.out q (leastAt (farQ (g7 a b l) n) (q - 1)))
      have HST := Lib.hid (leastAt_step (farQ (g7 a b l) n) q)
      have hcb := cmpC_bd (fr1 (farQ (g7 a b l) n q) (2 * sumF (g7 a b l) n)) (fr2 (farQ (g7 a b l) n q) (2 * sumF (g7 a b l) n)) (fr1 (farQ (g7 a b l) n (leastAt (farQ (g7 a b l) n) (q - 1))) (2 * sumF (g7 a b l) n)) (fr2 (farQ (g7 a b l) n (leastAt (farQ (g7 a b l) n) (q - 1))) (2 * sumF (g7 a b l) n))
      generalize cmpC (fr1 (farQ (g7 a b l) n q) (2 * sumF (g7 a b l) n)) (fr2 (farQ (g7 a b l) n q) (2 * sumF (g7 a b l) n)) (fr1 (farQ (g7 a b l) n (leastAt (farQ (g7 a b l) n) (q - 1))) (2 * sumF (g7 a b l) n)) (fr2 (farQ (g7 a b l) n (leastAt (farQ (g7 a b l) n) (q - 1))) (2 * sumF (g7 a b l) n)) = cv at HMq HLq hcb
      generalize hP : fr1 (farQ (g7 a b l) n q) (2 * sumF (g7 a b l) n) = P at HFq HMq
      generalize hQ : fr2 (farQ (g7 a b l) n q) (2 * sumF (g7 a b l) n) = Q at HFq HMq
      generalize hX : fr1 (farQ (g7 a b l) n (leastAt (farQ (g7 a b l) n) (q - 1))) (2 * sumF (g7 a b l) n) = X at HMq HV
      generalize hY : fr2 (farQ (g7 a b l) n (leastAt (farQ (g7 a b l) n) (q - 1))) (2 * sumF (g7 a b l) n) = Y at HMq HV
      have HP := Lib.hid hP
      have HQ := Lib.hid hQ
      have HX := Lib.hid hX
      have HY := Lib.hid hY
      clear hP hQ hX hY
      generalize fr1 (sumT (g7 a b l) (hasN (q : Int)) n) (sumF (g7 a b l) n) = c1 at HCq HFq
      generalize fr2 (sumT (g7 a b l) (hasN (q : Int)) n) (sumF (g7 a b l) n) = c2 at HCq HFq
      generalize hbest : (leastAt (farQ (g7 a b l) n) (q - 1)) = best at HX HY HST HLq ⊢
      clear hbest
      go_wp2_with fail
      with_reducible refine (HCq.out _ HW.out).mono ?_
      rintro e w5 ⟨rfl, hb⟩
      replace HV := Lib.hid (HV.out.step hb)
      replace HW := Lib.hid (HW.out.step hb)
      replace HB := Lib.hid (below_trans HB.out hb)
      clear hb
      go_wp2_with fail
      with_reducible refine (HFq.out _).mono ?_
      rintro e w6 ⟨rfl, hb⟩
      replace HV := Lib.hid (HV.out.step hb)
      replace HW := Lib.hid (HW.out.step hb)
      replace HB := Lib.hid (below_trans HB.out hb)
      clear hb
      clear HCq HFq
      have hb2 := (Below.refl _ w6).alloc (Nat.le_refl _) (.cells #[.int .i64 (P : Int), .int .i64 (Q : Int)] 28)
      have HN := Lib.hid (Two.new w6 (.int .i64 (P : Int)) (.int .i64 (Q : Int)) 28 w6.heap.size rfl)
      have HVa := Lib.hid (HV.out.step hb2)
      have v0 := HVa.out.c0
      have v1 := HVa.out.c1
      have n0 := HN.out.c0
      have n1 := HN.out.c1
      go_wp2_with fail
      with_reducible refine (HMq.out _).mono ?_
      rintro e w7 ⟨rfl, hb⟩
      have hb3 := below_trans hb2 hb
      replace HV := Lib.hid (HV.out.step hb3)
      replace HW := Lib.hid (HW.out.step hb3)
      replace HB := Lib.hid (below_trans HB.out hb3)
      replace HN := Lib.hid (HN.out.step hb)
      generalize w6.heap.size = nb at HN ⊢
      clear hb hb2 hb3 v0 v1 n0 n1 HVa HMq
      by_cases hcv : cv < 0
      · have hst : leastAt (farQ (g7 a b l) n) q = q := by rw [HST.out, if_pos (HLq.out.1 hcv)]
        have HST2 := Lib.hid hst
        clear HST HLq hst HX HY
        go_wp2_with fail
        have HVd := Lib.hid (HV.out.step (Below.refl _ w7).drew)
        have HNd := Lib.hid (HN.out.step (Below.refl _ w7).drew)
        have HWd := Lib.hid (HW.out.step (Below.refl _ w7).drew)
        have HBd := Lib.hid HB.out.drew
        clear HV HN HW HB
        refine wp_region_still_tail 3 (by kernel_rfl) (by kernel_rfl) ?_
        change wpStill _ _ w7.drew (fun a' => wpList _ _ _ _ a' w7.drew) _ _
        generalize w7.drew = wd at HVd HNd HWd HBd ⊢
        have q0 := HVd.out.c0
        have q1 := HVd.out.c1
        have q2 := HVd.out.f0
        have q3 := HVd.out.f1
        have n0 := HNd.out.c0
        have n1 := HNd.out.c1
        simp only [List.take_succ_cons, List.take_zero, List.drop_succ_cons, List.drop_zero]
        repeat still_step
        refine wpStill_nil ?_
        obtain ⟨hs, hw⟩ := stored2 HVd.out.row (.int .i64 (P : Int)) (.int .i64 (Q : Int))
        have HS2 := Lib.hid hs
        have HW2 := Lib.hid hw
        clear hs hw
        go_wp2
        generalize ((wd.setCell ⟨gv, 0, none⟩ (.int .i64 (P : Int))).setCell ⟨gv, 1, none⟩ (.int .i64 (Q : Int))) = wf at HS2 HW2 ⊢
        go_roundw
        case rel => exact ⟨q + 1, by omega, by go_num, by rw [Nat.add_sub_cancel, HST2.out], by rw [Nat.add_sub_cancel, HST2.out, HP.out, HQ.out]; exact Lib.hid ⟨HS2.out⟩, Lib.hid (HWd.out.within HW2.out (.inl (by omega))), Lib.hid (HBd.out.trans (HW2.out.below (by omega) HBd.out.size))⟩
        case measure => have := HPI.out; simp [intOf]; omega
      · have hst : leastAt (farQ (g7 a b l) n) q = best := by rw [HST.out, if_neg (fun h => hcv (HLq.out.2 h))]
        have HST2 := Lib.hid hst
        clear HST HLq hst HP HQ HN
        go_wp2
        go_roundw
        case rel => exact ⟨q + 1, by omega, by go_num, by rw [Nat.add_sub_cancel, HST2.out], by rw [Nat.add_sub_cancel, HST2.out, HX.out, HY.out]; exact HV, HW, HB⟩
        case measure => have := HPI.out; simp [intOf]; omega
    · have hq : q = 2 ^ n := by have := HPI.out; omega
      have HQE := Lib.hid hq
      clear hq
      go_wp2
      go_ret2
      rw [HQE.out]
      exact ⟨rfl, HB.out⟩
set_option maxRecDepth 100000 in
set_option maxHeartbeats 2000000 in
theorem evenAfter_impl_no1 (n a b : Int) (A : Option Addr) (c lo hi : Nat) (l : List (Int × Bool)) (w : World) (hS : AIns w lo hi A l) (hl : l.length ≤ 1048576) (h : givenB n l a b = false) :
    Calls Try.prog 39 #[.int .i64 n, .slice A l.length c, .agg #[.int .i64 a, .int .i64 b]] w fun e w' => e = .returned (.tuple #[.int .i64 0, .bool false]) ∧ Below w.heap.size w w' := by
  have HT := Lib.hid (Two.new w (.int .i64 a) (.int .i64 b) 25 (w.heap.size) rfl)
  have HB := Lib.hid ((Below.refl w.heap.size w).alloc (Nat.le_refl _) (.cells #[.int .i64 a, .int .i64 b] 25))
  have HI := Lib.hid (hS.step HB.out)
  have HD := Lib.hid (fun W hh => drawsAfter_no n a b A c lo hi l W hh hl h)
  clear hS
  go_enter Try.func39, Try.ntmps39
  go_wp2_with fail
  generalize w.alloc (.cells #[.int .i64 a, .int .i64 b] 25) = w0 at HT HB HI ⊢
  have h0 := HT.out.c0
  have h1 := HT.out.c1
  with_reducible refine (HD.out _ HI.out).mono ?_
  rintro e w1 ⟨v, rfl, hb⟩
  replace HT := Lib.hid (HT.out.step hb)
  replace HB := Lib.hid (below_trans HB.out hb)
  replace HI := Lib.hid (HI.out.step hb)
  replace h0 := HT.out.c0
  replace h1 := HT.out.c1
  clear hb
  clear h0 h1
  go_wp2
  go_ret2
  exact ⟨rfl, HB.out⟩
set_option maxRecDepth 100000 in
set_option maxHeartbeats 2000000 in
theorem evenAfter_impl_no2 (n a b : Nat) (A : Option Addr) (c lo hi : Nat) (l : List (Int × Bool)) (w : World) (hS : AIns w lo hi A l) (hg : Given n a b l) (hpos : ¬ 0 < sumF (g7 a b l) n) :
    Calls Try.prog 39 #[.int .i64 (n : Int), .slice A l.length c, .agg #[.int .i64 (a : Int), .int .i64 (b : Int)]] w fun e w' => e = .returned (.tuple #[.int .i64 0, .bool false]) ∧ Below w.heap.size w w' := by
  have HT := Lib.hid (Two.new w (.int .i64 (a : Int)) (.int .i64 (b : Int)) 25 (w.heap.size) rfl)
  have HB := Lib.hid ((Below.refl w.heap.size w).alloc (Nat.le_refl _) (.cells #[.int .i64 (a : Int), .int .i64 (b : Int)] 25))
  have HI := Lib.hid (hS.step HB.out)
  have HD := Lib.hid (fun W h => drawsAfter_impl n a b A c lo hi l W h hg)
  rw [show decide (0 < sumF (g7 a b l) n) = false from decide_eq_false hpos] at HD
  clear hS
  go_enter Try.func39, Try.ntmps39
  go_wp2_with fail
  generalize w.alloc (.cells #[.int .i64 (a : Int), .int .i64 (b : Int)] 25) = w0 at HT HB HI ⊢
  have h0 := HT.out.c0
  have h1 := HT.out.c1
  with_reducible refine (HD.out _ HI.out).mono ?_
  rintro e w1 ⟨g, rfl, hgl, hrow, hb⟩
  replace HT := Lib.hid (HT.out.step hb)
  replace HB := Lib.hid (below_trans HB.out hb)
  replace HI := Lib.hid (HI.out.step hb)
  replace h0 := HT.out.c0
  replace h1 := HT.out.c1
  clear hb
  clear h0 h1
  go_wp2
  go_ret2
  exact ⟨rfl, HB.out⟩
set_option maxRecDepth 100000 in
set_option maxHeartbeats 2000000 in
theorem evenAfter_spec_no1 (n a b : Int) (A : Option Addr) (c lo hi : Nat) (l : List (Int × Bool)) (w : World) (hS : AIns w lo hi A l) (hl : l.length ≤ 1048576) (h : givenB n l a b = false) :
    Calls Try.prog 38 #[.int .i64 n, .slice A l.length c, .agg #[.int .i64 a, .int .i64 b]] w fun e w' => e = .returned (.tuple #[.int .i64 0, .bool false]) ∧ Below w.heap.size w w' := by
  have HT := Lib.hid (Two.new w (.int .i64 a) (.int .i64 b) 25 (w.heap.size) rfl)
  have HB := Lib.hid ((Below.refl w.heap.size w).alloc (Nat.le_refl _) (.cells #[.int .i64 a, .int .i64 b] 25))
  have HI := Lib.hid (hS.step HB.out)
  have HA := Lib.hid (fun W hh => l7Answers_any n a b A c lo hi l W hh hl)
  rw [h] at HA
  clear hS h
  go_enter Try.func38, Try.ntmps38
  go_wp2_with fail
  generalize w.alloc (.cells #[.int .i64 a, .int .i64 b] 25) = w0 at HT HB HI ⊢
  have h0 := HT.out.c0
  have h1 := HT.out.c1
  with_reducible refine (HA.out _ HI.out).mono ?_
  rintro e w1 ⟨rfl, hb⟩
  replace HT := Lib.hid (HT.out.step hb)
  replace HB := Lib.hid (below_trans HB.out hb)
  replace HI := Lib.hid (HI.out.step hb)
  replace h0 := HT.out.c0
  replace h1 := HT.out.c1
  clear hb
  clear h0 h1
  go_wp2
  go_ret2
  exact ⟨rfl, HB.out⟩
set_option maxRecDepth 100000 in
set_option maxHeartbeats 2000000 in
theorem evenAfter_spec_no2 (n a b : Nat) (A : Option Addr) (c lo hi : Nat) (l : List (Int × Bool)) (w : World) (hS : AIns w lo hi A l) (hg : Given n a b l) (hpos : ¬ 0 < sumF (g7 a b l) n) :
    Calls Try.prog 38 #[.int .i64 (n : Int), .slice A l.length c, .agg #[.int .i64 (a : Int), .int .i64 (b : Int)]] w fun e w' => e = .returned (.tuple #[.int .i64 0, .bool false]) ∧ Below w.heap.size w w' := by
  have HT := Lib.hid (Two.new w (.int .i64 (a : Int)) (.int .i64 (b : Int)) 25 (w.heap.size) rfl)
  have HB := Lib.hid ((Below.refl w.heap.size w).alloc (Nat.le_refl _) (.cells #[.int .i64 (a : Int), .int .i64 (b : Int)] 25))
  have HI := Lib.hid (hS.step HB.out)
  have HA := Lib.hid (fun W h => l7Answers_any (n : Int) (a : Int) (b : Int) A c lo hi l W h (by have := hg.l12; omega))
  rw [hg.yes] at HA
  have HD := Lib.hid (fun W h => l7After_any n a b A c lo hi l W h hg)
  have hz : sumF (g7 a b l) n = 0 := by omega
  rw [hz, show ((0 : Nat) : Int) = 0 from rfl] at HD
  clear hS
  go_enter Try.func38, Try.ntmps38
  go_wp2_with fail
  generalize w.alloc (.cells #[.int .i64 (a : Int), .int .i64 (b : Int)] 25) = w0 at HT HB HI ⊢
  have h0 := HT.out.c0
  have h1 := HT.out.c1
  with_reducible refine (HA.out _ HI.out).mono ?_
  rintro e w1 ⟨rfl, hb⟩
  replace HT := Lib.hid (HT.out.step hb)
  replace HB := Lib.hid (below_trans HB.out hb)
  replace HI := Lib.hid (HI.out.step hb)
  replace h0 := HT.out.c0
  replace h1 := HT.out.c1
  clear hb
  go_wp2_with fail
  with_reducible refine (HD.out _ HI.out).mono ?_
  rintro e w2 ⟨v, rfl, hrow, hb⟩
  replace HT := Lib.hid (HT.out.step hb)
  replace HB := Lib.hid (below_trans HB.out hb)
  replace HI := Lib.hid (HI.out.step hb)
  replace h0 := HT.out.c0
  replace h1 := HT.out.c1
  clear hb
  clear h0 h1
  go_wp2
  go_ret2
  exact ⟨rfl, HB.out⟩
set_option maxRecDepth 100000 in
set_option maxHeartbeats 4000000 in
theorem evenAfter_spec (n a b : Nat) (A : Option Addr) (c lo hi : Nat) (l : List (Int × Bool)) (w : World) (hS : AIns w lo hi A l) (hg : Given n a b l) (hpos : 0 < sumF (g7 a b l) n) :
    Calls Try.prog 38 #[.int .i64 (n : Int), .slice A l.length c, .agg #[.int .i64 (a : Int), .int .i64 (b : Int)]] w fun e w' => e = .returned (.tuple #[.int .i64 ((leastAt (farQ (g7 a b l) n) (2 ^ n - 1) : Nat) : Int), .bool true]) ∧ Below w.heap.size w w' := by
  have HT := Lib.hid (Two.new w (.int .i64 (a : Int)) (.int .i64 (b : Int)) 25 (w.heap.size) rfl)
  have HB := Lib.hid ((Below.refl w.heap.size w).alloc (Nat.le_refl _) (.cells #[.int .i64 (a : Int), .int .i64 (b : Int)] 25))
  have HI := Lib.hid (hS.step HB.out)
  have HA := Lib.hid (fun W h => l7Answers_any (n : Int) (a : Int) (b : Int) A c lo hi l W h (by have := hg.l12; omega))
  rw [hg.yes] at HA
  have HD := Lib.hid (fun W h => l7After_any n a b A c lo hi l W h hg)
  have hn12 := hg.n12
  have hn1 := hg.n1
  have hp12 := pow13 n (by omega)
  have hs := hg.sum n (Nat.le_refl _)
  have HL := Lib.hid (fun (W : World) (g cc : Nat) (q : Nat) (hq : (q : Int) ≤ 4095) (hI : Ins W g (g + 1) (some ⟨g, 0, none⟩) (zsN (g7 a b l) n)) => l7In_any (some ⟨g, 0, none⟩) cc g (g + 1) (g7 a b l) n (q : Int) W hI hg.n12 (fun i _ => hg.bd i) ⟨by omega, hq⟩)
  have HLE := Lib.hid (fun q : Nat => hg.in_le (q : Int))
  have HZ := Lib.hid (farQ_zero (g7 a b l) n hn12)
  have HPI : Hid ((2 : Int) ^ n = ((2 ^ n : Nat) : Int)) := Lib.hid (by rw [Int.natCast_pow]; rfl)
  have hpw : (2 : Int) ^ n ≤ 4096 := pow13' n hn12
  have HFQ : Hid (∀ q, farQ (g7 a b l) n q = far2 (sumT (g7 a b l) (hasN (q : Int)) n) (sumF (g7 a b l) n)) := Lib.hid (fun _ => rfl)
  generalize hSe : sumF (g7 a b l) n = S at HD HLE HZ HFQ hs hpos
  clear hSe
  have hS0 : ¬ S = 0 := by omega
  clear hS hg
  go_enter Try.func38, Try.ntmps38
  go_wp2_with fail
  generalize w.alloc (.cells #[.int .i64 (a : Int), .int .i64 (b : Int)] 25) = w0 at HT HB HI ⊢
  have h0 := HT.out.c0
  have h1 := HT.out.c1
  with_reducible refine (HA.out _ HI.out).mono ?_
  rintro e w1 ⟨rfl, hb⟩
  replace HT := Lib.hid (HT.out.step hb)
  replace HB := Lib.hid (below_trans HB.out hb)
  replace HI := Lib.hid (HI.out.step hb)
  replace h0 := HT.out.c0
  replace h1 := HT.out.c1
  clear hb
  go_wp2_with fail
  with_reducible refine (HD.out _ HI.out).mono ?_
  rintro e w2 ⟨v, rfl, hrow, hb⟩
  replace HT := Lib.hid (HT.out.step hb)
  replace HB := Lib.hid (below_trans HB.out hb)
  replace HI := Lib.hid (HI.out.step hb)
  replace h0 := HT.out.c0
  replace h1 := HT.out.c1
  clear hb
  obtain ⟨gr, cr, rfl, hgr, hIr⟩ := row_insN hrow (by omega)
  have HW := Lib.hid hIr
  clear hrow hIr
  clear h0 h1
  clear HI HT HA HD
  go_wp2_with fail
  generalize ((S : Int) == 0) = b0
  go_loopw [10, 11, 12] (fun ev ls i wr => ∃ (q : Nat), 1 ≤ q ∧ (q : Int) ≤ (2 : Int) ^ n ∧ i = .int .i64 (q : Int) ∧ ev = .int .i64 (((leastAt (farQ (g7 a b l) n) (q - 1)) : Nat) : Int) ∧ ls = .int .i64 ((farQ (g7 a b l) n (leastAt (farQ (g7 a b l) n) (q - 1)) : Nat) : Int) ∧ Hid (wr = w2)) (fun _ _ i _ => 2 ^ n - (intOf i).toNat)
  case atStart => exact ⟨1, by omega, by have := hp12.1; omega, rfl, rfl, by show _ = Value.int .i64 ((farQ (g7 a b l) n 0 : Nat) : Int); rw [HZ.out], Lib.hid rfl⟩
  case round =>
    obtain ⟨q, hq1, hqn, rfl, rfl, rfl, HE⟩ := hrel
    have he := HE.out
    subst he
    by_cases hlt : (q : Int) < (2 : Int) ^ n
    · have HLq := Lib.hid (HL.out wr gr cr q (by omega) HW.out)
      have hle := HLE.out q
      have HST := Lib.hid (leastAt_step (farQ (g7 a b l) n) q)
      have hfq := HFQ.out q
      generalize hfe : farQ (g7 a b l) n (leastAt (farQ (g7 a b l) n) (q - 1)) = lb at HST ⊢
      generalize hbe : (leastAt (farQ (g7 a b l) n) (q - 1)) = best at HST hfe ⊢
      clear hbe
      generalize hqe : farQ (g7 a b l) n q = fq at HST hfq
      generalize sumT (g7 a b l) (hasN (q : Int)) n = X at HLq hle hfq
      have HFE := Lib.hid hfe
      have HQE := Lib.hid hqe
      clear hfe hqe
      have HM : Hid (∀ W, Calls Try.prog 76 #[.int .i64 (2 * (X : Int) - (S : Int)), .int .i64 (-(2 * (X : Int) - (S : Int)))] W fun e w' => e = .returned (.int .i64 (fq : Int)) ∧ w' = W) := Lib.hid (fun W => by have h := l1Most_any (2 * (X : Int) - (S : Int)) (-(2 * (X : Int) - (S : Int))) W; rw [show (if -(2 * (X : Int) - (S : Int)) ≤ 2 * (X : Int) - (S : Int) then 2 * (X : Int) - (S : Int) else -(2 * (X : Int) - (S : Int))) = (fq : Int) by (unfold far2 at hfq; split <;> omega)] at h; exact h)
      have hfb : fq ≤ 12000000000000 := by unfold far2 at hfq; omega
      clear hfq
      by_cases hcv : fq < lb
      · have hst : leastAt (farQ (g7 a b l) n) q = q := by rw [HST.out, if_pos hcv]
        have HST2 := Lib.hid hst
        clear HST hst
        go_wp2_with (first | (go_at_call 73; (with_reducible refine (HLq.out).mono ?_); rintro e wX ⟨rfl, hw⟩; have hw := hw.symm; subst hw) | (go_at_call 76; (with_reducible refine (HM.out _).mono ?_); rintro e wX ⟨rfl, hw⟩; have hw := hw.symm; subst hw))
        go_roundw
        case rel =>
          exact ⟨q + 1, by omega, by omega, by go_num, by rw [Nat.add_sub_cancel, HST2.out], by rw [Nat.add_sub_cancel, HST2.out, HQE.out], (by first | exact Lib.hid rfl | exact Lib.hid trivial)⟩
        case measure => have := HPI.out; simp [intOf]; omega
      · have hst : leastAt (farQ (g7 a b l) n) q = best := by rw [HST.out, if_neg hcv]
        have HST2 := Lib.hid hst
        clear HST hst
        go_wp2_with (first | (go_at_call 73; (with_reducible refine (HLq.out).mono ?_); rintro e wX ⟨rfl, hw⟩; have hw := hw.symm; subst hw) | (go_at_call 76; (with_reducible refine (HM.out _).mono ?_); rintro e wX ⟨rfl, hw⟩; have hw := hw.symm; subst hw))
        go_roundw
        case rel =>
          exact ⟨q + 1, by omega, by omega, by go_num, by rw [Nat.add_sub_cancel, HST2.out], by rw [Nat.add_sub_cancel, HST2.out, HFE.out], (by first | exact Lib.hid rfl | exact Lib.hid trivial)⟩
        case measure => have := HPI.out; simp [intOf]; omega
    · have hq : q = 2 ^ n := by have := HPI.out; omega
      have HQE := Lib.hid hq
      clear hq
      go_wp2
      go_ret2
      rw [HQE.out]
      exact ⟨rfl, HB.out⟩
/-- What EvenAfter answers. -/
theorem evenAfter_both (n : Int) (l : List (Int × Bool)) (h : l.length ≤ 1048576) (a b : Int) : ∃ (r0 : Int) (r1 : Bool),
    (∀ (w : World) (A : Option Addr) (c lo hi : Nat), AIns w lo hi A l → Calls Try.prog 39 #[.int .i64 n, .slice A l.length c, .agg #[.int .i64 a, .int .i64 b]] w fun e w' => e = .returned (.tuple #[.int .i64 r0, .bool r1]) ∧ Below w.heap.size w w') ∧
    (∀ (w : World) (A : Option Addr) (c lo hi : Nat), AIns w lo hi A l → Calls Try.prog 38 #[.int .i64 n, .slice A l.length c, .agg #[.int .i64 a, .int .i64 b]] w fun e w' => e = .returned (.tuple #[.int .i64 r0, .bool r1]) ∧ Below w.heap.size w w') := by
  cases hg : givenB n l a b with
  | false => exact ⟨_, _, fun w A c lo hi hS => evenAfter_impl_no1 n a b A c lo hi l w hS h hg, fun w A c lo hi hS => evenAfter_spec_no1 n a b A c lo hi l w hS h hg⟩
  | true =>
    obtain ⟨N, x, y, rfl, rfl, rfl, hG⟩ := given_nats hg
    by_cases hpos : 0 < sumF (g7 x y l) N
    · exact ⟨_, _, fun w A c lo hi hS => evenAfter_impl N x y A c lo hi l w hS hG hpos, fun w A c lo hi hS => evenAfter_spec N x y A c lo hi l w hS hG hpos⟩
    · exact ⟨_, _, fun w A c lo hi hS => evenAfter_impl_no2 N x y A c lo hi l w hS hG hpos, fun w A c lo hi hS => evenAfter_spec_no2 N x y A c lo hi l w hS hG hpos⟩
end Go.Proofs.Ytlhpbhmldcinmaa
