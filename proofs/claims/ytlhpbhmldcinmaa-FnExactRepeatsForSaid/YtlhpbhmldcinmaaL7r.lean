/- RepeatsFor, of both sides. -/
import Derived.Test.YtlhpbhmldcinmaaL7h
namespace Go.Proofs.Ytlhpbhmldcinmaa
open Go.RowKit Go.ChangeShapes Go.WideShapes
set_option linter.unusedVariables false

/-- The first of n places at which P holds. -/
def fst7 (P : Nat → Bool) : Nat → Option Nat
  | 0 => none
  | n + 1 => match fst7 P n with
    | some i => some i
    | none => if P n then some n else none
theorem fst7_none {P : Nat → Bool} : ∀ n, (∀ i, i < n → P i = false) → fst7 P n = none
  | 0, _ => rfl
  | n + 1, h => by
    unfold fst7
    rw [fst7_none n fun i hi => h i (by omega)]
    simp [h n (by omega)]
theorem fst7_some {P : Nat → Bool} {j : Nat} (hP : P j = true) (h : ∀ i, i < j → P i = false) : ∀ n, j < n → fst7 P n = some j
  | 0, hj => by omega
  | n + 1, hj => by
    unfold fst7
    by_cases he : j = n
    · subst he
      rw [fst7_none j h]
      simp [hP]
    · rw [fst7_some hP h n (by omega)]
/-- Whether 2 j + 1 repeats do. -/
def okR (a b c d j : Nat) : Bool := decide (c * b ^ (2 * j + 1) ≤ sumF (wd a b (2 * j + 1)) ((2 * j + 1 + 1) / 2) * d)
def repO (a b c d : Nat) : Option Nat := fst7 (okR a b c d) 6
def repV (o : Option Nat) : Int := match o with
  | some j => 2 * (j : Int) + 1
  | none => 0
theorem before_next {P : Nat → Bool} {j : Nat} (h : ∀ i, i < j → P i = false) (hj : P j = false) : ∀ i, i < j + 1 → P i = false := fun i hi => by
  by_cases he : i = j
  · rw [he]; exact hj
  · exact h i (by omega)
theorem okR_cmp (a b c d j : Nat) (hb1 : 1 ≤ b) (hd1 : 1 ≤ d) : okR a b c d j = decide (0 ≤ cmpC (fr1 (sumF (wd a b (2 * j + 1)) ((2 * j + 1 + 1) / 2)) (b ^ (2 * j + 1))) (fr2 (sumF (wd a b (2 * j + 1)) ((2 * j + 1 + 1) / 2)) (b ^ (2 * j + 1))) (fr1 c d) (fr2 c d)) := by
  unfold okR
  rw [Bool.eq_iff_iff, decide_eq_true_iff, decide_eq_true_iff, cmpC_ge (pow_pos7 hb1 _) hd1]
set_option maxRecDepth 100000 in
set_option maxHeartbeats 16000000 in
theorem repeatsFor_impl (a b c d : Nat) (hb : b ≤ 10) (hb1 : 1 ≤ b) (ha : a ≤ b) (hd : d ≤ 10) (hd1 : 1 ≤ d) (hc : c ≤ d) (w : World) :
    Calls Try.prog 43 #[.agg #[.int .i64 (a : Int), .int .i64 (b : Int)], .agg #[.int .i64 (c : Int), .int .i64 (d : Int)]] w fun e w' => e = .returned (.tuple #[.int .i64 (repV (repO a b c d)), .bool (repO a b c d).isSome]) ∧ Below w.heap.size w w' := by
  have HT := Lib.hid (Two.new w (.int .i64 (a : Int)) (.int .i64 (b : Int)) 25 (w.heap.size) rfl)
  have HB := Lib.hid ((Below.refl w.heap.size w).alloc (Nat.le_refl _) (.cells #[.int .i64 (a : Int), .int .i64 (b : Int)] 25))
  have HU := Lib.hid (Two.new (w.alloc (.cells #[.int .i64 (a : Int), .int .i64 (b : Int)] 25)) (.int .i64 (c : Int)) (.int .i64 (d : Int)) 25 (w.heap.size + 1) (by simp))
  replace HT := Lib.hid (HT.out.step ((Below.refl _ _).alloc (Nat.le_refl _) (.cells #[.int .i64 (c : Int), .int .i64 (d : Int)] 25)))
  replace HB := Lib.hid (HB.out.alloc HB.out.size (.cells #[.int .i64 (c : Int), .int .i64 (d : Int)] 25))
  have HG := Lib.hid (fun W => isDoubt_impl (a : Int) (b : Int) W)
  rw [dOK_iff.2 ⟨⟨by omega, by omega⟩, by omega, by omega⟩] at HG
  have HH := Lib.hid (fun W => isDoubt_impl (c : Int) (d : Int) W)
  rw [dOK_iff.2 ⟨⟨by omega, by omega⟩, by omega, by omega⟩] at HH
  have HF := Lib.hid (fun W => fractionOf_any c d hd1 (by omega) (by omega) W)
  have HMj := Lib.hid (fun W j (hj : j < 6) => chanceMajority_impl a b (2 * j + 1) hb hb1 ha (by omega) (by omega) W)
  have HK := Lib.hid (okR_cmp a b c d)
  have HPW := Lib.hid (fun j (hj : j < 6) => (⟨pow_bd b (2 * j + 1) hb (by omega), wdS_bd a b (2 * j + 1) ((2 * j + 1 + 1) / 2) hb ha (by omega) (by omega)⟩ : b ^ (2 * j + 1) ≤ 1000000000000 ∧ sumF (wd a b (2 * j + 1)) ((2 * j + 1 + 1) / 2) ≤ 1000000000000))
  have hX : fr1 c d ≤ 10 := Nat.le_trans (fr1_le _ _) (by omega)
  have hY : fr2 c d ≤ 10 := Nat.le_trans (fr2_le _ _) hd
  have HO : Hid (fst7 (okR a b c d) 6 = repO a b c d) := Lib.hid rfl
  generalize repO a b c d = ans at HO ⊢
  generalize fr1 c d = X at HF HK hX
  generalize fr2 c d = Y at HF HK hY
  go_enter Try.func43, Try.ntmps43
  go_wp2_with fail
  generalize (w.alloc (.cells #[.int .i64 (a : Int), .int .i64 (b : Int)] 25)).alloc (.cells #[.int .i64 (c : Int), .int .i64 (d : Int)] 25) = w0 at HT HU HB ⊢
  have h0 := HT.out.c0
  have h1 := HT.out.c1
  have g0 := HU.out.c0
  have g1 := HU.out.c1
  refine (HG.out _).mono ?_
  rintro e w1 ⟨rfl, hb⟩
  replace HT := Lib.hid (HT.out.step hb)
  replace HU := Lib.hid (HU.out.step hb)
  replace HB := Lib.hid (below_trans HB.out hb)
  replace h0 := HT.out.c0
  replace h1 := HT.out.c1
  replace g0 := HU.out.c0
  replace g1 := HU.out.c1
  clear hb
  go_wp2_with fail
  refine (HH.out _).mono ?_
  rintro e w2 ⟨rfl, hb⟩
  replace HT := Lib.hid (HT.out.step hb)
  replace HU := Lib.hid (HU.out.step hb)
  replace HB := Lib.hid (below_trans HB.out hb)
  replace h0 := HT.out.c0
  replace h1 := HT.out.c1
  replace g0 := HU.out.c0
  replace g1 := HU.out.c1
  clear hb
  go_wp2_with fail
  refine (HF.out _).mono ?_
  rintro e w3 ⟨rfl, hb⟩
  replace HT := Lib.hid (HT.out.step hb)
  replace HU := Lib.hid (HU.out.step hb)
  replace HB := Lib.hid (below_trans HB.out hb)
  replace h0 := HT.out.c0
  replace h1 := HT.out.c1
  replace g0 := HU.out.c0
  replace g1 := HU.out.c1
  clear hb
  clear h0 h1 g0 g1
  clear HG HH HF
  clear HU
  go_wp2_with fail
  have hb2 := (Below.refl _ w3).alloc (Nat.le_refl _) (.cells #[.int .i64 (X : Int), .int .i64 (Y : Int)] 28)
  have HV := Lib.hid (Two.new w3 (.int .i64 (X : Int)) (.int .i64 (Y : Int)) 28 w3.heap.size rfl)
  replace HT := Lib.hid (HT.out.step hb2)
  replace HB := Lib.hid (below_trans HB.out hb2)
  clear hb2
  generalize w3.alloc (.cells #[.int .i64 (X : Int), .int .i64 (Y : Int)] 28) = w4 at HV HT HB ⊢
  generalize w3.heap.size = gv at HV ⊢
  go_loopw [7] (fun m wr => ∃ (j : Nat), j ≤ 6 ∧ m = .int .i64 (2 * (j : Int) + 1) ∧ Hid (∀ i, i < j → okR a b c d i = false) ∧ Hid (Two wr w.heap.size (.int .i64 (a : Int)) (.int .i64 (b : Int)) 25) ∧ Hid (Two wr gv (.int .i64 (X : Int)) (.int .i64 (Y : Int)) 28) ∧ Hid (Below w.heap.size w wr)) (fun m _ => 14 - (intOf m).toNat)
  case atStart => exact ⟨0, by omega, rfl, Lib.hid (fun i hi => by omega), HT, HV, HB⟩
  case round =>
    clear HT HV HB
    obtain ⟨j, hj, rfl, HN, HT, HV, HB⟩ := hrel
    by_cases hlt : j < 6
    · have HC := Lib.hid (fun W => HMj.out W j hlt)
      rw [show ((2 * j + 1 : Nat) : Int) = 2 * (j : Int) + 1 by omega] at HC
      have hbd := HPW.out j hlt
      have HE := Lib.hid (HK.out j hb1 hd1)
      have hP : fr1 (sumF (wd a b (2 * j + 1)) ((2 * j + 1 + 1) / 2)) (b ^ (2 * j + 1)) ≤ 1000000000000 := Nat.le_trans (fr1_le _ _) hbd.2
      have hQ : fr2 (sumF (wd a b (2 * j + 1)) ((2 * j + 1 + 1) / 2)) (b ^ (2 * j + 1)) ≤ 1000000000000 := Nat.le_trans (fr2_le _ _) hbd.1
      clear hbd
      generalize fr1 (sumF (wd a b (2 * j + 1)) ((2 * j + 1 + 1) / 2)) (b ^ (2 * j + 1)) = P at HC HE hP
      generalize fr2 (sumF (wd a b (2 * j + 1)) ((2 * j + 1 + 1) / 2)) (b ^ (2 * j + 1)) = Q at HC HE hQ
      have HD := Lib.hid (fun W => compareChances_any P Q X Y (by omega) (by omega) (by omega) (by omega) W)
      have hcb := cmpC_bd P Q X Y
      generalize cmpC P Q X Y = cv at HD HE hcb
      have h0 := HT.out.c0
      have h1 := HT.out.c1
      go_wp2_with fail
      refine (HC.out _).mono ?_
      rintro e w5 ⟨rfl, hb⟩
      replace HT := Lib.hid (HT.out.step hb)
      replace HV := Lib.hid (HV.out.step hb)
      replace HB := Lib.hid (below_trans HB.out hb)
      replace h0 := HT.out.c0
      replace h1 := HT.out.c1
      clear hb
      clear h0 h1
      have hb2 := (Below.refl _ w5).alloc (Nat.le_refl _) (.cells #[.int .i64 (P : Int), .int .i64 (Q : Int)] 28)
      have HVa := Lib.hid (HV.out.step hb2)
      have v0 := HVa.out.c0
      have v1 := HVa.out.c1
      go_wp2_with fail
      refine (HD.out _).mono ?_
      rintro e w6 ⟨rfl, hb⟩
      have hb3 := below_trans hb2 hb
      replace HT := Lib.hid (HT.out.step hb3)
      replace HV := Lib.hid (HV.out.step hb3)
      replace HB := Lib.hid (below_trans HB.out hb3)
      clear hb hb2 hb3 v0 v1 HVa HC HD
      by_cases hcv : 0 ≤ cv
      · have hok : okR a b c d j = true := by rw [HE.out]; exact decide_eq_true hcv
        have hans : ans = some j := by rw [← HO.out]; exact fst7_some hok HN.out 6 hlt
        clear HE hok HN HO
        go_wp2
        go_ret2
        rw [hans]
        exact ⟨rfl, HB.out⟩
      · have hok : okR a b c d j = false := by rw [HE.out]; exact decide_eq_false hcv
        have HN2 := Lib.hid (before_next HN.out hok)
        clear HE hok HN
        go_wp2
        go_roundw
        case rel => exact ⟨j + 1, by omega, by go_num, HN2, HT, HV, HB⟩
        case measure => simp [intOf]; omega
    · obtain rfl : j = 6 := by omega
      have hans : ans = none := by rw [← HO.out]; exact fst7_none 6 HN.out
      clear HO HN
      go_wp2
      go_ret2
      rw [hans]
      exact ⟨rfl, HB.out⟩
set_option maxRecDepth 100000 in
set_option maxHeartbeats 16000000 in
theorem repeatsFor_spec (a b c d : Nat) (hb : b ≤ 10) (hb1 : 1 ≤ b) (ha : a ≤ b) (hd : d ≤ 10) (hd1 : 1 ≤ d) (hc : c ≤ d) (w : World) :
    Calls Try.prog 42 #[.agg #[.int .i64 (a : Int), .int .i64 (b : Int)], .agg #[.int .i64 (c : Int), .int .i64 (d : Int)]] w fun e w' => e = .returned (.tuple #[.int .i64 (repV (repO a b c d)), .bool (repO a b c d).isSome]) ∧ Below w.heap.size w w' := by
  have HT := Lib.hid (Two.new w (.int .i64 (a : Int)) (.int .i64 (b : Int)) 25 (w.heap.size) rfl)
  have HB := Lib.hid ((Below.refl w.heap.size w).alloc (Nat.le_refl _) (.cells #[.int .i64 (a : Int), .int .i64 (b : Int)] 25))
  have HU := Lib.hid (Two.new (w.alloc (.cells #[.int .i64 (a : Int), .int .i64 (b : Int)] 25)) (.int .i64 (c : Int)) (.int .i64 (d : Int)) 25 (w.heap.size + 1) (by simp))
  replace HT := Lib.hid (HT.out.step ((Below.refl _ _).alloc (Nat.le_refl _) (.cells #[.int .i64 (c : Int), .int .i64 (d : Int)] 25)))
  replace HB := Lib.hid (HB.out.alloc HB.out.size (.cells #[.int .i64 (c : Int), .int .i64 (d : Int)] 25))
  have HG := Lib.hid (fun W => l7Good_any (a : Int) (b : Int) W)
  rw [dOK_iff.2 ⟨⟨by omega, by omega⟩, by omega, by omega⟩] at HG
  have HH := Lib.hid (fun W => l7Good_any (c : Int) (d : Int) W)
  rw [dOK_iff.2 ⟨⟨by omega, by omega⟩, by omega, by omega⟩] at HH
  have HMj := Lib.hid (fun W j (hj : j < 6) => l7Majority_any a b (2 * j + 1) hb ha (by omega) (by omega) W)
  have HPj := Lib.hid (fun W j (hj : j < 6) => l7Power_b b (2 * j + 1) hb (by omega) W)
  have HPW := Lib.hid (fun j (hj : j < 6) => (⟨pow_bd b (2 * j + 1) hb (by omega), wdS_bd a b (2 * j + 1) ((2 * j + 1 + 1) / 2) hb ha (by omega) (by omega)⟩ : b ^ (2 * j + 1) ≤ 1000000000000 ∧ sumF (wd a b (2 * j + 1)) ((2 * j + 1 + 1) / 2) ≤ 1000000000000))
  have HO : Hid (fst7 (okR a b c d) 6 = repO a b c d) := Lib.hid rfl
  generalize repO a b c d = ans at HO ⊢
  go_enter Try.func42, Try.ntmps42
  go_wp2_with fail
  generalize (w.alloc (.cells #[.int .i64 (a : Int), .int .i64 (b : Int)] 25)).alloc (.cells #[.int .i64 (c : Int), .int .i64 (d : Int)] 25) = w0 at HT HU HB ⊢
  have h0 := HT.out.c0
  have h1 := HT.out.c1
  have g0 := HU.out.c0
  have g1 := HU.out.c1
  refine (HG.out _).mono ?_
  rintro e w1 ⟨rfl, hb⟩
  replace HT := Lib.hid (HT.out.step hb)
  replace HU := Lib.hid (HU.out.step hb)
  replace HB := Lib.hid (below_trans HB.out hb)
  replace h0 := HT.out.c0
  replace h1 := HT.out.c1
  replace g0 := HU.out.c0
  replace g1 := HU.out.c1
  clear hb
  go_wp2_with fail
  refine (HH.out _).mono ?_
  rintro e w2 ⟨rfl, hb⟩
  replace HT := Lib.hid (HT.out.step hb)
  replace HU := Lib.hid (HU.out.step hb)
  replace HB := Lib.hid (below_trans HB.out hb)
  replace h0 := HT.out.c0
  replace h1 := HT.out.c1
  replace g0 := HU.out.c0
  replace g1 := HU.out.c1
  clear hb
  clear h0 h1 g0 g1
  clear HG HH
  go_wp2_with fail
  go_loopw [6] (fun m wr => ∃ (j : Nat), j ≤ 6 ∧ m = .int .i64 (2 * (j : Int) + 1) ∧ Hid (∀ i, i < j → okR a b c d i = false) ∧ Hid (Two wr w.heap.size (.int .i64 (a : Int)) (.int .i64 (b : Int)) 25) ∧ Hid (Two wr (w.heap.size + 1) (.int .i64 (c : Int)) (.int .i64 (d : Int)) 25) ∧ Hid (Below w.heap.size w wr)) (fun m _ => 14 - (intOf m).toNat)
  case atStart => exact ⟨0, by omega, rfl, Lib.hid (fun i hi => by omega), HT, HU, HB⟩
  case round =>
    clear HT HU HB
    obtain ⟨j, hj, rfl, HN, HT, HU, HB⟩ := hrel
    by_cases hlt : j < 6
    · have HC := Lib.hid (fun W => HMj.out W j hlt)
      have HD := Lib.hid (fun W => HPj.out W j hlt)
      rw [show ((2 * j + 1 : Nat) : Int) = 2 * (j : Int) + 1 by omega] at HC HD
      have hbd := HPW.out j hlt
      have HE : Hid (okR a b c d j = decide (c * b ^ (2 * j + 1) ≤ sumF (wd a b (2 * j + 1)) ((2 * j + 1 + 1) / 2) * d)) := Lib.hid rfl
      generalize b ^ (2 * j + 1) = P at HD HE hbd
      generalize sumF (wd a b (2 * j + 1)) ((2 * j + 1 + 1) / 2) = S at HC HE hbd
      have hx1 : S * d ≤ 1000000000000 * 10 := Nat.mul_le_mul hbd.2 hd
      have hx2 : c * P ≤ 10 * 1000000000000 := Nat.mul_le_mul (by omega) hbd.1
      have hw1 : IntKind.i64.wrap ((S : Int) * (d : Int)) = ((S * d : Nat) : Int) := by rw [← Int.natCast_mul]; exact IntWalk.i64_in _ (by omega)
      have hw2 : IntKind.i64.wrap ((c : Int) * (P : Int)) = ((c * P : Nat) : Int) := by rw [← Int.natCast_mul]; exact IntWalk.i64_in _ (by omega)
      generalize S * d = u at HE hw1 hx1
      generalize c * P = v at HE hw2 hx2
      clear hbd
      go_wp2_with fail
      go_region_held3 (fun w' => w'.cell? ⟨w.heap.size, 0, none⟩ = some (.int .i64 (a : Int)) ∧ w'.cell? ⟨w.heap.size, 1, none⟩ = some (.int .i64 (b : Int)) ∧ w'.cell? ⟨w.heap.size + 1, 0, none⟩ = some (.int .i64 (c : Int)) ∧ w'.cell? ⟨w.heap.size + 1, 1, none⟩ = some (.int .i64 (d : Int)))
        (first
         | exact ⟨(HT.out.step (Below.refl _ wr).drew).c0, (HT.out.step (Below.refl _ wr).drew).c1, (HU.out.step (Below.refl _ wr).drew).c0, (HU.out.step (Below.refl _ wr).drew).c1⟩
         | exact ⟨(HT_1.out).c0, (HT_1.out).c1, (HU_1.out).c0, (HU_1.out).c1⟩
         | exact ⟨(HT_2.out).c0, (HT_2.out).c1, (HU_2.out).c0, (HU_2.out).c1⟩)
        (first
         | (go_at_call 55; (with_reducible refine (HD.out v1).mono ?_); rintro e v2 ⟨rfl, hb⟩; have HZ2 := Lib.hid (below_trans HZ1.out hb); have HT_2 := Lib.hid (HT.out.step HZ2.out); have HU_2 := Lib.hid (HU.out.step HZ2.out); have HB_2 := Lib.hid (below_trans HB.out HZ2.out); clear hb)
         | (go_at_call 78; (with_reducible refine (HC.out wr.drew).mono ?_); rintro e v1 ⟨rfl, hb⟩; have HZ1 := Lib.hid (below_trans (Below.refl _ wr).drew hb); have HT_1 := Lib.hid (HT.out.step HZ1.out); have HU_1 := Lib.hid (HU.out.step HZ1.out); have HB_1 := Lib.hid (below_trans HB.out HZ1.out); clear hb))
      all_goals
        clear HT HU HB HC HD
        by_cases hcv : v ≤ u
        · have hok : okR a b c d j = true := by rw [HE.out]; exact decide_eq_true hcv
          have hans : ans = some j := by rw [← HO.out]; exact fst7_some hok HN.out 6 hlt
          clear HE hok HN HO
          go_wp2
          go_ret2
          rw [hans]
          exact ⟨rfl, HB_2.out⟩
        · have hok : okR a b c d j = false := by rw [HE.out]; exact decide_eq_false hcv
          have HN2 := Lib.hid (before_next HN.out hok)
          clear HE hok HN
          go_wp2
          go_roundw
          case rel => exact ⟨j + 1, by omega, by go_num, HN2, HT_2, HU_2, HB_2⟩
          case measure => simp [intOf]; omega
    · obtain rfl : j = 6 := by omega
      have hans : ans = none := by rw [← HO.out]; exact fst7_none 6 HN.out
      clear HO HN
      go_wp2
      go_ret2
      rw [hans]
      exact ⟨rfl, HB.out⟩
set_option maxRecDepth 100000 in
set_option maxHeartbeats 8000000 in
theorem repeatsFor_impl_no (a b c d : Int) (w : World) (h : (dOK a b && dOK c d) = false) :
    Calls Try.prog 43 #[.agg #[.int .i64 a, .int .i64 b], .agg #[.int .i64 c, .int .i64 d]] w fun e w' => e = .returned (.tuple #[.int .i64 0, .bool false]) ∧ Below w.heap.size w w' := by
  have HT := Lib.hid (Two.new w (.int .i64 a) (.int .i64 b) 25 (w.heap.size) rfl)
  have HB := Lib.hid ((Below.refl w.heap.size w).alloc (Nat.le_refl _) (.cells #[.int .i64 a, .int .i64 b] 25))
  have HU := Lib.hid (Two.new (w.alloc (.cells #[.int .i64 a, .int .i64 b] 25)) (.int .i64 c) (.int .i64 d) 25 (w.heap.size + 1) (by simp))
  replace HT := Lib.hid (HT.out.step ((Below.refl _ _).alloc (Nat.le_refl _) (.cells #[.int .i64 c, .int .i64 d] 25)))
  replace HB := Lib.hid (HB.out.alloc HB.out.size (.cells #[.int .i64 c, .int .i64 d] 25))
  have HG := Lib.hid (fun W => isDoubt_impl a b W)
  have HH := Lib.hid (fun W => isDoubt_impl c d W)
  cases hx : dOK a b with
  | false =>
    rw [hx] at HG
    clear hx h HH
    go_enter Try.func43, Try.ntmps43
    go_wp2_with fail
    generalize (w.alloc (.cells #[.int .i64 a, .int .i64 b] 25)).alloc (.cells #[.int .i64 c, .int .i64 d] 25) = w0 at HT HU HB ⊢
    have h0 := HT.out.c0
    have h1 := HT.out.c1
    have g0 := HU.out.c0
    have g1 := HU.out.c1
    refine (HG.out _).mono ?_
    rintro e w1 ⟨rfl, hb⟩
    replace HT := Lib.hid (HT.out.step hb)
    replace HU := Lib.hid (HU.out.step hb)
    replace HB := Lib.hid (below_trans HB.out hb)
    replace h0 := HT.out.c0
    replace h1 := HT.out.c1
    replace g0 := HU.out.c0
    replace g1 := HU.out.c1
    clear hb
    clear h0 h1 g0 g1
    clear HG
    go_wp2
    go_ret2
    exact ⟨rfl, HB.out⟩
  | true =>
    rw [hx] at HG
    rw [show dOK c d = false by simpa [hx] using h] at HH
    clear hx h
    go_enter Try.func43, Try.ntmps43
    go_wp2_with fail
    generalize (w.alloc (.cells #[.int .i64 a, .int .i64 b] 25)).alloc (.cells #[.int .i64 c, .int .i64 d] 25) = w0 at HT HU HB ⊢
    have h0 := HT.out.c0
    have h1 := HT.out.c1
    have g0 := HU.out.c0
    have g1 := HU.out.c1
    refine (HG.out _).mono ?_
    rintro e w1 ⟨rfl, hb⟩
    replace HT := Lib.hid (HT.out.step hb)
    replace HU := Lib.hid (HU.out.step hb)
    replace HB := Lib.hid (below_trans HB.out hb)
    replace h0 := HT.out.c0
    replace h1 := HT.out.c1
    replace g0 := HU.out.c0
    replace g1 := HU.out.c1
    clear hb
    go_wp2_with fail
    refine (HH.out _).mono ?_
    rintro e w2 ⟨rfl, hb⟩
    replace HT := Lib.hid (HT.out.step hb)
    replace HU := Lib.hid (HU.out.step hb)
    replace HB := Lib.hid (below_trans HB.out hb)
    replace h0 := HT.out.c0
    replace h1 := HT.out.c1
    replace g0 := HU.out.c0
    replace g1 := HU.out.c1
    clear hb
    clear h0 h1 g0 g1
    clear HG HH
    go_wp2
    go_ret2
    exact ⟨rfl, HB.out⟩
set_option maxRecDepth 100000 in
set_option maxHeartbeats 8000000 in
theorem repeatsFor_spec_no (a b c d : Int) (w : World) (h : (dOK a b && dOK c d) = false) :
    Calls Try.prog 42 #[.agg #[.int .i64 a, .int .i64 b], .agg #[.int .i64 c, .int .i64 d]] w fun e w' => e = .returned (.tuple #[.int .i64 0, .bool false]) ∧ Below w.heap.size w w' := by
  have HT := Lib.hid (Two.new w (.int .i64 a) (.int .i64 b) 25 (w.heap.size) rfl)
  have HB := Lib.hid ((Below.refl w.heap.size w).alloc (Nat.le_refl _) (.cells #[.int .i64 a, .int .i64 b] 25))
  have HU := Lib.hid (Two.new (w.alloc (.cells #[.int .i64 a, .int .i64 b] 25)) (.int .i64 c) (.int .i64 d) 25 (w.heap.size + 1) (by simp))
  replace HT := Lib.hid (HT.out.step ((Below.refl _ _).alloc (Nat.le_refl _) (.cells #[.int .i64 c, .int .i64 d] 25)))
  replace HB := Lib.hid (HB.out.alloc HB.out.size (.cells #[.int .i64 c, .int .i64 d] 25))
  have HG := Lib.hid (fun W => l7Good_any a b W)
  have HH := Lib.hid (fun W => l7Good_any c d W)
  cases hx : dOK a b with
  | false =>
    rw [hx] at HG
    clear hx h HH
    go_enter Try.func42, Try.ntmps42
    go_wp2_with fail
    generalize (w.alloc (.cells #[.int .i64 a, .int .i64 b] 25)).alloc (.cells #[.int .i64 c, .int .i64 d] 25) = w0 at HT HU HB ⊢
    have h0 := HT.out.c0
    have h1 := HT.out.c1
    have g0 := HU.out.c0
    have g1 := HU.out.c1
    refine (HG.out _).mono ?_
    rintro e w1 ⟨rfl, hb⟩
    replace HT := Lib.hid (HT.out.step hb)
    replace HU := Lib.hid (HU.out.step hb)
    replace HB := Lib.hid (below_trans HB.out hb)
    replace h0 := HT.out.c0
    replace h1 := HT.out.c1
    replace g0 := HU.out.c0
    replace g1 := HU.out.c1
    clear hb
    clear h0 h1 g0 g1
    clear HG
    go_wp2
    go_ret2
    exact ⟨rfl, HB.out⟩
  | true =>
    rw [hx] at HG
    rw [show dOK c d = false by simpa [hx] using h] at HH
    clear hx h
    go_enter Try.func42, Try.ntmps42
    go_wp2_with fail
    generalize (w.alloc (.cells #[.int .i64 a, .int .i64 b] 25)).alloc (.cells #[.int .i64 c, .int .i64 d] 25) = w0 at HT HU HB ⊢
    have h0 := HT.out.c0
    have h1 := HT.out.c1
    have g0 := HU.out.c0
    have g1 := HU.out.c1
    refine (HG.out _).mono ?_
    rintro e w1 ⟨rfl, hb⟩
    replace HT := Lib.hid (HT.out.step hb)
    replace HU := Lib.hid (HU.out.step hb)
    replace HB := Lib.hid (below_trans HB.out hb)
    replace h0 := HT.out.c0
    replace h1 := HT.out.c1
    replace g0 := HU.out.c0
    replace g1 := HU.out.c1
    clear hb
    go_wp2_with fail
    refine (HH.out _).mono ?_
    rintro e w2 ⟨rfl, hb⟩
    replace HT := Lib.hid (HT.out.step hb)
    replace HU := Lib.hid (HU.out.step hb)
    replace HB := Lib.hid (below_trans HB.out hb)
    replace h0 := HT.out.c0
    replace h1 := HT.out.c1
    replace g0 := HU.out.c0
    replace g1 := HU.out.c1
    clear hb
    clear h0 h1 g0 g1
    clear HG HH
    go_wp2
    go_ret2
    exact ⟨rfl, HB.out⟩
theorem repeatsFor_both (a b c d : Int) : ∃ (r0 : Int) (r1 : Bool),
    (∀ (w : World), Calls Try.prog 43 #[.agg #[.int .i64 a, .int .i64 b], .agg #[.int .i64 c, .int .i64 d]] w fun e w' => e = .returned (.tuple #[.int .i64 r0, .bool r1]) ∧ Below w.heap.size w w') ∧
    (∀ (w : World), Calls Try.prog 42 #[.agg #[.int .i64 a, .int .i64 b], .agg #[.int .i64 c, .int .i64 d]] w fun e w' => e = .returned (.tuple #[.int .i64 r0, .bool r1]) ∧ Below w.heap.size w w') := by
  cases h : (dOK a b && dOK c d) with
  | true =>
    rw [Bool.and_eq_true] at h
    obtain ⟨x, y, rfl, rfl, h1, h2, h3⟩ := dOK_nats h.1
    obtain ⟨u, v, rfl, rfl, h4, h5, h6⟩ := dOK_nats h.2
    exact ⟨_, _, fun w => repeatsFor_impl x y u v h2 h1 h3 h5 h4 h6 w, fun w => repeatsFor_spec x y u v h2 h1 h3 h5 h4 h6 w⟩
  | false => exact ⟨_, _, fun w => repeatsFor_impl_no a b c d w h, fun w => repeatsFor_spec_no a b c d w h⟩
end Go.Proofs.Ytlhpbhmldcinmaa
