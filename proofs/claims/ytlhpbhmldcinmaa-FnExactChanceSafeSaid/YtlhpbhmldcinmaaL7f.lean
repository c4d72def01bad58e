/- Chances of false answers: ChanceFalse, ChanceWithin, MeanFalse, ChanceMajority, of both sides. -/
import Derived.Test.YtlhpbhmldcinmaaL7e
namespace Go.Proofs.Ytlhpbhmldcinmaa
open Go.RowKit Go.ChangeShapes Go.WideShapes
set_option linter.unusedVariables false

theorem hasN_pow {k i : Nat} (hk : k ≤ 12) (hi : i ≤ 12) : hasN (2 ^ k) i = if i = k then 1 else 0 := by
  have : ∀ k, k ≤ 12 → ∀ i, i ≤ 12 → hasN (2 ^ k) i = if i = k then 1 else 0 := by decide +kernel
  exact this k hk i hi
theorem hasN_less {j i : Nat} (hj : j ≤ 13) (hi : i ≤ 12) : hasN (2 ^ j - 1) i = if i < j then 1 else 0 := by
  have : ∀ j, j ≤ 13 → ∀ i, i ≤ 12 → hasN (2 ^ j - 1) i = if i < j then 1 else 0 := by decide +kernel
  exact this j hj i hi
theorem sum_pow (f : Nat → Nat) {k n : Nat} (hk : k < n) (hn : n ≤ 13) : sumT f (hasN (2 ^ k)) n = f k := by
  rw [sumT_congr (T' := fun i => if i = k then 1 else 0) n fun i hi => hasN_pow (by omega) (by omega), sumT_one f k n hk]
theorem sum_less (f : Nat → Nat) {j n : Nat} (hj : j ≤ n) (hn : n ≤ 13) : sumT f (hasN (2 ^ j - 1)) n = sumF f j := by
  rw [sumT_congr (T' := fun i => if i < j then 1 else 0) n fun i hi => hasN_less (by omega) (by omega), sumT_lt f j n, Nat.min_eq_left hj]
theorem pow13 (k : Nat) (h : k ≤ 13) : 1 ≤ (2 : Int) ^ k ∧ (2 : Int) ^ k ≤ 8192 := by
  have : ∀ k, k ≤ 13 → 1 ≤ (2 : Int) ^ k ∧ (2 : Int) ^ k ≤ 8192 := by decide
  exact this k h
theorem lessThan13_any (k : Nat) (w : World) (hk : k ≤ 13) :
    Calls Try.prog 60 #[.int .i64 (k : Int)] w fun e w' => e = .returned (.int .i64 ((2 : Int) ^ k - 1)) ∧ w' = w := by
  have : ∀ k : Nat, k ≤ 13 → ∀ w : World, Calls Try.prog 60 #[.int .i64 (k : Int)] w fun e w' => e = .returned (.int .i64 ((2 : Int) ^ k - 1)) ∧ w' = w := by
    intro k hk w
    have hp := pow13 k hk
    have HP : Hid (IntKind.i64.wrap ((2 : Int) ^ k) = 2 ^ k) := Lib.hid (IntWalk.i64_in _ (by omega))
    go_enter Try.func60, Try.ntmps60
    go_wp2
    go_ret
    exact ⟨by first | rfl | rw [HP.out], rfl⟩
  exact this k hk w

theorem fewerThanHalf_any (m : Nat) (w : World) (hm : m ≤ 24) :
    Calls Try.prog 79 #[.int .i64 (m : Int)] w fun e w' => e = .returned (.int .i64 ((2 : Int) ^ ((m + 1) / 2) - 1)) ∧ w' = w := by
  have HC := Lib.hid (fun W => lessThan13_any ((m + 1) / 2) W (by omega))
  rw [show (((m + 1) / 2 : Nat) : Int) = ((m : Int) + 1) / 2 by omega] at HC
  generalize (2 : Int) ^ ((m + 1) / 2) - 1 = z at HC ⊢
  go_enter Try.func79, Try.ntmps79
  go_wp2_with (go_at_call 60; refine (HC.out _).mono ?_; rintro e w1 ⟨rfl, rfl⟩)
  go_ret
  exact ⟨rfl, rfl⟩
theorem wd_pos (a b m : Nat) (hb : b ≤ 10) (hb1 : 1 ≤ b) (ha : a ≤ b) (hm : m ≤ 12) : 1 ≤ sumF (wd a b m) (m + 1) := by
  rw [wd_all a b m hb ha hm]; exact pow_pos7 hb1 m
set_option maxRecDepth 100000 in
set_option maxHeartbeats 8000000 in
theorem chanceFalse_impl (a b m k : Nat) (hb : b ≤ 10) (hb1 : 1 ≤ b) (ha : a ≤ b) (hm : m ≤ 12) (hk : k ≤ m) (w : World) :
    Calls Try.prog 19 #[.int .i64 (m : Int), .int .i64 (k : Int), .agg #[.int .i64 (a : Int), .int .i64 (b : Int)]] w fun e w' => e = .returned (.tuple #[.agg #[.int .i64 ((fr1 (wd a b m k) (b ^ m) : Nat) : Int), .int .i64 ((fr2 (wd a b m k) (b ^ m) : Nat) : Int)], .bool true]) ∧ Below w.heap.size w w' := by
  have HT := Lib.hid (Two.new w (.int .i64 (a : Int)) (.int .i64 (b : Int)) 25 (w.heap.size) rfl)
  have HB := Lib.hid ((Below.refl w.heap.size w).alloc (Nat.le_refl _) (.cells #[.int .i64 (a : Int), .int .i64 (b : Int)] 25))
  have HR := Lib.hid (Two.new (w.alloc (.cells #[.int .i64 (a : Int), .int .i64 (b : Int)] 25)) (.int .i64 0) (.int .i64 0) 28 (w.heap.size + 1) (by simp))
  replace HT := Lib.hid (HT.out.step ((Below.refl _ _).alloc (Nat.le_refl _) (.cells #[.int .i64 0, .int .i64 0] 28)))
  replace HB := Lib.hid (HB.out.alloc HB.out.size (.cells #[.int .i64 0, .int .i64 0] 28))
  have HG := Lib.hid (fun W => isDoubt_impl (a : Int) (b : Int) W)
  rw [dOK_iff.2 ⟨⟨by omega, by omega⟩, by omega, by omega⟩] at HG
  have HM := Lib.hid (fun W => isDrawnPart_any (m : Int) (k : Int) W)
  rw [mkOK_iff.2 ⟨⟨by omega, by omega⟩, by omega, by omega⟩] at HM
  have HDr := Lib.hid (fun W => drawsByFalse_any a b m hb ha hm W)
  have HCo := Lib.hid (fun (W : World) (g : Nat) (hI : Ins W g (g + 1) (some ⟨g, 0, none⟩) (zsN (wd a b m) (m + 1))) => chanceOf_any (some ⟨g, 0, none⟩) (m + 1) g (g + 1) (wd a b m) (m + 1) (2 ^ k) W hI (by omega) (fun i hi => wd_le a b m i hb ha hm (by omega)) (wd_pos a b m hb hb1 ha hm))
  rw [sum_pow (wd a b m) (k := k) (n := m + 1) (by omega) (by omega), wd_all a b m hb ha hm] at HCo
  have hp2 := pow13 k (by omega)
  have hwp : IntKind.i64.wrap ((2 : Int) ^ k) = 2 ^ k := IntWalk.i64_in _ (by omega)
  generalize hX : fr1 (wd a b m k) (b ^ m) = X at HCo ⊢
  generalize hY : fr2 (wd a b m k) (b ^ m) = Y at HCo ⊢
  clear hX hY
  have HC2 : Hid (∀ (W : World) (g : Nat) (x : Int), Ins W g (g + 1) (some ⟨g, 0, none⟩) (zsN (wd a b m) (m + 1)) → x = 2 ^ k → Calls Try.prog 57 #[.slice (some ⟨g, 0, none⟩) (m + 1) (m + 1), .int .i64 x] W fun e w' => e = .returned (.agg #[.int .i64 (X : Int), .int .i64 (Y : Int)]) ∧ Below W.heap.size W w') := Lib.hid (fun W g x hI hx => by rw [hx]; exact HCo.out W g hI)
  clear HCo
  go_enter Try.func19, Try.ntmps19
  go_wp2_with fail
  generalize (w.alloc (.cells #[.int .i64 (a : Int), .int .i64 (b : Int)] 25)).alloc (.cells #[.int .i64 0, .int .i64 0] 28) = w0 at HT HR HB ⊢
  have h0 := HT.out.c0
  have h1 := HT.out.c1
  with_reducible refine (HG.out _).mono ?_
  rintro e w1 ⟨rfl, hb⟩
  replace HT := Lib.hid (HT.out.step hb)
  replace HR := Lib.hid (HR.out.step hb)
  replace HB := Lib.hid (below_trans HB.out hb)
  replace h0 := HT.out.c0
  replace h1 := HT.out.c1
  clear hb
  clear HG
  go_wp2_with (first | (go_at_call 56; (with_reducible refine (HM.out _).mono ?_); rintro e wX ⟨rfl, hw⟩; have hw := hw.symm; subst hw))
  clear h0 h1
  go_wp2_with fail
  go_region_held3 (fun w' => w'.cell? ⟨w.heap.size, 0, none⟩ = some (.int .i64 (a : Int)) ∧ w'.cell? ⟨w.heap.size, 1, none⟩ = some (.int .i64 (b : Int)))
    (first
     | exact ⟨(HT.out.step (Below.refl _ w1).drew).c0, (HT.out.step (Below.refl _ w1).drew).c1⟩
     | exact ⟨(HT_1.out).c0, (HT_1.out).c1⟩
     | exact ⟨(HT_2.out).c0, (HT_2.out).c1⟩
     | exact ⟨((HT_2.out).within (within_set (within_set (Within.refl (w.heap.size + 1) (w.heap.size + 1 + 1) v2) (Nat.le_refl _) (Nat.lt_succ_self _) 0 _) (Nat.le_refl _) (Nat.lt_succ_self _) 1 _) (.inl (by omega))).c0, ((HT_2.out).within (within_set (within_set (Within.refl (w.heap.size + 1) (w.heap.size + 1 + 1) v2) (Nat.le_refl _) (Nat.lt_succ_self _) 0 _) (Nat.le_refl _) (Nat.lt_succ_self _) 1 _) (.inl (by omega))).c1⟩)
    (first
     | (go_at_call 57; (with_reducible refine (HC2.out v1 g _ HI_1.out (by first | rfl | exact hwp)).mono ?_); rintro e v2 ⟨rfl, hb⟩; have HZ2 := Lib.hid (below_trans HZ1.out hb); have HT_2 := Lib.hid (HT.out.step HZ2.out); have HR_2 := Lib.hid (HR.out.step HZ2.out); have HB_2 := Lib.hid (below_trans HB.out HZ2.out); have q0 := HR_2.out.c0; have q1 := HR_2.out.c1; have q2 := HR_2.out.f0; have q3 := HR_2.out.f1; clear hb)
     | (go_at_call 58; (with_reducible refine (HDr.out w1.drew).mono ?_); rintro e v1 ⟨g, rfl, hg, hrow, hb⟩; have HZ1 := Lib.hid (below_trans (Below.refl _ w1).drew hb); have HT_1 := Lib.hid (HT.out.step HZ1.out); have HR_1 := Lib.hid (HR.out.step HZ1.out); have HB_1 := Lib.hid (below_trans HB.out HZ1.out); have HI_1 := Lib.hid (row_ins70 hrow); clear hrow; clear hb))
  all_goals
    go_wp2
    obtain ⟨hs, hw⟩ := stored2 HR_2.out.row (.int .i64 (X : Int)) (.int .i64 (Y : Int))
    generalize ((v2.setCell ⟨w.heap.size + 1, 0, none⟩ (.int .i64 (X : Int))).setCell ⟨w.heap.size + 1, 1, none⟩ (.int .i64 (Y : Int))) = wf at hs hw ⊢
    have e0 := two0 hs
    have e1 := two1 hs
    refine bodyPost_ret (v := .tuple #[.agg #[.int .i64 (X : Int), .int .i64 (Y : Int)], .bool true]) (by simp [results, go_sem, e0, e1]) rfl ?_
    exact ⟨rfl, HB_2.out.trans (hw.below (Nat.le_succ _) HB_2.out.size)⟩
set_option maxRecDepth 100000 in
set_option maxHeartbeats 8000000 in
theorem chanceWithin_impl (a b m k : Nat) (hb : b ≤ 10) (hb1 : 1 ≤ b) (ha : a ≤ b) (hm : m ≤ 12) (hk : k ≤ m) (w : World) :
    Calls Try.prog 22 #[.int .i64 (m : Int), .int .i64 (k : Int), .agg #[.int .i64 (a : Int), .int .i64 (b : Int)]] w fun e w' => e = .returned (.tuple #[.agg #[.int .i64 ((fr1 (sumF (wd a b m) (k + 1)) (b ^ m) : Nat) : Int), .int .i64 ((fr2 (sumF (wd a b m) (k + 1)) (b ^ m) : Nat) : Int)], .bool true]) ∧ Below w.heap.size w w' := by
  have HT := Lib.hid (Two.new w (.int .i64 (a : Int)) (.int .i64 (b : Int)) 25 (w.heap.size) rfl)
  have HB := Lib.hid ((Below.refl w.heap.size w).alloc (Nat.le_refl _) (.cells #[.int .i64 (a : Int), .int .i64 (b : Int)] 25))
  have HR := Lib.hid (Two.new (w.alloc (.cells #[.int .i64 (a : Int), .int .i64 (b : Int)] 25)) (.int .i64 0) (.int .i64 0) 28 (w.heap.size + 1) (by simp))
  replace HT := Lib.hid (HT.out.step ((Below.refl _ _).alloc (Nat.le_refl _) (.cells #[.int .i64 0, .int .i64 0] 28)))
  replace HB := Lib.hid (HB.out.alloc HB.out.size (.cells #[.int .i64 0, .int .i64 0] 28))
  have HG := Lib.hid (fun W => isDoubt_impl (a : Int) (b : Int) W)
  rw [dOK_iff.2 ⟨⟨by omega, by omega⟩, by omega, by omega⟩] at HG
  have HM := Lib.hid (fun W => isDrawnPart_any (m : Int) (k : Int) W)
  rw [mkOK_iff.2 ⟨⟨by omega, by omega⟩, by omega, by omega⟩] at HM
  have HDr := Lib.hid (fun W => drawsByFalse_any a b m hb ha hm W)
  have HCo := Lib.hid (fun (W : World) (g : Nat) (hI : Ins W g (g + 1) (some ⟨g, 0, none⟩) (zsN (wd a b m) (m + 1))) => chanceOf_any (some ⟨g, 0, none⟩) (m + 1) g (g + 1) (wd a b m) (m + 1) (2 ^ (k + 1) - 1) W hI (by omega) (fun i hi => wd_le a b m i hb ha hm (by omega)) (wd_pos a b m hb hb1 ha hm))
  rw [sum_less (wd a b m) (j := k + 1) (n := m + 1) (by omega) (by omega), wd_all a b m hb ha hm] at HCo
  have HL := Lib.hid (fun W => lessThan13_any (k + 1) W (by omega))
  rw [show ((k + 1 : Nat) : Int) = (k : Int) + 1 by omega] at HL
  generalize (2 : Int) ^ (k + 1) - 1 = z at HL HCo
  generalize hX : fr1 (sumF (wd a b m) (k + 1)) (b ^ m) = X at HCo ⊢
  generalize hY : fr2 (sumF (wd a b m) (k + 1)) (b ^ m) = Y at HCo ⊢
  clear hX hY
  go_enter Try.func22, Try.ntmps22
  go_wp2_with fail
  generalize (w.alloc (.cells #[.int .i64 (a : Int), .int .i64 (b : Int)] 25)).alloc (.cells #[.int .i64 0, .int .i64 0] 28) = w0 at HT HR HB ⊢
  have h0 := HT.out.c0
  have h1 := HT.out.c1
  with_reducible refine (HG.out _).mono ?_
  rintro e w1 ⟨rfl, hb⟩
  replace HT := Lib.hid (HT.out.step hb)
  replace HR := Lib.hid (HR.out.step hb)
  replace HB := Lib.hid (below_trans HB.out hb)
  replace h0 := HT.out.c0
  replace h1 := HT.out.c1
  clear hb
  clear HG
  go_wp2_with (first | (go_at_call 56; (with_reducible refine (HM.out _).mono ?_); rintro e wX ⟨rfl, hw⟩; have hw := hw.symm; subst hw))
  with_reducible refine (HDr.out _).mono ?_
  rintro e w2 ⟨g, rfl, hg, hrow, hb⟩
  replace HT := Lib.hid (HT.out.step hb)
  replace HR := Lib.hid (HR.out.step hb)
  replace HB := Lib.hid (below_trans HB.out hb)
  replace h0 := HT.out.c0
  replace h1 := HT.out.c1
  have HI := Lib.hid (row_ins70 hrow)
  clear hrow
  clear hb
  go_wp2_with (first | (go_at_call 60; (with_reducible refine (HL.out _).mono ?_); rintro e wX ⟨rfl, hw⟩; have hw := hw.symm; subst hw))
  with_reducible refine (HCo.out _ g HI.out).mono ?_
  rintro e w3 ⟨rfl, hb⟩
  replace HT := Lib.hid (HT.out.step hb)
  replace HR := Lib.hid (HR.out.step hb)
  replace HB := Lib.hid (below_trans HB.out hb)
  replace h0 := HT.out.c0
  replace h1 := HT.out.c1
  clear hb
  have q0 := HR.out.c0
  have q1 := HR.out.c1
  have q2 := HR.out.f0
  have q3 := HR.out.f1
  go_wp2
  obtain ⟨hs, hw⟩ := stored2 HR.out.row (.int .i64 (X : Int)) (.int .i64 (Y : Int))
  generalize ((w3.setCell ⟨w.heap.size + 1, 0, none⟩ (.int .i64 (X : Int))).setCell ⟨w.heap.size + 1, 1, none⟩ (.int .i64 (Y : Int))) = wf at hs hw ⊢
  have e0 := two0 hs
  have e1 := two1 hs
  refine bodyPost_ret (v := .tuple #[.agg #[.int .i64 (X : Int), .int .i64 (Y : Int)], .bool true]) (by simp [results, go_sem, e0, e1]) rfl ?_
  exact ⟨rfl, HB.out.trans (hw.below (Nat.le_succ _) HB.out.size)⟩
set_option maxRecDepth 100000 in
set_option maxHeartbeats 8000000 in
theorem chanceMajority_impl (a b m : Nat) (hb : b ≤ 10) (hb1 : 1 ≤ b) (ha : a ≤ b) (hm : m ≤ 12) (hm1 : 1 ≤ m) (w : World) :
    Calls Try.prog 41 #[.int .i64 (m : Int), .agg #[.int .i64 (a : Int), .int .i64 (b : Int)]] w fun e w' => e = .returned (.tuple #[.agg #[.int .i64 ((fr1 (sumF (wd a b m) ((m + 1) / 2)) (b ^ m) : Nat) : Int), .int .i64 ((fr2 (sumF (wd a b m) ((m + 1) / 2)) (b ^ m) : Nat) : Int)], .bool true]) ∧ Below w.heap.size w w' := by
  have HT := Lib.hid (Two.new w (.int .i64 (a : Int)) (.int .i64 (b : Int)) 25 (w.heap.size) rfl)
  have HB := Lib.hid ((Below.refl w.heap.size w).alloc (Nat.le_refl _) (.cells #[.int .i64 (a : Int), .int .i64 (b : Int)] 25))
  have HR := Lib.hid (Two.new (w.alloc (.cells #[.int .i64 (a : Int), .int .i64 (b : Int)] 25)) (.int .i64 0) (.int .i64 0) 28 (w.heap.size + 1) (by simp))
  replace HT := Lib.hid (HT.out.step ((Below.refl _ _).alloc (Nat.le_refl _) (.cells #[.int .i64 0, .int .i64 0] 28)))
  replace HB := Lib.hid (HB.out.alloc HB.out.size (.cells #[.int .i64 0, .int .i64 0] 28))
  have HG := Lib.hid (fun W => isDoubt_impl (a : Int) (b : Int) W)
  rw [dOK_iff.2 ⟨⟨by omega, by omega⟩, by omega, by omega⟩] at HG
  have HM := Lib.hid (fun W => isDrawn_any (m : Int) W)
  rw [inB_t (x := (m : Int)) (a := 0) (b := 12) (by omega) (by omega)] at HM
  have HDr := Lib.hid (fun W => drawsByFalse_any a b m hb ha hm W)
  have HCo := Lib.hid (fun (W : World) (g : Nat) (hI : Ins W g (g + 1) (some ⟨g, 0, none⟩) (zsN (wd a b m) (m + 1))) => chanceOf_any (some ⟨g, 0, none⟩) (m + 1) g (g + 1) (wd a b m) (m + 1) (2 ^ ((m + 1) / 2) - 1) W hI (by omega) (fun i hi => wd_le a b m i hb ha hm (by omega)) (wd_pos a b m hb hb1 ha hm))
  rw [sum_less (wd a b m) (j := (m + 1) / 2) (n := m + 1) (by omega) (by omega), wd_all a b m hb ha hm] at HCo
  have HL := Lib.hid (fun W => fewerThanHalf_any m W (by omega))
  generalize (2 : Int) ^ ((m + 1) / 2) - 1 = z at HL HCo
  generalize hX : fr1 (sumF (wd a b m) ((m + 1) / 2)) (b ^ m) = X at HCo ⊢
  generalize hY : fr2 (sumF (wd a b m) ((m + 1) / 2)) (b ^ m) = Y at HCo ⊢
  clear hX hY
  go_enter Try.func41, Try.ntmps41
  go_wp2_with fail
  generalize (w.alloc (.cells #[.int .i64 (a : Int), .int .i64 (b : Int)] 25)).alloc (.cells #[.int .i64 0, .int .i64 0] 28) = w0 at HT HR HB ⊢
  have h0 := HT.out.c0
  have h1 := HT.out.c1
  with_reducible refine (HG.out _).mono ?_
  rintro e w1 ⟨rfl, hb⟩
  replace HT := Lib.hid (HT.out.step hb)
  replace HR := Lib.hid (HR.out.step hb)
  replace HB := Lib.hid (below_trans HB.out hb)
  replace h0 := HT.out.c0
  replace h1 := HT.out.c1
  clear hb
  clear HG
  go_wp2_with (first | (go_at_call 61; (with_reducible refine (HM.out _).mono ?_); rintro e wX ⟨rfl, hw⟩; have hw := hw.symm; subst hw))
  with_reducible refine (HDr.out _).mono ?_
  rintro e w2 ⟨g, rfl, hg, hrow, hb⟩
  replace HT := Lib.hid (HT.out.step hb)
  replace HR := Lib.hid (HR.out.step hb)
  replace HB := Lib.hid (below_trans HB.out hb)
  replace h0 := HT.out.c0
  replace h1 := HT.out.c1
  have HI := Lib.hid (row_ins70 hrow)
  clear hrow
  clear hb
  go_wp2_with (first | (go_at_call 79; (with_reducible refine (HL.out _).mono ?_); rintro e wX ⟨rfl, hw⟩; have hw := hw.symm; subst hw))
  with_reducible refine (HCo.out _ g HI.out).mono ?_
  rintro e w3 ⟨rfl, hb⟩
  replace HT := Lib.hid (HT.out.step hb)
  replace HR := Lib.hid (HR.out.step hb)
  replace HB := Lib.hid (below_trans HB.out hb)
  replace h0 := HT.out.c0
  replace h1 := HT.out.c1
  clear hb
  have q0 := HR.out.c0
  have q1 := HR.out.c1
  have q2 := HR.out.f0
  have q3 := HR.out.f1
  go_wp2
  obtain ⟨hs, hw⟩ := stored2 HR.out.row (.int .i64 (X : Int)) (.int .i64 (Y : Int))
  generalize ((w3.setCell ⟨w.heap.size + 1, 0, none⟩ (.int .i64 (X : Int))).setCell ⟨w.heap.size + 1, 1, none⟩ (.int .i64 (Y : Int))) = wf at hs hw ⊢
  have e0 := two0 hs
  have e1 := two1 hs
  refine bodyPost_ret (v := .tuple #[.agg #[.int .i64 (X : Int), .int .i64 (Y : Int)], .bool true]) (by simp [results, go_sem, e0, e1]) rfl ?_
  exact ⟨rfl, HB.out.trans (hw.below (Nat.le_succ _) HB.out.size)⟩
theorem mean_fr (a b m : Nat) (hb : b ≤ 10) (hb1 : 1 ≤ b) (ha : a ≤ b) (hm : m ≤ 12) : fr1 (sumT (wd a b m) id (m + 1)) (b ^ m) = fr1 (m * a) b ∧ fr2 (sumT (wd a b m) id (m + 1)) (b ^ m) = fr2 (m * a) b :=
  fr_cross (pow_pos7 hb1 m) hb1 (wd_mean a b m hb ha hm)
set_option maxRecDepth 100000 in
set_option maxHeartbeats 8000000 in
theorem meanFalse_impl (a b m : Nat) (hb : b ≤ 10) (hb1 : 1 ≤ b) (ha : a ≤ b) (hm : m ≤ 12) (w : World) :
    Calls Try.prog 24 #[.int .i64 (m : Int), .agg #[.int .i64 (a : Int), .int .i64 (b : Int)]] w fun e w' => e = .returned (.tuple #[.agg #[.int .i64 ((fr1 (m * a) b : Nat) : Int), .int .i64 ((fr2 (m * a) b : Nat) : Int)], .bool true]) ∧ Below w.heap.size w w' := by
  have HT := Lib.hid (Two.new w (.int .i64 (a : Int)) (.int .i64 (b : Int)) 25 (w.heap.size) rfl)
  have HB := Lib.hid ((Below.refl w.heap.size w).alloc (Nat.le_refl _) (.cells #[.int .i64 (a : Int), .int .i64 (b : Int)] 25))
  have HR := Lib.hid (Two.new (w.alloc (.cells #[.int .i64 (a : Int), .int .i64 (b : Int)] 25)) (.int .i64 0) (.int .i64 0) 28 (w.heap.size + 1) (by simp))
  replace HT := Lib.hid (HT.out.step ((Below.refl _ _).alloc (Nat.le_refl _) (.cells #[.int .i64 0, .int .i64 0] 28)))
  replace HB := Lib.hid (HB.out.alloc HB.out.size (.cells #[.int .i64 0, .int .i64 0] 28))
  have HG := Lib.hid (fun W => isDoubt_impl (a : Int) (b : Int) W)
  rw [dOK_iff.2 ⟨⟨by omega, by omega⟩, by omega, by omega⟩] at HG
  have HM := Lib.hid (fun W => isDrawn_any (m : Int) W)
  rw [inB_t (x := (m : Int)) (a := 0) (b := 12) (by omega) (by omega)] at HM
  have HDr := Lib.hid (fun W => drawsByFalse_any a b m hb ha hm W)
  have HCo := Lib.hid (fun (W : World) (g : Nat) (hI : Ins W g (g + 1) (some ⟨g, 0, none⟩) (zsN (wd a b m) (m + 1))) => meanOf_told (some ⟨g, 0, none⟩) (m + 1) g (g + 1) (wd a b m) (m + 1) W hI (by omega) (fun i hi => wd_le a b m i hb ha hm (by omega)) (wd_pos a b m hb hb1 ha hm))
  rw [wd_all a b m hb ha hm, (mean_fr a b m hb hb1 ha hm).1, (mean_fr a b m hb hb1 ha hm).2] at HCo
  generalize hX : fr1 (m * a) b = X at HCo ⊢
  generalize hY : fr2 (m * a) b = Y at HCo ⊢
  clear hX hY
  go_enter Try.func24, Try.ntmps24
  go_wp2_with fail
  generalize (w.alloc (.cells #[.int .i64 (a : Int), .int .i64 (b : Int)] 25)).alloc (.cells #[.int .i64 0, .int .i64 0] 28) = w0 at HT HR HB ⊢
  have h0 := HT.out.c0
  have h1 := HT.out.c1
  with_reducible refine (HG.out _).mono ?_
  rintro e w1 ⟨rfl, hb⟩
  replace HT := Lib.hid (HT.out.step hb)
  replace HR := Lib.hid (HR.out.step hb)
  replace HB := Lib.hid (below_trans HB.out hb)
  replace h0 := HT.out.c0
  replace h1 := HT.out.c1
  clear hb
  clear HG
  go_wp2_with (first | (go_at_call 61; (with_reducible refine (HM.out _).mono ?_); rintro e wX ⟨rfl, hw⟩; have hw := hw.symm; subst hw))
  with_reducible refine (HDr.out _).mono ?_
  rintro e w2 ⟨g, rfl, hg, hrow, hb⟩
  replace HT := Lib.hid (HT.out.step hb)
  replace HR := Lib.hid (HR.out.step hb)
  replace HB := Lib.hid (below_trans HB.out hb)
  replace h0 := HT.out.c0
  replace h1 := HT.out.c1
  have HI := Lib.hid (row_ins70 hrow)
  clear hrow
  clear hb
  go_wp2_with fail
  with_reducible refine (HCo.out _ g HI.out).mono ?_
  rintro e w3 ⟨rfl, hb⟩
  replace HT := Lib.hid (HT.out.step hb)
  replace HR := Lib.hid (HR.out.step hb)
  replace HB := Lib.hid (below_trans HB.out hb)
  replace h0 := HT.out.c0
  replace h1 := HT.out.c1
  clear hb
  have q0 := HR.out.c0
  have q1 := HR.out.c1
  have q2 := HR.out.f0
  have q3 := HR.out.f1
  go_wp2
  obtain ⟨hs, hw⟩ := stored2 HR.out.row (.int .i64 (X : Int)) (.int .i64 (Y : Int))
  generalize ((w3.setCell ⟨w.heap.size + 1, 0, none⟩ (.int .i64 (X : Int))).setCell ⟨w.heap.size + 1, 1, none⟩ (.int .i64 (Y : Int))) = wf at hs hw ⊢
  have e0 := two0 hs
  have e1 := two1 hs
  refine bodyPost_ret (v := .tuple #[.agg #[.int .i64 (X : Int), .int .i64 (Y : Int)], .bool true]) (by simp [results, go_sem, e0, e1]) rfl ?_
  exact ⟨rfl, HB.out.trans (hw.below (Nat.le_succ _) HB.out.size)⟩
set_option maxRecDepth 100000 in
set_option maxHeartbeats 8000000 in
theorem chanceFalse_spec (a b m k : Nat) (hb : b ≤ 10) (hb1 : 1 ≤ b) (ha : a ≤ b) (hm : m ≤ 12) (hk : k ≤ m) (w : World) :
    Calls Try.prog 18 #[.int .i64 (m : Int), .int .i64 (k : Int), .agg #[.int .i64 (a : Int), .int .i64 (b : Int)]] w fun e w' => e = .returned (.tuple #[.agg #[.int .i64 ((fr1 (wd a b m k) (b ^ m) : Nat) : Int), .int .i64 ((fr2 (wd a b m k) (b ^ m) : Nat) : Int)], .bool true]) ∧ Below w.heap.size w w' := by
  have HT := Lib.hid (Two.new w (.int .i64 (a : Int)) (.int .i64 (b : Int)) 25 (w.heap.size) rfl)
  have HB := Lib.hid ((Below.refl w.heap.size w).alloc (Nat.le_refl _) (.cells #[.int .i64 (a : Int), .int .i64 (b : Int)] 25))
  have HR := Lib.hid (Two.new (w.alloc (.cells #[.int .i64 (a : Int), .int .i64 (b : Int)] 25)) (.int .i64 0) (.int .i64 0) 28 (w.heap.size + 1) (by simp))
  replace HT := Lib.hid (HT.out.step ((Below.refl _ _).alloc (Nat.le_refl _) (.cells #[.int .i64 0, .int .i64 0] 28)))
  replace HB := Lib.hid (HB.out.alloc HB.out.size (.cells #[.int .i64 0, .int .i64 0] 28))
  have HG := Lib.hid (fun W => l7Drawn_any (m : Int) (k : Int) (a : Int) (b : Int) W)
  rw [dOK_iff.2 ⟨⟨by omega, by omega⟩, by omega, by omega⟩, mkOK_iff.2 ⟨⟨by omega, by omega⟩, by omega, by omega⟩] at HG
  have hQ1 : 1 ≤ b ^ m := pow_pos7 hb1 m
  have hQ2 : b ^ m ≤ 1000000000000000000 := by have := pow_bd b m hb hm; omega
  have HPw := Lib.hid (fun W => l7Power_b b m hb hm W)
  have hP2 : wd a b m k ≤ 1000000000000000000 := by have := wd_le a b m k hb ha hm hk; omega
  have HCo := Lib.hid (fun (W : World) (u : Int) (hu : u = (((wd a b m k) : Nat) : Int)) => by rw [hu]; exact l7Cut_any (wd a b m k) (b ^ m) hQ1 hP2 hQ2 W : ∀ (W : World) (u : Int), u = (((wd a b m k) : Nat) : Int) → Calls Try.prog 52 #[.int .i64 u, .int .i64 (((b ^ m) : Nat) : Int)] W fun e w' => e = .returned (.agg #[.int .i64 ((fr1 (wd a b m k) (b ^ m) : Nat) : Int), .int .i64 ((fr2 (wd a b m k) (b ^ m) : Nat) : Int)]) ∧ Below W.heap.size W w')
  have HWy := Lib.hid (fun W => l3Ways_b m k (by omega) hk W)
  have HPt := Lib.hid (fun W => l7Parts_any a b m k hb ha hm hk W)
  have hwx : IntKind.i64.wrap (((ways m k : Nat) : Int) * ((dr a b m k : Nat) : Int)) = ((wd a b m k : Nat) : Int) := by rw [wd_cast]; unfold wdI; exact IntWalk.i64_in _ (by omega)
  generalize ((ways m k : Nat) : Int) = x at HWy hwx
  generalize ((dr a b m k : Nat) : Int) = y at HPt hwx
  clear hP2 hQ2
  generalize hpp : b ^ m = pm at hQ1 HPw HCo ⊢
  generalize hX : fr1 (wd a b m k) pm = X at HCo ⊢
  generalize hY : fr2 (wd a b m k) pm = Y at HCo ⊢
  clear hX hY
  go_enter Try.func18, Try.ntmps18
  go_wp2_with fail
  generalize (w.alloc (.cells #[.int .i64 (a : Int), .int .i64 (b : Int)] 25)).alloc (.cells #[.int .i64 0, .int .i64 0] 28) = w0 at HT HR HB ⊢
  have h0 := HT.out.c0
  have h1 := HT.out.c1
  with_reducible refine (HG.out _).mono ?_
  rintro e w1 ⟨rfl, hb⟩
  replace HT := Lib.hid (HT.out.step hb)
  replace HR := Lib.hid (HR.out.step hb)
  replace HB := Lib.hid (below_trans HB.out hb)
  replace h0 := HT.out.c0
  replace h1 := HT.out.c1
  clear hb
  clear HG
  clear h0 h1
  go_wp2_with fail
  go_region_held3 (fun w' => w'.cell? ⟨w.heap.size, 0, none⟩ = some (.int .i64 (a : Int)) ∧ w'.cell? ⟨w.heap.size, 1, none⟩ = some (.int .i64 (b : Int)))
    (first
     | exact ⟨(HT.out.step (Below.refl _ w1).drew).c0, (HT.out.step (Below.refl _ w1).drew).c1⟩
     | exact ⟨(HT_1.out).c0, (HT_1.out).c1⟩
     | exact ⟨(HT_2.out).c0, (HT_2.out).c1⟩
     | exact ⟨(HT_3.out).c0, (HT_3.out).c1⟩
     | exact ⟨(HT_4.out).c0, (HT_4.out).c1⟩
     | exact ⟨((HT_4.out).within (within_set (within_set (Within.refl (w.heap.size + 1) (w.heap.size + 1 + 1) v4) (Nat.le_refl _) (Nat.lt_succ_self _) 0 _) (Nat.le_refl _) (Nat.lt_succ_self _) 1 _) (.inl (by omega))).c0, ((HT_4.out).within (within_set (within_set (Within.refl (w.heap.size + 1) (w.heap.size + 1 + 1) v4) (Nat.le_refl _) (Nat.lt_succ_self _) 0 _) (Nat.le_refl _) (Nat.lt_succ_self _) 1 _) (.inl (by omega))).c1⟩)
    (first
     | (go_at_call 52; (with_reducible refine (HCo.out v3 _ (by first | rfl | exact hwx)).mono ?_); rintro e v4 ⟨rfl, hb⟩; have HZ4 := Lib.hid (below_trans HZ3.out hb); have HT_4 := Lib.hid (HT.out.step HZ4.out); have HR_4 := Lib.hid (HR.out.step HZ4.out); have HB_4 := Lib.hid (below_trans HB.out HZ4.out); have q0 := HR_4.out.c0; have q1 := HR_4.out.c1; have q2 := HR_4.out.f0; have q3 := HR_4.out.f1; clear hb)
     | (go_at_call 55; (with_reducible refine (HPw.out v2).mono ?_); rintro e v3 ⟨rfl, hb⟩; have HZ3 := Lib.hid (below_trans HZ2.out hb); have HT_3 := Lib.hid (HT.out.step HZ3.out); have HR_3 := Lib.hid (HR.out.step HZ3.out); have HB_3 := Lib.hid (below_trans HB.out HZ3.out); clear hb)
     | (go_at_call 54; (with_reducible refine (HPt.out v1).mono ?_); rintro e v2 ⟨rfl, hb⟩; have HZ2 := Lib.hid (below_trans HZ1.out hb); have HT_2 := Lib.hid (HT.out.step HZ2.out); have HR_2 := Lib.hid (HR.out.step HZ2.out); have HB_2 := Lib.hid (below_trans HB.out HZ2.out); clear hb)
     | (go_at_call 53; (with_reducible refine (HWy.out w1.drew).mono ?_); rintro e v1 ⟨rfl, hb⟩; have HZ1 := Lib.hid (below_trans (Below.refl _ w1).drew hb); have HT_1 := Lib.hid (HT.out.step HZ1.out); have HR_1 := Lib.hid (HR.out.step HZ1.out); have HB_1 := Lib.hid (below_trans HB.out HZ1.out); clear hb))
  all_goals
    go_wp2
    obtain ⟨hs, hw⟩ := stored2 HR_4.out.row (.int .i64 (X : Int)) (.int .i64 (Y : Int))
    generalize ((v4.setCell ⟨w.heap.size + 1, 0, none⟩ (.int .i64 (X : Int))).setCell ⟨w.heap.size + 1, 1, none⟩ (.int .i64 (Y : Int))) = wf at hs hw ⊢
    have e0 := two0 hs
    have e1 := two1 hs
    refine bodyPost_ret (v := .tuple #[.agg #[.int .i64 (X : Int), .int .i64 (Y : Int)], .bool true]) (by simp [results, go_sem, e0, e1]) rfl ?_
    exact ⟨rfl, HB_4.out.trans (hw.below (Nat.le_succ _) HB_4.out.size)⟩
set_option maxRecDepth 100000 in
set_option maxHeartbeats 8000000 in
theorem chanceWithin_spec (a b m k : Nat) (hb : b ≤ 10) (hb1 : 1 ≤ b) (ha : a ≤ b) (hm : m ≤ 12) (hk : k ≤ m) (w : World) :
    Calls Try.prog 21 #[.int .i64 (m : Int), .int .i64 (k : Int), .agg #[.int .i64 (a : Int), .int .i64 (b : Int)]] w fun e w' => e = .returned (.tuple #[.agg #[.int .i64 ((fr1 (sumF (wd a b m) (k + 1)) (b ^ m) : Nat) : Int), .int .i64 ((fr2 (sumF (wd a b m) (k + 1)) (b ^ m) : Nat) : Int)], .bool true]) ∧ Below w.heap.size w w' := by
  have HT := Lib.hid (Two.new w (.int .i64 (a : Int)) (.int .i64 (b : Int)) 25 (w.heap.size) rfl)
  have HB := Lib.hid ((Below.refl w.heap.size w).alloc (Nat.le_refl _) (.cells #[.int .i64 (a : Int), .int .i64 (b : Int)] 25))
  have HR := Lib.hid (Two.new (w.alloc (.cells #[.int .i64 (a : Int), .int .i64 (b : Int)] 25)) (.int .i64 0) (.int .i64 0) 28 (w.heap.size + 1) (by simp))
  replace HT := Lib.hid (HT.out.step ((Below.refl _ _).alloc (Nat.le_refl _) (.cells #[.int .i64 0, .int .i64 0] 28)))
  replace HB := Lib.hid (HB.out.alloc HB.out.size (.cells #[.int .i64 0, .int .i64 0] 28))
  have HG := Lib.hid (fun W => l7Drawn_any (m : Int) (k : Int) (a : Int) (b : Int) W)
  rw [dOK_iff.2 ⟨⟨by omega, by omega⟩, by omega, by omega⟩, mkOK_iff.2 ⟨⟨by omega, by omega⟩, by omega, by omega⟩] at HG
  have hQ1 : 1 ≤ b ^ m := pow_pos7 hb1 m
  have hQ2 : b ^ m ≤ 1000000000000000000 := by have := pow_bd b m hb hm; omega
  have HPw := Lib.hid (fun W => l7Power_b b m hb hm W)
  have hP2 : sumF (wd a b m) (k + 1) ≤ 1000000000000000000 := by have := wdS_bd a b m (k + 1) hb ha hm (by omega); omega
  have HCo := Lib.hid (fun (W : World) (u : Int) (hu : u = (((sumF (wd a b m) (k + 1)) : Nat) : Int)) => by rw [hu]; exact l7Cut_any (sumF (wd a b m) (k + 1)) (b ^ m) hQ1 hP2 hQ2 W : ∀ (W : World) (u : Int), u = (((sumF (wd a b m) (k + 1)) : Nat) : Int) → Calls Try.prog 52 #[.int .i64 u, .int .i64 (((b ^ m) : Nat) : Int)] W fun e w' => e = .returned (.agg #[.int .i64 ((fr1 (sumF (wd a b m) (k + 1)) (b ^ m) : Nat) : Int), .int .i64 ((fr2 (sumF (wd a b m) (k + 1)) (b ^ m) : Nat) : Int)]) ∧ Below W.heap.size W w')
  have HPt := Lib.hid (fun W => l7Within_any a b m k hb ha hm hk W)
  clear hP2 hQ2
  generalize hpp : b ^ m = pm at hQ1 HPw HCo ⊢
  generalize hX : fr1 (sumF (wd a b m) (k + 1)) pm = X at HCo ⊢
  generalize hY : fr2 (sumF (wd a b m) (k + 1)) pm = Y at HCo ⊢
  clear hX hY
  go_enter Try.func21, Try.ntmps21
  go_wp2_with fail
  generalize (w.alloc (.cells #[.int .i64 (a : Int), .int .i64 (b : Int)] 25)).alloc (.cells #[.int .i64 0, .int .i64 0] 28) = w0 at HT HR HB ⊢
  have h0 := HT.out.c0
  have h1 := HT.out.c1
  with_reducible refine (HG.out _).mono ?_
  rintro e w1 ⟨rfl, hb⟩
  replace HT := Lib.hid (HT.out.step hb)
  replace HR := Lib.hid (HR.out.step hb)
  replace HB := Lib.hid (below_trans HB.out hb)
  replace h0 := HT.out.c0
  replace h1 := HT.out.c1
  clear hb
  clear HG
  clear h0 h1
  go_wp2_with fail
  go_region_held3 (fun w' => w'.cell? ⟨w.heap.size, 0, none⟩ = some (.int .i64 (a : Int)) ∧ w'.cell? ⟨w.heap.size, 1, none⟩ = some (.int .i64 (b : Int)))
    (first
     | exact ⟨(HT.out.step (Below.refl _ w1).drew).c0, (HT.out.step (Below.refl _ w1).drew).c1⟩
     | exact ⟨(HT_1.out).c0, (HT_1.out).c1⟩
     | exact ⟨(HT_2.out).c0, (HT_2.out).c1⟩
     | exact ⟨(HT_3.out).c0, (HT_3.out).c1⟩
     | exact ⟨((HT_3.out).within (within_set (within_set (Within.refl (w.heap.size + 1) (w.heap.size + 1 + 1) v3) (Nat.le_refl _) (Nat.lt_succ_self _) 0 _) (Nat.le_refl _) (Nat.lt_succ_self _) 1 _) (.inl (by omega))).c0, ((HT_3.out).within (within_set (within_set (Within.refl (w.heap.size + 1) (w.heap.size + 1 + 1) v3) (Nat.le_refl _) (Nat.lt_succ_self _) 0 _) (Nat.le_refl _) (Nat.lt_succ_self _) 1 _) (.inl (by omega))).c1⟩)
    (first
     | (go_at_call 52; (with_reducible refine (HCo.out v2 _ rfl).mono ?_); rintro e v3 ⟨rfl, hb⟩; have HZ3 := Lib.hid (below_trans HZ2.out hb); have HT_3 := Lib.hid (HT.out.step HZ3.out); have HR_3 := Lib.hid (HR.out.step HZ3.out); have HB_3 := Lib.hid (below_trans HB.out HZ3.out); have q0 := HR_3.out.c0; have q1 := HR_3.out.c1; have q2 := HR_3.out.f0; have q3 := HR_3.out.f1; clear hb)
     | (go_at_call 55; (with_reducible refine (HPw.out v1).mono ?_); rintro e v2 ⟨rfl, hb⟩; have HZ2 := Lib.hid (below_trans HZ1.out hb); have HT_2 := Lib.hid (HT.out.step HZ2.out); have HR_2 := Lib.hid (HR.out.step HZ2.out); have HB_2 := Lib.hid (below_trans HB.out HZ2.out); clear hb)
     | (go_at_call 59; (with_reducible refine (HPt.out w1.drew).mono ?_); rintro e v1 ⟨rfl, hb⟩; have HZ1 := Lib.hid (below_trans (Below.refl _ w1).drew hb); have HT_1 := Lib.hid (HT.out.step HZ1.out); have HR_1 := Lib.hid (HR.out.step HZ1.out); have HB_1 := Lib.hid (below_trans HB.out HZ1.out); clear hb))
  all_goals
    go_wp2
    obtain ⟨hs, hw⟩ := stored2 HR_3.out.row (.int .i64 (X : Int)) (.int .i64 (Y : Int))
    generalize ((v3.setCell ⟨w.heap.size + 1, 0, none⟩ (.int .i64 (X : Int))).setCell ⟨w.heap.size + 1, 1, none⟩ (.int .i64 (Y : Int))) = wf at hs hw ⊢
    have e0 := two0 hs
    have e1 := two1 hs
    refine bodyPost_ret (v := .tuple #[.agg #[.int .i64 (X : Int), .int .i64 (Y : Int)], .bool true]) (by simp [results, go_sem, e0, e1]) rfl ?_
    exact ⟨rfl, HB_3.out.trans (hw.below (Nat.le_succ _) HB_3.out.size)⟩
set_option maxRecDepth 100000 in
set_option maxHeartbeats 8000000 in
theorem chanceMajority_spec (a b m : Nat) (hb : b ≤ 10) (hb1 : 1 ≤ b) (ha : a ≤ b) (hm : m ≤ 12) (hm1 : 1 ≤ m) (w : World) :
    Calls Try.prog 40 #[.int .i64 (m : Int), .agg #[.int .i64 (a : Int), .int .i64 (b : Int)]] w fun e w' => e = .returned (.tuple #[.agg #[.int .i64 ((fr1 (sumF (wd a b m) ((m + 1) / 2)) (b ^ m) : Nat) : Int), .int .i64 ((fr2 (sumF (wd a b m) ((m + 1) / 2)) (b ^ m) : Nat) : Int)], .bool true]) ∧ Below w.heap.size w w' := by
  have HT := Lib.hid (Two.new w (.int .i64 (a : Int)) (.int .i64 (b : Int)) 25 (w.heap.size) rfl)
  have HB := Lib.hid ((Below.refl w.heap.size w).alloc (Nat.le_refl _) (.cells #[.int .i64 (a : Int), .int .i64 (b : Int)] 25))
  have HR := Lib.hid (Two.new (w.alloc (.cells #[.int .i64 (a : Int), .int .i64 (b : Int)] 25)) (.int .i64 0) (.int .i64 0) 28 (w.heap.size + 1) (by simp))
  replace HT := Lib.hid (HT.out.step ((Below.refl _ _).alloc (Nat.le_refl _) (.cells #[.int .i64 0, .int .i64 0] 28)))
  replace HB := Lib.hid (HB.out.alloc HB.out.size (.cells #[.int .i64 0, .int .i64 0] 28))
  have HG := Lib.hid (fun W => l7Drawn_any (m : Int) 0 (a : Int) (b : Int) W)
  rw [dOK_iff.2 ⟨⟨by omega, by omega⟩, by omega, by omega⟩, mkOK_iff.2 ⟨⟨by omega, by omega⟩, by omega, by omega⟩] at HG
  have hQ1 : 1 ≤ b ^ m := pow_pos7 hb1 m
  have hQ2 : b ^ m ≤ 1000000000000000000 := by have := pow_bd b m hb hm; omega
  have HPw := Lib.hid (fun W => l7Power_b b m hb hm W)
  have hP2 : sumF (wd a b m) ((m + 1) / 2) ≤ 1000000000000000000 := by have := wdS_bd a b m ((m + 1) / 2) hb ha hm (by omega); omega
  have HCo := Lib.hid (fun (W : World) (u : Int) (hu : u = (((sumF (wd a b m) ((m + 1) / 2)) : Nat) : Int)) => by rw [hu]; exact l7Cut_any (sumF (wd a b m) ((m + 1) / 2)) (b ^ m) hQ1 hP2 hQ2 W : ∀ (W : World) (u : Int), u = (((sumF (wd a b m) ((m + 1) / 2)) : Nat) : Int) → Calls Try.prog 52 #[.int .i64 u, .int .i64 (((b ^ m) : Nat) : Int)] W fun e w' => e = .returned (.agg #[.int .i64 ((fr1 (sumF (wd a b m) ((m + 1) / 2)) (b ^ m) : Nat) : Int), .int .i64 ((fr2 (sumF (wd a b m) ((m + 1) / 2)) (b ^ m) : Nat) : Int)]) ∧ Below W.heap.size W w')
  have HPt := Lib.hid (fun W => l7Majority_any a b m hb ha hm hm1 W)
  clear hP2 hQ2
  generalize hpp : b ^ m = pm at hQ1 HPw HCo ⊢
  generalize hX : fr1 (sumF (wd a b m) ((m + 1) / 2)) pm = X at HCo ⊢
  generalize hY : fr2 (sumF (wd a b m) ((m + 1) / 2)) pm = Y at HCo ⊢
  clear hX hY
  go_enter Try.func40, Try.ntmps40
  go_wp2_with fail
  generalize (w.alloc (.cells #[.int .i64 (a : Int), .int .i64 (b : Int)] 25)).alloc (.cells #[.int .i64 0, .int .i64 0] 28) = w0 at HT HR HB ⊢
  have h0 := HT.out.c0
  have h1 := HT.out.c1
  with_reducible refine (HG.out _).mono ?_
  rintro e w1 ⟨rfl, hb⟩
  replace HT := Lib.hid (HT.out.step hb)
  replace HR := Lib.hid (HR.out.step hb)
  replace HB := Lib.hid (below_trans HB.out hb)
  replace h0 := HT.out.c0
  replace h1 := HT.out.c1
  clear hb
  clear HG
  clear h0 h1
  go_wp2_with fail
  go_region_held3 (fun w' => w'.cell? ⟨w.heap.size, 0, none⟩ = some (.int .i64 (a : Int)) ∧ w'.cell? ⟨w.heap.size, 1, none⟩ = some (.int .i64 (b : Int)))
    (first
     | exact ⟨(HT.out.step (Below.refl _ w1).drew).c0, (HT.out.step (Below.refl _ w1).drew).c1⟩
     | exact ⟨(HT_1.out).c0, (HT_1.out).c1⟩
     | exact ⟨(HT_2.out).c0, (HT_2.out).c1⟩
     | exact ⟨(HT_3.out).c0, (HT_3.out).c1⟩
     | exact ⟨((HT_3.out).within (within_set (within_set (Within.refl (w.heap.size + 1) (w.heap.size + 1 + 1) v3) (Nat.le_refl _) (Nat.lt_succ_self _) 0 _) (Nat.le_refl _) (Nat.lt_succ_self _) 1 _) (.inl (by omega))).c0, ((HT_3.out).within (within_set (within_set (Within.refl (w.heap.size + 1) (w.heap.size + 1 + 1) v3) (Nat.le_refl _) (Nat.lt_succ_self _) 0 _) (Nat.le_refl _) (Nat.lt_succ_self _) 1 _) (.inl (by omega))).c1⟩)
    (first
     | (go_at_call 52; (with_reducible refine (HCo.out v2 _ rfl).mono ?_); rintro e v3 ⟨rfl, hb⟩; have HZ3 := Lib.hid (below_trans HZ2.out hb); have HT_3 := Lib.hid (HT.out.step HZ3.out); have HR_3 := Lib.hid (HR.out.step HZ3.out); have HB_3 := Lib.hid (below_trans HB.out HZ3.out); have q0 := HR_3.out.c0; have q1 := HR_3.out.c1; have q2 := HR_3.out.f0; have q3 := HR_3.out.f1; clear hb)
     | (go_at_call 55; (with_reducible refine (HPw.out v1).mono ?_); rintro e v2 ⟨rfl, hb⟩; have HZ2 := Lib.hid (below_trans HZ1.out hb); have HT_2 := Lib.hid (HT.out.step HZ2.out); have HR_2 := Lib.hid (HR.out.step HZ2.out); have HB_2 := Lib.hid (below_trans HB.out HZ2.out); clear hb)
     | (go_at_call 78; (with_reducible refine (HPt.out w1.drew).mono ?_); rintro e v1 ⟨rfl, hb⟩; have HZ1 := Lib.hid (below_trans (Below.refl _ w1).drew hb); have HT_1 := Lib.hid (HT.out.step HZ1.out); have HR_1 := Lib.hid (HR.out.step HZ1.out); have HB_1 := Lib.hid (below_trans HB.out HZ1.out); clear hb))
  all_goals
    go_wp2
    obtain ⟨hs, hw⟩ := stored2 HR_3.out.row (.int .i64 (X : Int)) (.int .i64 (Y : Int))
    generalize ((v3.setCell ⟨w.heap.size + 1, 0, none⟩ (.int .i64 (X : Int))).setCell ⟨w.heap.size + 1, 1, none⟩ (.int .i64 (Y : Int))) = wf at hs hw ⊢
    have e0 := two0 hs
    have e1 := two1 hs
    refine bodyPost_ret (v := .tuple #[.agg #[.int .i64 (X : Int), .int .i64 (Y : Int)], .bool true]) (by simp [results, go_sem, e0, e1]) rfl ?_
    exact ⟨rfl, HB_3.out.trans (hw.below (Nat.le_succ _) HB_3.out.size)⟩
set_option maxRecDepth 100000 in
set_option maxHeartbeats 8000000 in
theorem meanFalse_spec (a b m : Nat) (hb : b ≤ 10) (hb1 : 1 ≤ b) (ha : a ≤ b) (hm : m ≤ 12) (w : World) :
    Calls Try.prog 23 #[.int .i64 (m : Int), .agg #[.int .i64 (a : Int), .int .i64 (b : Int)]] w fun e w' => e = .returned (.tuple #[.agg #[.int .i64 ((fr1 (m * a) b : Nat) : Int), .int .i64 ((fr2 (m * a) b : Nat) : Int)], .bool true]) ∧ Below w.heap.size w w' := by
  have HT := Lib.hid (Two.new w (.int .i64 (a : Int)) (.int .i64 (b : Int)) 25 (w.heap.size) rfl)
  have HB := Lib.hid ((Below.refl w.heap.size w).alloc (Nat.le_refl _) (.cells #[.int .i64 (a : Int), .int .i64 (b : Int)] 25))
  have HR := Lib.hid (Two.new (w.alloc (.cells #[.int .i64 (a : Int), .int .i64 (b : Int)] 25)) (.int .i64 0) (.int .i64 0) 28 (w.heap.size + 1) (by simp))
  replace HT := Lib.hid (HT.out.step ((Below.refl _ _).alloc (Nat.le_refl _) (.cells #[.int .i64 0, .int .i64 0] 28)))
  replace HB := Lib.hid (HB.out.alloc HB.out.size (.cells #[.int .i64 0, .int .i64 0] 28))
  have HG := Lib.hid (fun W => l7Drawn_any (m : Int) 0 (a : Int) (b : Int) W)
  rw [dOK_iff.2 ⟨⟨by omega, by omega⟩, by omega, by omega⟩, mkOK_iff.2 ⟨⟨by omega, by omega⟩, by omega, by omega⟩] at HG
  have hmul : m * a ≤ 120 := Nat.mul_le_mul hm (Nat.le_trans ha hb)
  have hP2 : m * a ≤ 1000000000000000000 := by omega
  have hQ1 : 1 ≤ b := hb1
  have hQ2 : b ≤ 1000000000000000000 := by omega
  have HCo := Lib.hid (fun (W : World) (u : Int) (hu : u = (((m * a) : Nat) : Int)) => by rw [hu]; exact l7Cut_any (m * a) b hQ1 hP2 hQ2 W : ∀ (W : World) (u : Int), u = (((m * a) : Nat) : Int) → Calls Try.prog 52 #[.int .i64 u, .int .i64 ((b : Nat) : Int)] W fun e w' => e = .returned (.agg #[.int .i64 ((fr1 (m * a) b : Nat) : Int), .int .i64 ((fr2 (m * a) b : Nat) : Int)]) ∧ Below W.heap.size W w')
  have hmi : (m : Int) * (a : Int) = ((m * a : Nat) : Int) := (Int.natCast_mul _ _).symm
  have hwx : 0 ≤ (m : Int) * (a : Int) ∧ (m : Int) * (a : Int) ≤ 120 := by rw [hmi]; omega
  rw [← hmi] at HCo
  clear hmi hP2 hQ1 hQ2 hmul
  generalize hX : fr1 (m * a) b = X at HCo ⊢
  generalize hY : fr2 (m * a) b = Y at HCo ⊢
  clear hX hY
  go_enter Try.func23, Try.ntmps23
  go_wp2_with fail
  generalize (w.alloc (.cells #[.int .i64 (a : Int), .int .i64 (b : Int)] 25)).alloc (.cells #[.int .i64 0, .int .i64 0] 28) = w0 at HT HR HB ⊢
  have h0 := HT.out.c0
  have h1 := HT.out.c1
  with_reducible refine (HG.out _).mono ?_
  rintro e w1 ⟨rfl, hb⟩
  replace HT := Lib.hid (HT.out.step hb)
  replace HR := Lib.hid (HR.out.step hb)
  replace HB := Lib.hid (below_trans HB.out hb)
  replace h0 := HT.out.c0
  replace h1 := HT.out.c1
  clear hb
  clear HG
  go_wp2_with fail
  with_reducible refine (HCo.out _ _ rfl).mono ?_
  rintro e w2 ⟨rfl, hb⟩
  replace HT := Lib.hid (HT.out.step hb)
  replace HR := Lib.hid (HR.out.step hb)
  replace HB := Lib.hid (below_trans HB.out hb)
  replace h0 := HT.out.c0
  replace h1 := HT.out.c1
  clear hb
  have q0 := HR.out.c0
  have q1 := HR.out.c1
  have q2 := HR.out.f0
  have q3 := HR.out.f1
  go_wp2
  obtain ⟨hs, hw⟩ := stored2 HR.out.row (.int .i64 (X : Int)) (.int .i64 (Y : Int))
  generalize ((w2.setCell ⟨w.heap.size + 1, 0, none⟩ (.int .i64 (X : Int))).setCell ⟨w.heap.size + 1, 1, none⟩ (.int .i64 (Y : Int))) = wf at hs hw ⊢
  have e0 := two0 hs
  have e1 := two1 hs
  refine bodyPost_ret (v := .tuple #[.agg #[.int .i64 (X : Int), .int .i64 (Y : Int)], .bool true]) (by simp [results, go_sem, e0, e1]) rfl ?_
  exact ⟨rfl, HB.out.trans (hw.below (Nat.le_succ _) HB.out.size)⟩
set_option maxRecDepth 100000 in
set_option maxHeartbeats 8000000 in
theorem chanceFalse_impl_no (m k a b : Int) (w : World) (h : (dOK a b && mkOK m k) = false) :
    Calls Try.prog 19 #[.int .i64 m, .int .i64 k, .agg #[.int .i64 a, .int .i64 b]] w fun e w' => e = .returned (.tuple #[.agg #[.int .i64 0, .int .i64 0], .bool false]) ∧ Below w.heap.size w w' := by
  have HT := Lib.hid (Two.new w (.int .i64 a) (.int .i64 b) 25 (w.heap.size) rfl)
  have HB := Lib.hid ((Below.refl w.heap.size w).alloc (Nat.le_refl _) (.cells #[.int .i64 a, .int .i64 b] 25))
  have HR := Lib.hid (Two.new (w.alloc (.cells #[.int .i64 a, .int .i64 b] 25)) (.int .i64 0) (.int .i64 0) 28 (w.heap.size + 1) (by simp))
  replace HT := Lib.hid (HT.out.step ((Below.refl _ _).alloc (Nat.le_refl _) (.cells #[.int .i64 0, .int .i64 0] 28)))
  replace HB := Lib.hid (HB.out.alloc HB.out.size (.cells #[.int .i64 0, .int .i64 0] 28))
  have HG := Lib.hid (fun W => isDoubt_impl a b W)
  cases hd : dOK a b with
  | false =>
    rw [hd] at HG
    clear hd
    go_enter Try.func19, Try.ntmps19
    go_wp2_with fail
    generalize (w.alloc (.cells #[.int .i64 a, .int .i64 b] 25)).alloc (.cells #[.int .i64 0, .int .i64 0] 28) = w0 at HT HR HB ⊢
    have h0 := HT.out.c0
    have h1 := HT.out.c1
    with_reducible refine (HG.out _).mono ?_
    rintro e w1 ⟨rfl, hb⟩
    replace HT := Lib.hid (HT.out.step hb)
    replace HR := Lib.hid (HR.out.step hb)
    replace HB := Lib.hid (below_trans HB.out hb)
    replace h0 := HT.out.c0
    replace h1 := HT.out.c1
    clear hb
    clear HG
    clear h0 h1
    have q0 := HR.out.c0
    have q1 := HR.out.c1
    have q2 := HR.out.f0
    have q3 := HR.out.f1
    go_wp2
    obtain ⟨hs, hw⟩ := stored2 HR.out.row (.int .i64 0) (.int .i64 0)
    generalize ((w1.setCell ⟨w.heap.size + 1, 0, none⟩ (.int .i64 0)).setCell ⟨w.heap.size + 1, 1, none⟩ (.int .i64 0)) = wf at hs hw ⊢
    have e0 := two0 hs
    have e1 := two1 hs
    refine bodyPost_ret (v := .tuple #[.agg #[.int .i64 0, .int .i64 0], .bool false]) (by simp [results, go_sem, e0, e1]) rfl ?_
    exact ⟨rfl, HB.out.trans (hw.below (Nat.le_succ _) HB.out.size)⟩
  | true =>
    rw [hd] at HG
    have HM := Lib.hid (fun W => isDrawnPart_any m k W)
    rw [show mkOK m k = false by simpa [hd] using h] at HM
    clear hd h
    go_enter Try.func19, Try.ntmps19
    go_wp2_with fail
    generalize (w.alloc (.cells #[.int .i64 a, .int .i64 b] 25)).alloc (.cells #[.int .i64 0, .int .i64 0] 28) = w0 at HT HR HB ⊢
    have h0 := HT.out.c0
    have h1 := HT.out.c1
    with_reducible refine (HG.out _).mono ?_
    rintro e w1 ⟨rfl, hb⟩
    replace HT := Lib.hid (HT.out.step hb)
    replace HR := Lib.hid (HR.out.step hb)
    replace HB := Lib.hid (below_trans HB.out hb)
    replace h0 := HT.out.c0
    replace h1 := HT.out.c1
    clear hb
    clear HG
    clear h0 h1
    have q0 := HR.out.c0
    have q1 := HR.out.c1
    have q2 := HR.out.f0
    have q3 := HR.out.f1
    go_wp2_with (first | (go_at_call 56; (with_reducible refine (HM.out _).mono ?_); rintro e wX ⟨rfl, hw⟩; have hw := hw.symm; subst hw))
    obtain ⟨hs, hw⟩ := stored2 HR.out.row (.int .i64 0) (.int .i64 0)
    generalize ((w1.setCell ⟨w.heap.size + 1, 0, none⟩ (.int .i64 0)).setCell ⟨w.heap.size + 1, 1, none⟩ (.int .i64 0)) = wf at hs hw ⊢
    have e0 := two0 hs
    have e1 := two1 hs
    refine bodyPost_ret (v := .tuple #[.agg #[.int .i64 0, .int .i64 0], .bool false]) (by simp [results, go_sem, e0, e1]) rfl ?_
    exact ⟨rfl, HB.out.trans (hw.below (Nat.le_succ _) HB.out.size)⟩
set_option maxRecDepth 100000 in
set_option maxHeartbeats 8000000 in
theorem chanceWithin_impl_no (m k a b : Int) (w : World) (h : (dOK a b && mkOK m k) = false) :
    Calls Try.prog 22 #[.int .i64 m, .int .i64 k, .agg #[.int .i64 a, .int .i64 b]] w fun e w' => e = .returned (.tuple #[.agg #[.int .i64 0, .int .i64 0], .bool false]) ∧ Below w.heap.size w w' := by
  have HT := Lib.hid (Two.new w (.int .i64 a) (.int .i64 b) 25 (w.heap.size) rfl)
  have HB := Lib.hid ((Below.refl w.heap.size w).alloc (Nat.le_refl _) (.cells #[.int .i64 a, .int .i64 b] 25))
  have HR := Lib.hid (Two.new (w.alloc (.cells #[.int .i64 a, .int .i64 b] 25)) (.int .i64 0) (.int .i64 0) 28 (w.heap.size + 1) (by simp))
  replace HT := Lib.hid (HT.out.step ((Below.refl _ _).alloc (Nat.le_refl _) (.cells #[.int .i64 0, .int .i64 0] 28)))
  replace HB := Lib.hid (HB.out.alloc HB.out.size (.cells #[.int .i64 0, .int .i64 0] 28))
  have HG := Lib.hid (fun W => isDoubt_impl a b W)
  cases hd : dOK a b with
  | false =>
    rw [hd] at HG
    clear hd
    go_enter Try.func22, Try.ntmps22
    go_wp2_with fail
    generalize (w.alloc (.cells #[.int .i64 a, .int .i64 b] 25)).alloc (.cells #[.int .i64 0, .int .i64 0] 28) = w0 at HT HR HB ⊢
    have h0 := HT.out.c0
    have h1 := HT.out.c1
    with_reducible refine (HG.out _).mono ?_
    rintro e w1 ⟨rfl, hb⟩
    replace HT := Lib.hid (HT.out.step hb)
    replace HR := Lib.hid (HR.out.step hb)
    replace HB := Lib.hid (below_trans HB.out hb)
    replace h0 := HT.out.c0
    replace h1 := HT.out.c1
    clear hb
    clear HG
    clear h0 h1
    have q0 := HR.out.c0
    have q1 := HR.out.c1
    have q2 := HR.out.f0
    have q3 := HR.out.f1
    go_wp2
    obtain ⟨hs, hw⟩ := stored2 HR.out.row (.int .i64 0) (.int .i64 0)
    generalize ((w1.setCell ⟨w.heap.size + 1, 0, none⟩ (.int .i64 0)).setCell ⟨w.heap.size + 1, 1, none⟩ (.int .i64 0)) = wf at hs hw ⊢
    have e0 := two0 hs
    have e1 := two1 hs
    refine bodyPost_ret (v := .tuple #[.agg #[.int .i64 0, .int .i64 0], .bool false]) (by simp [results, go_sem, e0, e1]) rfl ?_
    exact ⟨rfl, HB.out.trans (hw.below (Nat.le_succ _) HB.out.size)⟩
  | true =>
    rw [hd] at HG
    have HM := Lib.hid (fun W => isDrawnPart_any m k W)
    rw [show mkOK m k = false by simpa [hd] using h] at HM
    clear hd h
    go_enter Try.func22, Try.ntmps22
    go_wp2_with fail
    generalize (w.alloc (.cells #[.int .i64 a, .int .i64 b] 25)).alloc (.cells #[.int .i64 0, .int .i64 0] 28) = w0 at HT HR HB ⊢
    have h0 := HT.out.c0
    have h1 := HT.out.c1
    with_reducible refine (HG.out _).mono ?_
    rintro e w1 ⟨rfl, hb⟩
    replace HT := Lib.hid (HT.out.step hb)
    replace HR := Lib.hid (HR.out.step hb)
    replace HB := Lib.hid (below_trans HB.out hb)
    replace h0 := HT.out.c0
    replace h1 := HT.out.c1
    clear hb
    clear HG
    clear h0 h1
    have q0 := HR.out.c0
    have q1 := HR.out.c1
    have q2 := HR.out.f0
    have q3 := HR.out.f1
    go_wp2_with (first | (go_at_call 56; (with_reducible refine (HM.out _).mono ?_); rintro e wX ⟨rfl, hw⟩; have hw := hw.symm; subst hw))
    obtain ⟨hs, hw⟩ := stored2 HR.out.row (.int .i64 0) (.int .i64 0)
    generalize ((w1.setCell ⟨w.heap.size + 1, 0, none⟩ (.int .i64 0)).setCell ⟨w.heap.size + 1, 1, none⟩ (.int .i64 0)) = wf at hs hw ⊢
    have e0 := two0 hs
    have e1 := two1 hs
    refine bodyPost_ret (v := .tuple #[.agg #[.int .i64 0, .int .i64 0], .bool false]) (by simp [results, go_sem, e0, e1]) rfl ?_
    exact ⟨rfl, HB.out.trans (hw.below (Nat.le_succ _) HB.out.size)⟩
set_option maxRecDepth 100000 in
set_option maxHeartbeats 8000000 in
theorem meanFalse_impl_no (m a b : Int) (w : World) (h : (dOK a b && inB m 0 12) = false) :
    Calls Try.prog 24 #[.int .i64 m, .agg #[.int .i64 a, .int .i64 b]] w fun e w' => e = .returned (.tuple #[.agg #[.int .i64 0, .int .i64 0], .bool false]) ∧ Below w.heap.size w w' := by
  have HT := Lib.hid (Two.new w (.int .i64 a) (.int .i64 b) 25 (w.heap.size) rfl)
  have HB := Lib.hid ((Below.refl w.heap.size w).alloc (Nat.le_refl _) (.cells #[.int .i64 a, .int .i64 b] 25))
  have HR := Lib.hid (Two.new (w.alloc (.cells #[.int .i64 a, .int .i64 b] 25)) (.int .i64 0) (.int .i64 0) 28 (w.heap.size + 1) (by simp))
  replace HT := Lib.hid (HT.out.step ((Below.refl _ _).alloc (Nat.le_refl _) (.cells #[.int .i64 0, .int .i64 0] 28)))
  replace HB := Lib.hid (HB.out.alloc HB.out.size (.cells #[.int .i64 0, .int .i64 0] 28))
  have HG := Lib.hid (fun W => isDoubt_impl a b W)
  cases hd : dOK a b with
  | false =>
    rw [hd] at HG
    clear hd
    go_enter Try.func24, Try.ntmps24
    go_wp2_with fail
    generalize (w.alloc (.cells #[.int .i64 a, .int .i64 b] 25)).alloc (.cells #[.int .i64 0, .int .i64 0] 28) = w0 at HT HR HB ⊢
    have h0 := HT.out.c0
    have h1 := HT.out.c1
    with_reducible refine (HG.out _).mono ?_
    rintro e w1 ⟨rfl, hb⟩
    replace HT := Lib.hid (HT.out.step hb)
    replace HR := Lib.hid (HR.out.step hb)
    replace HB := Lib.hid (below_trans HB.out hb)
    replace h0 := HT.out.c0
    replace h1 := HT.out.c1
    clear hb
    clear HG
    clear h0 h1
    have q0 := HR.out.c0
    have q1 := HR.out.c1
    have q2 := HR.out.f0
    have q3 := HR.out.f1
    go_wp2
    obtain ⟨hs, hw⟩ := stored2 HR.out.row (.int .i64 0) (.int .i64 0)
    generalize ((w1.setCell ⟨w.heap.size + 1, 0, none⟩ (.int .i64 0)).setCell ⟨w.heap.size + 1, 1, none⟩ (.int .i64 0)) = wf at hs hw ⊢
    have e0 := two0 hs
    have e1 := two1 hs
    refine bodyPost_ret (v := .tuple #[.agg #[.int .i64 0, .int .i64 0], .bool false]) (by simp [results, go_sem, e0, e1]) rfl ?_
    exact ⟨rfl, HB.out.trans (hw.below (Nat.le_succ _) HB.out.size)⟩
  | true =>
    rw [hd] at HG
    have HM := Lib.hid (fun W => isDrawn_any m W)
    rw [show inB m 0 12 = false by simpa [hd] using h] at HM
    clear hd h
    go_enter Try.func24, Try.ntmps24
    go_wp2_with fail
    generalize (w.alloc (.cells #[.int .i64 a, .int .i64 b] 25)).alloc (.cells #[.int .i64 0, .int .i64 0] 28) = w0 at HT HR HB ⊢
    have h0 := HT.out.c0
    have h1 := HT.out.c1
    with_reducible refine (HG.out _).mono ?_
    rintro e w1 ⟨rfl, hb⟩
    replace HT := Lib.hid (HT.out.step hb)
    replace HR := Lib.hid (HR.out.step hb)
    replace HB := Lib.hid (below_trans HB.out hb)
    replace h0 := HT.out.c0
    replace h1 := HT.out.c1
    clear hb
    clear HG
    clear h0 h1
    have q0 := HR.out.c0
    have q1 := HR.out.c1
    have q2 := HR.out.f0
    have q3 := HR.out.f1
    go_wp2_with (first | (go_at_call 61; (with_reducible refine (HM.out _).mono ?_); rintro e wX ⟨rfl, hw⟩; have hw := hw.symm; subst hw))
    obtain ⟨hs, hw⟩ := stored2 HR.out.row (.int .i64 0) (.int .i64 0)
    generalize ((w1.setCell ⟨w.heap.size + 1, 0, none⟩ (.int .i64 0)).setCell ⟨w.heap.size + 1, 1, none⟩ (.int .i64 0)) = wf at hs hw ⊢
    have e0 := two0 hs
    have e1 := two1 hs
    refine bodyPost_ret (v := .tuple #[.agg #[.int .i64 0, .int .i64 0], .bool false]) (by simp [results, go_sem, e0, e1]) rfl ?_
    exact ⟨rfl, HB.out.trans (hw.below (Nat.le_succ _) HB.out.size)⟩
set_option maxRecDepth 100000 in
set_option maxHeartbeats 8000000 in
theorem chanceMajority_impl_no1 (m a b : Int) (w : World) (hm : inB m 0 12 = false) (h : True) :
    Calls Try.prog 41 #[.int .i64 m, .agg #[.int .i64 a, .int .i64 b]] w fun e w' => e = .returned (.tuple #[.agg #[.int .i64 0, .int .i64 0], .bool false]) ∧ Below w.heap.size w w' := by
  have HT := Lib.hid (Two.new w (.int .i64 a) (.int .i64 b) 25 (w.heap.size) rfl)
  have HB := Lib.hid ((Below.refl w.heap.size w).alloc (Nat.le_refl _) (.cells #[.int .i64 a, .int .i64 b] 25))
  have HR := Lib.hid (Two.new (w.alloc (.cells #[.int .i64 a, .int .i64 b] 25)) (.int .i64 0) (.int .i64 0) 28 (w.heap.size + 1) (by simp))
  replace HT := Lib.hid (HT.out.step ((Below.refl _ _).alloc (Nat.le_refl _) (.cells #[.int .i64 0, .int .i64 0] 28)))
  replace HB := Lib.hid (HB.out.alloc HB.out.size (.cells #[.int .i64 0, .int .i64 0] 28))
  have HG := Lib.hid (fun W => isDoubt_impl a b W)
  cases hd : dOK a b with
  | false =>
    rw [hd] at HG
    clear hd
    go_enter Try.func41, Try.ntmps41
    go_wp2_with fail
    generalize (w.alloc (.cells #[.int .i64 a, .int .i64 b] 25)).alloc (.cells #[.int .i64 0, .int .i64 0] 28) = w0 at HT HR HB ⊢
    have h0 := HT.out.c0
    have h1 := HT.out.c1
    with_reducible refine (HG.out _).mono ?_
    rintro e w1 ⟨rfl, hb⟩
    replace HT := Lib.hid (HT.out.step hb)
    replace HR := Lib.hid (HR.out.step hb)
    replace HB := Lib.hid (below_trans HB.out hb)
    replace h0 := HT.out.c0
    replace h1 := HT.out.c1
    clear hb
    clear HG
    clear h0 h1
    have q0 := HR.out.c0
    have q1 := HR.out.c1
    have q2 := HR.out.f0
    have q3 := HR.out.f1
    go_wp2
    obtain ⟨hs, hw⟩ := stored2 HR.out.row (.int .i64 0) (.int .i64 0)
    generalize ((w1.setCell ⟨w.heap.size + 1, 0, none⟩ (.int .i64 0)).setCell ⟨w.heap.size + 1, 1, none⟩ (.int .i64 0)) = wf at hs hw ⊢
    have e0 := two0 hs
    have e1 := two1 hs
    refine bodyPost_ret (v := .tuple #[.agg #[.int .i64 0, .int .i64 0], .bool false]) (by simp [results, go_sem, e0, e1]) rfl ?_
    exact ⟨rfl, HB.out.trans (hw.below (Nat.le_succ _) HB.out.size)⟩
  | true =>
    rw [hd] at HG
    have HM := Lib.hid (fun W => isDrawn_any m W)
    rw [hm] at HM
    clear hm
    clear hd h
    go_enter Try.func41, Try.ntmps41
    go_wp2_with fail
    generalize (w.alloc (.cells #[.int .i64 a, .int .i64 b] 25)).alloc (.cells #[.int .i64 0, .int .i64 0] 28) = w0 at HT HR HB ⊢
    have h0 := HT.out.c0
    have h1 := HT.out.c1
    with_reducible refine (HG.out _).mono ?_
    rintro e w1 ⟨rfl, hb⟩
    replace HT := Lib.hid (HT.out.step hb)
    replace HR := Lib.hid (HR.out.step hb)
    replace HB := Lib.hid (below_trans HB.out hb)
    replace h0 := HT.out.c0
    replace h1 := HT.out.c1
    clear hb
    clear HG
    clear h0 h1
    have q0 := HR.out.c0
    have q1 := HR.out.c1
    have q2 := HR.out.f0
    have q3 := HR.out.f1
    go_wp2_with (first | (go_at_call 61; (with_reducible refine (HM.out _).mono ?_); rintro e wX ⟨rfl, hw⟩; have hw := hw.symm; subst hw))
    obtain ⟨hs, hw⟩ := stored2 HR.out.row (.int .i64 0) (.int .i64 0)
    generalize ((w1.setCell ⟨w.heap.size + 1, 0, none⟩ (.int .i64 0)).setCell ⟨w.heap.size + 1, 1, none⟩ (.int .i64 0)) = wf at hs hw ⊢
    have e0 := two0 hs
    have e1 := two1 hs
    refine bodyPost_ret (v := .tuple #[.agg #[.int .i64 0, .int .i64 0], .bool false]) (by simp [results, go_sem, e0, e1]) rfl ?_
    exact ⟨rfl, HB.out.trans (hw.below (Nat.le_succ _) HB.out.size)⟩
set_option maxRecDepth 100000 in
set_option maxHeartbeats 8000000 in
theorem chanceMajority_impl_no2 (a b : Int) (w : World) (h : True) :
    Calls Try.prog 41 #[.int .i64 0, .agg #[.int .i64 a, .int .i64 b]] w fun e w' => e = .returned (.tuple #[.agg #[.int .i64 0, .int .i64 0], .bool false]) ∧ Below w.heap.size w w' := by
  have HT := Lib.hid (Two.new w (.int .i64 a) (.int .i64 b) 25 (w.heap.size) rfl)
  have HB := Lib.hid ((Below.refl w.heap.size w).alloc (Nat.le_refl _) (.cells #[.int .i64 a, .int .i64 b] 25))
  have HR := Lib.hid (Two.new (w.alloc (.cells #[.int .i64 a, .int .i64 b] 25)) (.int .i64 0) (.int .i64 0) 28 (w.heap.size + 1) (by simp))
  replace HT := Lib.hid (HT.out.step ((Below.refl _ _).alloc (Nat.le_refl _) (.cells #[.int .i64 0, .int .i64 0] 28)))
  replace HB := Lib.hid (HB.out.alloc HB.out.size (.cells #[.int .i64 0, .int .i64 0] 28))
  have HG := Lib.hid (fun W => isDoubt_impl a b W)
  cases hd : dOK a b with
  | false =>
    rw [hd] at HG
    clear hd
    go_enter Try.func41, Try.ntmps41
    go_wp2_with fail
    generalize (w.alloc (.cells #[.int .i64 a, .int .i64 b] 25)).alloc (.cells #[.int .i64 0, .int .i64 0] 28) = w0 at HT HR HB ⊢
    have h0 := HT.out.c0
    have h1 := HT.out.c1
    with_reducible refine (HG.out _).mono ?_
    rintro e w1 ⟨rfl, hb⟩
    replace HT := Lib.hid (HT.out.step hb)
    replace HR := Lib.hid (HR.out.step hb)
    replace HB := Lib.hid (below_trans HB.out hb)
    replace h0 := HT.out.c0
    replace h1 := HT.out.c1
    clear hb
    clear HG
    clear h0 h1
    have q0 := HR.out.c0
    have q1 := HR.out.c1
    have q2 := HR.out.f0
    have q3 := HR.out.f1
    go_wp2
    obtain ⟨hs, hw⟩ := stored2 HR.out.row (.int .i64 0) (.int .i64 0)
    generalize ((w1.setCell ⟨w.heap.size + 1, 0, none⟩ (.int .i64 0)).setCell ⟨w.heap.size + 1, 1, none⟩ (.int .i64 0)) = wf at hs hw ⊢
    have e0 := two0 hs
    have e1 := two1 hs
    refine bodyPost_ret (v := .tuple #[.agg #[.int .i64 0, .int .i64 0], .bool false]) (by simp [results, go_sem, e0, e1]) rfl ?_
    exact ⟨rfl, HB.out.trans (hw.below (Nat.le_succ _) HB.out.size)⟩
  | true =>
    rw [hd] at HG
    have HM := Lib.hid (fun W => isDrawn_any 0 W)
    rw [show inB 0 0 12 = true from rfl] at HM
    clear hd h
    go_enter Try.func41, Try.ntmps41
    go_wp2_with fail
    generalize (w.alloc (.cells #[.int .i64 a, .int .i64 b] 25)).alloc (.cells #[.int .i64 0, .int .i64 0] 28) = w0 at HT HR HB ⊢
    have h0 := HT.out.c0
    have h1 := HT.out.c1
    with_reducible refine (HG.out _).mono ?_
    rintro e w1 ⟨rfl, hb⟩
    replace HT := Lib.hid (HT.out.step hb)
    replace HR := Lib.hid (HR.out.step hb)
    replace HB := Lib.hid (below_trans HB.out hb)
    replace h0 := HT.out.c0
    replace h1 := HT.out.c1
    clear hb
    clear HG
    clear h0 h1
    have q0 := HR.out.c0
    have q1 := HR.out.c1
    have q2 := HR.out.f0
    have q3 := HR.out.f1
    go_wp2_with (first | (go_at_call 61; (with_reducible refine (HM.out _).mono ?_); rintro e wX ⟨rfl, hw⟩; have hw := hw.symm; subst hw))
    obtain ⟨hs, hw⟩ := stored2 HR.out.row (.int .i64 0) (.int .i64 0)
    generalize ((w1.setCell ⟨w.heap.size + 1, 0, none⟩ (.int .i64 0)).setCell ⟨w.heap.size + 1, 1, none⟩ (.int .i64 0)) = wf at hs hw ⊢
    have e0 := two0 hs
    have e1 := two1 hs
    refine bodyPost_ret (v := .tuple #[.agg #[.int .i64 0, .int .i64 0], .bool false]) (by simp [results, go_sem, e0, e1]) rfl ?_
    exact ⟨rfl, HB.out.trans (hw.below (Nat.le_succ _) HB.out.size)⟩
set_option maxRecDepth 100000 in
set_option maxHeartbeats 8000000 in
theorem chanceMajority_impl_no3 (m a b : Int) (w : World) (hd : dOK a b = false) :
    Calls Try.prog 41 #[.int .i64 m, .agg #[.int .i64 a, .int .i64 b]] w fun e w' => e = .returned (.tuple #[.agg #[.int .i64 0, .int .i64 0], .bool false]) ∧ Below w.heap.size w w' := by
  have HT := Lib.hid (Two.new w (.int .i64 a) (.int .i64 b) 25 (w.heap.size) rfl)
  have HB := Lib.hid ((Below.refl w.heap.size w).alloc (Nat.le_refl _) (.cells #[.int .i64 a, .int .i64 b] 25))
  have HR := Lib.hid (Two.new (w.alloc (.cells #[.int .i64 a, .int .i64 b] 25)) (.int .i64 0) (.int .i64 0) 28 (w.heap.size + 1) (by simp))
  replace HT := Lib.hid (HT.out.step ((Below.refl _ _).alloc (Nat.le_refl _) (.cells #[.int .i64 0, .int .i64 0] 28)))
  replace HB := Lib.hid (HB.out.alloc HB.out.size (.cells #[.int .i64 0, .int .i64 0] 28))
  have HG := Lib.hid (fun W => isDoubt_impl a b W)
  rw [hd] at HG
  clear hd
  go_enter Try.func41, Try.ntmps41
  go_wp2_with fail
  generalize (w.alloc (.cells #[.int .i64 a, .int .i64 b] 25)).alloc (.cells #[.int .i64 0, .int .i64 0] 28) = w0 at HT HR HB ⊢
  have h0 := HT.out.c0
  have h1 := HT.out.c1
  with_reducible refine (HG.out _).mono ?_
  rintro e w1 ⟨rfl, hb⟩
  replace HT := Lib.hid (HT.out.step hb)
  replace HR := Lib.hid (HR.out.step hb)
  replace HB := Lib.hid (below_trans HB.out hb)
  replace h0 := HT.out.c0
  replace h1 := HT.out.c1
  clear hb
  clear HG
  clear h0 h1
  have q0 := HR.out.c0
  have q1 := HR.out.c1
  have q2 := HR.out.f0
  have q3 := HR.out.f1
  go_wp2
  obtain ⟨hs, hw⟩ := stored2 HR.out.row (.int .i64 0) (.int .i64 0)
  generalize ((w1.setCell ⟨w.heap.size + 1, 0, none⟩ (.int .i64 0)).setCell ⟨w.heap.size + 1, 1, none⟩ (.int .i64 0)) = wf at hs hw ⊢
  have e0 := two0 hs
  have e1 := two1 hs
  refine bodyPost_ret (v := .tuple #[.agg #[.int .i64 0, .int .i64 0], .bool false]) (by simp [results, go_sem, e0, e1]) rfl ?_
  exact ⟨rfl, HB.out.trans (hw.below (Nat.le_succ _) HB.out.size)⟩
set_option maxRecDepth 100000 in
set_option maxHeartbeats 8000000 in
theorem chanceFalse_spec_no (m k a b : Int) (w : World) (h : (dOK a b && mkOK m k) = false) :
    Calls Try.prog 18 #[.int .i64 m, .int .i64 k, .agg #[.int .i64 a, .int .i64 b]] w fun e w' => e = .returned (.tuple #[.agg #[.int .i64 0, .int .i64 0], .bool false]) ∧ Below w.heap.size w w' := by
  have HT := Lib.hid (Two.new w (.int .i64 a) (.int .i64 b) 25 (w.heap.size) rfl)
  have HB := Lib.hid ((Below.refl w.heap.size w).alloc (Nat.le_refl _) (.cells #[.int .i64 a, .int .i64 b] 25))
  have HR := Lib.hid (Two.new (w.alloc (.cells #[.int .i64 a, .int .i64 b] 25)) (.int .i64 0) (.int .i64 0) 28 (w.heap.size + 1) (by simp))
  replace HT := Lib.hid (HT.out.step ((Below.refl _ _).alloc (Nat.le_refl _) (.cells #[.int .i64 0, .int .i64 0] 28)))
  replace HB := Lib.hid (HB.out.alloc HB.out.size (.cells #[.int .i64 0, .int .i64 0] 28))
  have HG := Lib.hid (fun W => l7Drawn_any m k a b W)
  rw [h] at HG
  clear h
  go_enter Try.func18, Try.ntmps18
  go_wp2_with fail
  generalize (w.alloc (.cells #[.int .i64 a, .int .i64 b] 25)).alloc (.cells #[.int .i64 0, .int .i64 0] 28) = w0 at HT HR HB ⊢
  have h0 := HT.out.c0
  have h1 := HT.out.c1
  with_reducible refine (HG.out _).mono ?_
  rintro e w1 ⟨rfl, hb⟩
  replace HT := Lib.hid (HT.out.step hb)
  replace HR := Lib.hid (HR.out.step hb)
  replace HB := Lib.hid (below_trans HB.out hb)
  replace h0 := HT.out.c0
  replace h1 := HT.out.c1
  clear hb
  clear HG
  clear h0 h1
  have q0 := HR.out.c0
  have q1 := HR.out.c1
  have q2 := HR.out.f0
  have q3 := HR.out.f1
  go_wp2
  obtain ⟨hs, hw⟩ := stored2 HR.out.row (.int .i64 0) (.int .i64 0)
  generalize ((w1.setCell ⟨w.heap.size + 1, 0, none⟩ (.int .i64 0)).setCell ⟨w.heap.size + 1, 1, none⟩ (.int .i64 0)) = wf at hs hw ⊢
  have e0 := two0 hs
  have e1 := two1 hs
  refine bodyPost_ret (v := .tuple #[.agg #[.int .i64 0, .int .i64 0], .bool false]) (by simp [results, go_sem, e0, e1]) rfl ?_
  exact ⟨rfl, HB.out.trans (hw.below (Nat.le_succ _) HB.out.size)⟩
set_option maxRecDepth 100000 in
set_option maxHeartbeats 8000000 in
theorem chanceWithin_spec_no (m k a b : Int) (w : World) (h : (dOK a b && mkOK m k) = false) :
    Calls Try.prog 21 #[.int .i64 m, .int .i64 k, .agg #[.int .i64 a, .int .i64 b]] w fun e w' => e = .returned (.tuple #[.agg #[.int .i64 0, .int .i64 0], .bool false]) ∧ Below w.heap.size w w' := by
  have HT := Lib.hid (Two.new w (.int .i64 a) (.int .i64 b) 25 (w.heap.size) rfl)
  have HB := Lib.hid ((Below.refl w.heap.size w).alloc (Nat.le_refl _) (.cells #[.int .i64 a, .int .i64 b] 25))
  have HR := Lib.hid (Two.new (w.alloc (.cells #[.int .i64 a, .int .i64 b] 25)) (.int .i64 0) (.int .i64 0) 28 (w.heap.size + 1) (by simp))
  replace HT := Lib.hid (HT.out.step ((Below.refl _ _).alloc (Nat.le_refl _) (.cells #[.int .i64 0, .int .i64 0] 28)))
  replace HB := Lib.hid (HB.out.alloc HB.out.size (.cells #[.int .i64 0, .int .i64 0] 28))
  have HG := Lib.hid (fun W => l7Drawn_any m k a b W)
  rw [h] at HG
  clear h
  go_enter Try.func21, Try.ntmps21
  go_wp2_with fail
  generalize (w.alloc (.cells #[.int .i64 a, .int .i64 b] 25)).alloc (.cells #[.int .i64 0, .int .i64 0] 28) = w0 at HT HR HB ⊢
  have h0 := HT.out.c0
  have h1 := HT.out.c1
  with_reducible refine (HG.out _).mono ?_
  rintro e w1 ⟨rfl, hb⟩
  replace HT := Lib.hid (HT.out.step hb)
  replace HR := Lib.hid (HR.out.step hb)
  replace HB := Lib.hid (below_trans HB.out hb)
  replace h0 := HT.out.c0
  replace h1 := HT.out.c1
  clear hb
  clear HG
  clear h0 h1
  have q0 := HR.out.c0
  have q1 := HR.out.c1
  have q2 := HR.out.f0
  have q3 := HR.out.f1
  go_wp2
  obtain ⟨hs, hw⟩ := stored2 HR.out.row (.int .i64 0) (.int .i64 0)
  generalize ((w1.setCell ⟨w.heap.size + 1, 0, none⟩ (.int .i64 0)).setCell ⟨w.heap.size + 1, 1, none⟩ (.int .i64 0)) = wf at hs hw ⊢
  have e0 := two0 hs
  have e1 := two1 hs
  refine bodyPost_ret (v := .tuple #[.agg #[.int .i64 0, .int .i64 0], .bool false]) (by simp [results, go_sem, e0, e1]) rfl ?_
  exact ⟨rfl, HB.out.trans (hw.below (Nat.le_succ _) HB.out.size)⟩
set_option maxRecDepth 100000 in
set_option maxHeartbeats 8000000 in
theorem meanFalse_spec_no (m a b : Int) (w : World) (h : (dOK a b && mkOK m 0) = false) :
    Calls Try.prog 23 #[.int .i64 m, .agg #[.int .i64 a, .int .i64 b]] w fun e w' => e = .returned (.tuple #[.agg #[.int .i64 0, .int .i64 0], .bool false]) ∧ Below w.heap.size w w' := by
  have HT := Lib.hid (Two.new w (.int .i64 a) (.int .i64 b) 25 (w.heap.size) rfl)
  have HB := Lib.hid ((Below.refl w.heap.size w).alloc (Nat.le_refl _) (.cells #[.int .i64 a, .int .i64 b] 25))
  have HR := Lib.hid (Two.new (w.alloc (.cells #[.int .i64 a, .int .i64 b] 25)) (.int .i64 0) (.int .i64 0) 28 (w.heap.size + 1) (by simp))
  replace HT := Lib.hid (HT.out.step ((Below.refl _ _).alloc (Nat.le_refl _) (.cells #[.int .i64 0, .int .i64 0] 28)))
  replace HB := Lib.hid (HB.out.alloc HB.out.size (.cells #[.int .i64 0, .int .i64 0] 28))
  have HG := Lib.hid (fun W => l7Drawn_any m 0 a b W)
  rw [h] at HG
  clear h
  go_enter Try.func23, Try.ntmps23
  go_wp2_with fail
  generalize (w.alloc (.cells #[.int .i64 a, .int .i64 b] 25)).alloc (.cells #[.int .i64 0, .int .i64 0] 28) = w0 at HT HR HB ⊢
  have h0 := HT.out.c0
  have h1 := HT.out.c1
  with_reducible refine (HG.out _).mono ?_
  rintro e w1 ⟨rfl, hb⟩
  replace HT := Lib.hid (HT.out.step hb)
  replace HR := Lib.hid (HR.out.step hb)
  replace HB := Lib.hid (below_trans HB.out hb)
  replace h0 := HT.out.c0
  replace h1 := HT.out.c1
  clear hb
  clear HG
  clear h0 h1
  have q0 := HR.out.c0
  have q1 := HR.out.c1
  have q2 := HR.out.f0
  have q3 := HR.out.f1
  go_wp2
  obtain ⟨hs, hw⟩ := stored2 HR.out.row (.int .i64 0) (.int .i64 0)
  generalize ((w1.setCell ⟨w.heap.size + 1, 0, none⟩ (.int .i64 0)).setCell ⟨w.heap.size + 1, 1, none⟩ (.int .i64 0)) = wf at hs hw ⊢
  have e0 := two0 hs
  have e1 := two1 hs
  refine bodyPost_ret (v := .tuple #[.agg #[.int .i64 0, .int .i64 0], .bool false]) (by simp [results, go_sem, e0, e1]) rfl ?_
  exact ⟨rfl, HB.out.trans (hw.below (Nat.le_succ _) HB.out.size)⟩
set_option maxRecDepth 100000 in
set_option maxHeartbeats 8000000 in
theorem chanceMajority_spec_no (m a b : Int) (w : World) (h : (dOK a b && mkOK m 0) = false) :
    Calls Try.prog 40 #[.int .i64 m, .agg #[.int .i64 a, .int .i64 b]] w fun e w' => e = .returned (.tuple #[.agg #[.int .i64 0, .int .i64 0], .bool false]) ∧ Below w.heap.size w w' := by
  have HT := Lib.hid (Two.new w (.int .i64 a) (.int .i64 b) 25 (w.heap.size) rfl)
  have HB := Lib.hid ((Below.refl w.heap.size w).alloc (Nat.le_refl _) (.cells #[.int .i64 a, .int .i64 b] 25))
  have HR := Lib.hid (Two.new (w.alloc (.cells #[.int .i64 a, .int .i64 b] 25)) (.int .i64 0) (.int .i64 0) 28 (w.heap.size + 1) (by simp))
  replace HT := Lib.hid (HT.out.step ((Below.refl _ _).alloc (Nat.le_refl _) (.cells #[.int .i64 0, .int .i64 0] 28)))
  replace HB := Lib.hid (HB.out.alloc HB.out.size (.cells #[.int .i64 0, .int .i64 0] 28))
  have HG := Lib.hid (fun W => l7Drawn_any m 0 a b W)
  rw [h] at HG
  clear h
  go_enter Try.func40, Try.ntmps40
  go_wp2_with fail
  generalize (w.alloc (.cells #[.int .i64 a, .int .i64 b] 25)).alloc (.cells #[.int .i64 0, .int .i64 0] 28) = w0 at HT HR HB ⊢
  have h0 := HT.out.c0
  have h1 := HT.out.c1
  with_reducible refine (HG.out _).mono ?_
  rintro e w1 ⟨rfl, hb⟩
  replace HT := Lib.hid (HT.out.step hb)
  replace HR := Lib.hid (HR.out.step hb)
  replace HB := Lib.hid (below_trans HB.out hb)
  replace h0 := HT.out.c0
  replace h1 := HT.out.c1
  clear hb
  clear HG
  clear h0 h1
  have q0 := HR.out.c0
  have q1 := HR.out.c1
  have q2 := HR.out.f0
  have q3 := HR.out.f1
  go_wp2
  obtain ⟨hs, hw⟩ := stored2 HR.out.row (.int .i64 0) (.int .i64 0)
  generalize ((w1.setCell ⟨w.heap.size + 1, 0, none⟩ (.int .i64 0)).setCell ⟨w.heap.size + 1, 1, none⟩ (.int .i64 0)) = wf at hs hw ⊢
  have e0 := two0 hs
  have e1 := two1 hs
  refine bodyPost_ret (v := .tuple #[.agg #[.int .i64 0, .int .i64 0], .bool false]) (by simp [results, go_sem, e0, e1]) rfl ?_
  exact ⟨rfl, HB.out.trans (hw.below (Nat.le_succ _) HB.out.size)⟩
set_option maxRecDepth 100000 in
set_option maxHeartbeats 8000000 in
theorem chanceMajority_spec_no2 (a b : Int) (w : World) (h : (dOK a b && mkOK 0 0) = true) :
    Calls Try.prog 40 #[.int .i64 0, .agg #[.int .i64 a, .int .i64 b]] w fun e w' => e = .returned (.tuple #[.agg #[.int .i64 0, .int .i64 0], .bool false]) ∧ Below w.heap.size w w' := by
  have HT := Lib.hid (Two.new w (.int .i64 a) (.int .i64 b) 25 (w.heap.size) rfl)
  have HB := Lib.hid ((Below.refl w.heap.size w).alloc (Nat.le_refl _) (.cells #[.int .i64 a, .int .i64 b] 25))
  have HR := Lib.hid (Two.new (w.alloc (.cells #[.int .i64 a, .int .i64 b] 25)) (.int .i64 0) (.int .i64 0) 28 (w.heap.size + 1) (by simp))
  replace HT := Lib.hid (HT.out.step ((Below.refl _ _).alloc (Nat.le_refl _) (.cells #[.int .i64 0, .int .i64 0] 28)))
  replace HB := Lib.hid (HB.out.alloc HB.out.size (.cells #[.int .i64 0, .int .i64 0] 28))
  have HG := Lib.hid (fun W => l7Drawn_any 0 0 a b W)
  rw [h] at HG
  clear h
  go_enter Try.func40, Try.ntmps40
  go_wp2_with fail
  generalize (w.alloc (.cells #[.int .i64 a, .int .i64 b] 25)).alloc (.cells #[.int .i64 0, .int .i64 0] 28) = w0 at HT HR HB ⊢
  have h0 := HT.out.c0
  have h1 := HT.out.c1
  with_reducible refine (HG.out _).mono ?_
  rintro e w1 ⟨rfl, hb⟩
  replace HT := Lib.hid (HT.out.step hb)
  replace HR := Lib.hid (HR.out.step hb)
  replace HB := Lib.hid (below_trans HB.out hb)
  replace h0 := HT.out.c0
  replace h1 := HT.out.c1
  clear hb
  clear HG
  clear h0 h1
  have q0 := HR.out.c0
  have q1 := HR.out.c1
  have q2 := HR.out.f0
  have q3 := HR.out.f1
  go_wp2
  obtain ⟨hs, hw⟩ := stored2 HR.out.row (.int .i64 0) (.int .i64 0)
  generalize ((w1.setCell ⟨w.heap.size + 1, 0, none⟩ (.int .i64 0)).setCell ⟨w.heap.size + 1, 1, none⟩ (.int .i64 0)) = wf at hs hw ⊢
  have e0 := two0 hs
  have e1 := two1 hs
  refine bodyPost_ret (v := .tuple #[.agg #[.int .i64 0, .int .i64 0], .bool false]) (by simp [results, go_sem, e0, e1]) rfl ?_
  exact ⟨rfl, HB.out.trans (hw.below (Nat.le_succ _) HB.out.size)⟩
theorem mk0 (m : Int) : mkOK m 0 = inB m 0 12 := by
  rw [Bool.eq_iff_iff, mkOK_iff, inB_iff]; omega
end Go.Proofs.Ytlhpbhmldcinmaa
