/- LikeliestAfter, of both sides. -/
import Derived.Test.YtbgdnidbdfhgjabL7v
namespace Go.Proofs.Ytbgdnidbdfhgjab
open Go.RowKit Go.ChangeShapes Go.WideShapes Go.Maps
set_option linter.unusedVariables false

set_option maxRecDepth 100000 in
set_option maxHeartbeats 4000000 in
theorem likeliestAfter_impl (n a b : Nat) (A : Option Addr) (c lo hi : Nat) (l : List (Int × Bool)) (w : World) (hS : AIns w lo hi A l) (hg : Given n a b l) (hpos : 0 < sumF (g7 a b l) n) :
    Calls Try.prog 19 #[.int .i64 (n : Int), .slice A l.length c, .agg #[.int .i64 (a : Int), .int .i64 (b : Int)]] w fun e w' => e = .returned (.tuple #[.int .i64 ((bestTo (g7 a b l) (n - 1) : Nat) : Int), .bool true]) ∧ Below w.heap.size w w' := by
  have HT := Lib.hid (Two.new w (.int .i64 (a : Int)) (.int .i64 (b : Int)) 31 (w.heap.size) rfl)
  have HB := Lib.hid ((Below.refl w.heap.size w).alloc (Nat.le_refl _) (.cells #[.int .i64 (a : Int), .int .i64 (b : Int)] 31))
  have HI := Lib.hid (hS.step HB.out)
  have HCA := Lib.hid (fun W h => chancesAfter_impl n a b A c lo hi l W h hg hpos)
  have hs := hg.sum n (Nat.le_refl _)
  have hn12 := hg.n12
  have hn1 := hg.n1
  have hle := bestTo_le (g7 a b l) (n - 1)
  have HMF := Lib.hid (fun (W : World) (B : Option Addr) (d lo hi : Nat) (h : PIns W lo hi B ((List.range n).map (pairN (g7 a b l) (sumF (g7 a b l) n)))) => maxFuncP_any B d lo hi (g7 a b l) (sumF (g7 a b l) n) n hpos (by omega) (fun k => by have := hg.bd k; omega) hn1 hn12 W h)
  have HIX := Lib.hid (fun (W : World) (B : Option Addr) (d lo hi : Nat) (h : PIns W lo hi B ((List.range n).map (pairN (g7 a b l) (sumF (g7 a b l) n)))) => indexP_any B d lo hi (g7 a b l) (sumF (g7 a b l) n) n (bestTo (g7 a b l) (n - 1)) (by omega) hn12 (fun j hj => pair_ne hpos (by have := bestTo_first (g7 a b l) (n - 1) j hj; omega)) W h)
  simp only [chP_fn, List.length_map, List.length_range] at HCA
  generalize (List.range n).map (pairN (g7 a b l) (sumF (g7 a b l) n)) = L at HCA HMF HIX
  generalize fr1 (g7 a b l (bestTo (g7 a b l) (n - 1))) (sumF (g7 a b l) n) = X at HMF HIX
  generalize fr2 (g7 a b l (bestTo (g7 a b l) (n - 1))) (sumF (g7 a b l) n) = Y at HMF HIX
  clear hS hg hpos hs hle
  go_enter Try.func19, Try.ntmps19
  go_wp2_with fail
  generalize w.alloc (.cells #[.int .i64 (a : Int), .int .i64 (b : Int)] 31) = w0 at HT HB HI ⊢
  have h0 := HT.out.c0
  have h1 := HT.out.c1
  with_reducible refine (HCA.out _ HI.out).mono ?_
  rintro e w1 ⟨B, d, rfl, hp, hb⟩
  replace HB := Lib.hid (below_trans HB.out hb)
  have HP := Lib.hid hp.ins
  clear hb hp h0 h1 HCA HT HI
  go_wp2_with fail
  with_reducible refine (HMF.out _ _ _ _ _ HP.out).mono ?_
  rintro e w2 ⟨rfl, hb⟩
  replace HB := Lib.hid (below_trans HB.out hb)
  replace HP := Lib.hid (HP.out.step hb)
  clear hb
  go_wp2_with fail
  with_reducible refine (HIX.out _ _ _ _ _ HP.out).mono ?_
  rintro e w3 ⟨rfl, hb⟩
  replace HB := Lib.hid (below_trans HB.out hb)
  clear hb
  go_wp2
  go_ret2
  exact ⟨rfl, HB.out⟩
set_option maxRecDepth 100000 in
set_option maxHeartbeats 4000000 in
theorem likeliestAfter_impl_no1 (n a b : Int) (A : Option Addr) (c lo hi : Nat) (l : List (Int × Bool)) (w : World) (hS : AIns w lo hi A l) (hl : l.length ≤ 1048576) (h : givenB n l a b = false) :
    Calls Try.prog 19 #[.int .i64 n, .slice A l.length c, .agg #[.int .i64 a, .int .i64 b]] w fun e w' => e = .returned (.tuple #[.int .i64 0, .bool false]) ∧ Below w.heap.size w w' := by
  have HT := Lib.hid (Two.new w (.int .i64 a) (.int .i64 b) 31 (w.heap.size) rfl)
  have HB := Lib.hid ((Below.refl w.heap.size w).alloc (Nat.le_refl _) (.cells #[.int .i64 a, .int .i64 b] 31))
  have HI := Lib.hid (hS.step HB.out)
  have HCA := Lib.hid (fun W hh => chancesAfter_impl_no1 n a b A c lo hi l W hh hl h)
  clear hS
  go_enter Try.func19, Try.ntmps19
  go_wp2_with fail
  generalize w.alloc (.cells #[.int .i64 a, .int .i64 b] 31) = w0 at HT HB HI ⊢
  have h0 := HT.out.c0
  have h1 := HT.out.c1
  with_reducible refine (HCA.out _ HI.out).mono ?_
  rintro e w1 ⟨B, d, rfl, hp, hb⟩
  replace HB := Lib.hid (below_trans HB.out hb)
  clear hb hp h0 h1
  go_wp2
  go_ret2
  exact ⟨rfl, HB.out⟩
set_option maxRecDepth 100000 in
set_option maxHeartbeats 4000000 in
theorem likeliestAfter_impl_no2 (n a b : Nat) (A : Option Addr) (c lo hi : Nat) (l : List (Int × Bool)) (w : World) (hS : AIns w lo hi A l) (hg : Given n a b l) (hpos : ¬ 0 < sumF (g7 a b l) n) :
    Calls Try.prog 19 #[.int .i64 (n : Int), .slice A l.length c, .agg #[.int .i64 (a : Int), .int .i64 (b : Int)]] w fun e w' => e = .returned (.tuple #[.int .i64 0, .bool false]) ∧ Below w.heap.size w w' := by
  have HT := Lib.hid (Two.new w (.int .i64 (a : Int)) (.int .i64 (b : Int)) 31 (w.heap.size) rfl)
  have HB := Lib.hid ((Below.refl w.heap.size w).alloc (Nat.le_refl _) (.cells #[.int .i64 (a : Int), .int .i64 (b : Int)] 31))
  have HI := Lib.hid (hS.step HB.out)
  have HCA := Lib.hid (fun W hh => chancesAfter_impl_no2 n a b A c lo hi l W hh hg hpos)
  clear hS
  go_enter Try.func19, Try.ntmps19
  go_wp2_with fail
  generalize w.alloc (.cells #[.int .i64 (a : Int), .int .i64 (b : Int)] 31) = w0 at HT HB HI ⊢
  have h0 := HT.out.c0
  have h1 := HT.out.c1
  with_reducible refine (HCA.out _ HI.out).mono ?_
  rintro e w1 ⟨B, d, rfl, hp, hb⟩
  replace HB := Lib.hid (below_trans HB.out hb)
  clear hb hp h0 h1
  go_wp2
  go_ret2
  exact ⟨rfl, HB.out⟩
set_option maxRecDepth 100000 in
set_option maxHeartbeats 4000000 in
theorem likeliestAfter_spec_no1 (n a b : Int) (A : Option Addr) (c lo hi : Nat) (l : List (Int × Bool)) (w : World) (hS : AIns w lo hi A l) (hl : l.length ≤ 1048576) (h : givenB n l a b = false) :
    Calls Try.prog 18 #[.int .i64 n, .slice A l.length c, .agg #[.int .i64 a, .int .i64 b]] w fun e w' => e = .returned (.tuple #[.int .i64 0, .bool false]) ∧ Below w.heap.size w w' := by
  have HT := Lib.hid (Two.new w (.int .i64 a) (.int .i64 b) 31 (w.heap.size) rfl)
  have HB := Lib.hid ((Below.refl w.heap.size w).alloc (Nat.le_refl _) (.cells #[.int .i64 a, .int .i64 b] 31))
  have HI := Lib.hid (hS.step HB.out)
  have HA := Lib.hid (fun W hh => l7Answers_any n a b A c lo hi l W hh hl)
  rw [h] at HA
  clear hS h
  go_enter Try.func18, Try.ntmps18
  go_wp2_with fail
  generalize w.alloc (.cells #[.int .i64 a, .int .i64 b] 31) = w0 at HT HB HI ⊢
  have h0 := HT.out.c0
  have h1 := HT.out.c1
  with_reducible refine (HA.out _ HI.out).mono ?_
  rintro e w1 ⟨rfl, hb⟩
  replace HB := Lib.hid (below_trans HB.out hb)
  clear hb h0 h1
  go_wp2
  go_ret2
  exact ⟨rfl, HB.out⟩
set_option maxRecDepth 100000 in
set_option maxHeartbeats 4000000 in
theorem likeliestAfter_spec (n a b : Nat) (A : Option Addr) (c lo hi : Nat) (l : List (Int × Bool)) (w : World) (hS : AIns w lo hi A l) (hg : Given n a b l) (hpos : 0 < sumF (g7 a b l) n) :
    Calls Try.prog 18 #[.int .i64 (n : Int), .slice A l.length c, .agg #[.int .i64 (a : Int), .int .i64 (b : Int)]] w fun e w' => e = .returned (.tuple #[.int .i64 ((bestTo (g7 a b l) (n - 1) : Nat) : Int), .bool true]) ∧ Below w.heap.size w w' := by
  have HT := Lib.hid (Two.new w (.int .i64 (a : Int)) (.int .i64 (b : Int)) 31 (w.heap.size) rfl)
  have HB := Lib.hid ((Below.refl w.heap.size w).alloc (Nat.le_refl _) (.cells #[.int .i64 (a : Int), .int .i64 (b : Int)] 31))
  have HI := Lib.hid (hS.step HB.out)
  have HA := Lib.hid (fun W h => l7Answers_any (n : Int) (a : Int) (b : Int) A c lo hi l W h (by have := hg.l12; omega))
  rw [hg.yes] at HA
  have HD := Lib.hid (fun W h => l7After_any n a b A c lo hi l W h hg)
  have hn12 := hg.n12
  have hn1 := hg.n1
  have hSp : (0 : Int) < ((sumF (g7 a b l) n : Nat) : Int) := by omega
  generalize sumF (g7 a b l) n = S at HD hpos hSp
  clear hS hg
  go_enter Try.func18, Try.ntmps18
  go_wp2_with fail
  generalize w.alloc (.cells #[.int .i64 (a : Int), .int .i64 (b : Int)] 31) = w0 at HT HB HI ⊢
  have h0 := HT.out.c0
  have h1 := HT.out.c1
  with_reducible refine (HA.out _ HI.out).mono ?_
  rintro e w1 ⟨rfl, hb⟩
  replace HT := Lib.hid (HT.out.step hb)
  replace HB := Lib.hid (below_trans HB.out hb)
  replace HI := Lib.hid (HI.out.step hb)
  replace h0 := HT.out.c0
  replace h1 := HT.out.c1
  clear hb
  go_wp2_with fail
  with_reducible refine (HD.out _ HI.out).mono ?_
  rintro e w2 ⟨v, rfl, hrow, hb⟩
  replace HB := Lib.hid (below_trans HB.out hb)
  clear hb h0 h1 HI HT HA HD
  obtain ⟨gr, cr, rfl, hgr, hOr⟩ := row_ownN hrow (by omega)
  have HW := Lib.hid hOr
  clear hrow hOr
  go_wp2_with fail
  go_loopw [10, 11] (fun bs i wr => ∃ (k : Nat), 1 ≤ k ∧ k ≤ n ∧ i = .int .i64 (k : Int) ∧ bs = .int .i64 ((bestTo (g7 a b l) (k - 1) : Nat) : Int) ∧ Hid (Own wr gr (gr + 1) (some ⟨gr, 0, none⟩) (zsN (g7 a b l) n)) ∧ Hid (Below w.heap.size w wr)) (fun _ i _ => n - (intOf i).toNat)
  case atStart => exact ⟨1, by omega, by omega, rfl, rfl, HW, HB⟩
  case round =>
    clear HW HB
    obtain ⟨k, hk1, hk, rfl, rfl, HW, HB⟩ := hrel
    rename World => wr
    by_cases hlt : k < n
    · obtain ⟨cur, hcr, hcs, hcc⟩ := own_at HW.out
      have hle := bestTo_le (g7 a b l) (k - 1)
      have hc1 : wr.cell? ⟨gr, k, none⟩ = some (.int .i64 ((g7 a b l k : Nat) : Int)) := by rw [row_cellI hcr]; exact hcc k _ (zsN_atP (g7 a b l) hlt)
      have hc2 : wr.cell? ⟨gr, bestTo (g7 a b l) (k - 1), none⟩ = some (.int .i64 ((g7 a b l (bestTo (g7 a b l) (k - 1)) : Nat) : Int)) := by rw [row_cellI hcr]; exact hcc _ _ (zsN_atP (g7 a b l) (by omega))
      have HST := Lib.hid (bestTo_step (g7 a b l) hk1)
      generalize g7 a b l k = x at hc1 HST
      generalize g7 a b l (bestTo (g7 a b l) (k - 1)) = y at hc2 HST
      generalize hbs : bestTo (g7 a b l) (k - 1) = bs at hc2 HST hle ⊢
      have HBS := Lib.hid hbs
      clear hbs hcr hcs hcc
      have hki : (k : Int) < (n : Int) := by omega
      have hk0 : (0 : Int) ≤ (k : Int) := by omega
      have hbi : (bs : Int) < (n : Int) := by omega
      have hb0 : (0 : Int) ≤ (bs : Int) := by omega
      by_cases hcv : y < x
      · have HST2 := Lib.hid (show bestTo (g7 a b l) k = k by rw [HST.out, if_pos hcv])
        have hcvi : (y : Int) < (x : Int) := by omega
        clear HST
        go_wp2_with fail
        go_quiet (fail)
        go_wp2
        go_roundw
        case rel => exact ⟨k + 1, by omega, by omega, by go_num, by rw [Nat.add_sub_cancel, HST2.out], (by first | exact HW | exact Lib.hid (own_same HW.out rfl)), (by first | exact HB | exact Lib.hid (belowN7 HB.out _))⟩
        case measure => simp [intOf]; omega
      · have HST2 := Lib.hid (show bestTo (g7 a b l) k = bs by rw [HST.out, if_neg hcv])
        have hcvi : ¬ (y : Int) < (x : Int) := by omega
        clear HST
        go_wp2_with fail
        go_quiet (fail)
        go_wp2
        go_roundw
        case rel => exact ⟨k + 1, by omega, by omega, by go_num, by rw [Nat.add_sub_cancel, HST2.out], (by first | exact HW | exact Lib.hid (own_same HW.out rfl)), (by first | exact HB | exact Lib.hid (belowN7 HB.out _))⟩
        case measure => simp [intOf]; omega
    · obtain rfl : k = n := by omega
      go_wp2
      go_ret2
      exact ⟨rfl, HB.out⟩
set_option maxRecDepth 100000 in
set_option maxHeartbeats 4000000 in
theorem likeliestAfter_spec_no2 (n a b : Nat) (A : Option Addr) (c lo hi : Nat) (l : List (Int × Bool)) (w : World) (hS : AIns w lo hi A l) (hg : Given n a b l) (hpos : ¬ 0 < sumF (g7 a b l) n) :
    Calls Try.prog 18 #[.int .i64 (n : Int), .slice A l.length c, .agg #[.int .i64 (a : Int), .int .i64 (b : Int)]] w fun e w' => e = .returned (.tuple #[.int .i64 0, .bool false]) ∧ Below w.heap.size w w' := by
  have HT := Lib.hid (Two.new w (.int .i64 (a : Int)) (.int .i64 (b : Int)) 31 (w.heap.size) rfl)
  have HB := Lib.hid ((Below.refl w.heap.size w).alloc (Nat.le_refl _) (.cells #[.int .i64 (a : Int), .int .i64 (b : Int)] 31))
  have HI := Lib.hid (hS.step HB.out)
  have HA := Lib.hid (fun W h => l7Answers_any (n : Int) (a : Int) (b : Int) A c lo hi l W h (by have := hg.l12; omega))
  rw [hg.yes] at HA
  have HD := Lib.hid (fun W h => l7After_any n a b A c lo hi l W h hg)
  have hn12 := hg.n12
  have hn1 := hg.n1
  have hz : sumF (g7 a b l) n = 0 := by omega
  rw [hz, show ((0 : Nat) : Int) = 0 from rfl] at HD
  have HZ := Lib.hid (show bestTo (g7 a b l) (n - 1) = 0 by
    have h1 := bestTo_le (g7 a b l) (n - 1)
    have h2 := sumF_zero n hz
    by_cases h0 : bestTo (g7 a b l) (n - 1) = 0
    · exact h0
    · have h3 := bestTo_first (g7 a b l) (n - 1) 0 (by omega)
      have h4 := h2 (bestTo (g7 a b l) (n - 1)) (by omega)
      omega)
  clear hz hpos
  clear hS hg
  go_enter Try.func18, Try.ntmps18
  go_wp2_with fail
  generalize w.alloc (.cells #[.int .i64 (a : Int), .int .i64 (b : Int)] 31) = w0 at HT HB HI ⊢
  have h0 := HT.out.c0
  have h1 := HT.out.c1
  with_reducible refine (HA.out _ HI.out).mono ?_
  rintro e w1 ⟨rfl, hb⟩
  replace HT := Lib.hid (HT.out.step hb)
  replace HB := Lib.hid (below_trans HB.out hb)
  replace HI := Lib.hid (HI.out.step hb)
  replace h0 := HT.out.c0
  replace h1 := HT.out.c1
  clear hb
  go_wp2_with fail
  with_reducible refine (HD.out _ HI.out).mono ?_
  rintro e w2 ⟨v, rfl, hrow, hb⟩
  replace HB := Lib.hid (below_trans HB.out hb)
  clear hb h0 h1 HI HT HA HD
  obtain ⟨gr, cr, rfl, hgr, hOr⟩ := row_ownN hrow (by omega)
  have HW := Lib.hid hOr
  clear hrow hOr
  go_wp2_with fail
  go_loopw [10, 11] (fun bs i wr => ∃ (k : Nat), 1 ≤ k ∧ k ≤ n ∧ i = .int .i64 (k : Int) ∧ bs = .int .i64 ((bestTo (g7 a b l) (k - 1) : Nat) : Int) ∧ Hid (Own wr gr (gr + 1) (some ⟨gr, 0, none⟩) (zsN (g7 a b l) n)) ∧ Hid (Below w.heap.size w wr)) (fun _ i _ => n - (intOf i).toNat)
  case atStart => exact ⟨1, by omega, by omega, rfl, rfl, HW, HB⟩
  case round =>
    clear HW HB
    obtain ⟨k, hk1, hk, rfl, rfl, HW, HB⟩ := hrel
    rename World => wr
    by_cases hlt : k < n
    · obtain ⟨cur, hcr, hcs, hcc⟩ := own_at HW.out
      have hle := bestTo_le (g7 a b l) (k - 1)
      have hc1 : wr.cell? ⟨gr, k, none⟩ = some (.int .i64 ((g7 a b l k : Nat) : Int)) := by rw [row_cellI hcr]; exact hcc k _ (zsN_atP (g7 a b l) hlt)
      have hc2 : wr.cell? ⟨gr, bestTo (g7 a b l) (k - 1), none⟩ = some (.int .i64 ((g7 a b l (bestTo (g7 a b l) (k - 1)) : Nat) : Int)) := by rw [row_cellI hcr]; exact hcc _ _ (zsN_atP (g7 a b l) (by omega))
      have HST := Lib.hid (bestTo_step (g7 a b l) hk1)
      generalize g7 a b l k = x at hc1 HST
      generalize g7 a b l (bestTo (g7 a b l) (k - 1)) = y at hc2 HST
      generalize hbs : bestTo (g7 a b l) (k - 1) = bs at hc2 HST hle ⊢
      have HBS := Lib.hid hbs
      clear hbs hcr hcs hcc
      have hki : (k : Int) < (n : Int) := by omega
      have hk0 : (0 : Int) ≤ (k : Int) := by omega
      have hbi : (bs : Int) < (n : Int) := by omega
      have hb0 : (0 : Int) ≤ (bs : Int) := by omega
      by_cases hcv : y < x
      · have HST2 := Lib.hid (show bestTo (g7 a b l) k = k by rw [HST.out, if_pos hcv])
        have hcvi : (y : Int) < (x : Int) := by omega
        clear HST
        go_wp2_with fail
        go_quiet (fail)
        go_wp2
        go_roundw
        case rel => exact ⟨k + 1, by omega, by omega, by go_num, by rw [Nat.add_sub_cancel, HST2.out], (by first | exact HW | exact Lib.hid (own_same HW.out rfl)), (by first | exact HB | exact Lib.hid (belowN7 HB.out _))⟩
        case measure => simp [intOf]; omega
      · have HST2 := Lib.hid (show bestTo (g7 a b l) k = bs by rw [HST.out, if_neg hcv])
        have hcvi : ¬ (y : Int) < (x : Int) := by omega
        clear HST
        go_wp2_with fail
        go_quiet (fail)
        go_wp2
        go_roundw
        case rel => exact ⟨k + 1, by omega, by omega, by go_num, by rw [Nat.add_sub_cancel, HST2.out], (by first | exact HW | exact Lib.hid (own_same HW.out rfl)), (by first | exact HB | exact Lib.hid (belowN7 HB.out _))⟩
        case measure => simp [intOf]; omega
    · obtain rfl : k = n := by omega
      go_wp2
      go_ret2
      exact ⟨by rw [HZ.out]; rfl, HB.out⟩

/-- Both sides answer the same number. -/
theorem likeliestAfter_both (n : Int) (l : List (Int × Bool)) (hl : l.length ≤ 1048576) (a b : Int) :
    ∃ (r0 : Int) (r1 : Bool),
      (∀ (w : World) (A : Option Addr) (c lo hi : Nat), AIns w lo hi A l → Calls Try.prog 19 #[.int .i64 n, .slice A l.length c, .agg #[.int .i64 a, .int .i64 b]] w fun e w' => e = .returned (.tuple #[.int .i64 r0, .bool r1]) ∧ Below w.heap.size w w') ∧
      (∀ (w : World) (A : Option Addr) (c lo hi : Nat), AIns w lo hi A l → Calls Try.prog 18 #[.int .i64 n, .slice A l.length c, .agg #[.int .i64 a, .int .i64 b]] w fun e w' => e = .returned (.tuple #[.int .i64 r0, .bool r1]) ∧ Below w.heap.size w w') := by
  cases hg : givenB n l a b with
  | false => exact ⟨0, false, fun w A c lo hi hS => likeliestAfter_impl_no1 n a b A c lo hi l w hS hl hg, fun w A c lo hi hS => likeliestAfter_spec_no1 n a b A c lo hi l w hS hl hg⟩
  | true =>
    obtain ⟨N, x, y, rfl, rfl, rfl, hG⟩ := given_nats hg
    by_cases hp : 0 < sumF (g7 x y l) N
    · exact ⟨_, true, fun w A c lo hi hS => likeliestAfter_impl N x y A c lo hi l w hS hG hp, fun w A c lo hi hS => likeliestAfter_spec N x y A c lo hi l w hS hG hp⟩
    · exact ⟨0, false, fun w A c lo hi hS => likeliestAfter_impl_no2 N x y A c lo hi l w hS hG hp, fun w A c lo hi hS => likeliestAfter_spec_no2 N x y A c lo hi l w hS hG hp⟩
end Go.Proofs.Ytbgdnidbdfhgjab
