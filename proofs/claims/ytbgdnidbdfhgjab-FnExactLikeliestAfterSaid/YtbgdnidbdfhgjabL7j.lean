/- Chances behind answers: where they are not valid; the specification's draws, and those in a question. -/
import Derived.Test.YtbgdnidbdfhgjabL7i
import Derived.Test.YtbgdnidbdfhgjabL7e
import Derived.Test.YtbgdnidbdfhgjabL6R
namespace Go.Proofs.Ytbgdnidbdfhgjab
open Go.RowKit Go.ChangeShapes Go.WideShapes Go.Maps
set_option linter.unusedVariables false

set_option maxRecDepth 100000 in
set_option maxHeartbeats 8000000 in
theorem drawsAfter_no (n a b : Int) (A : Option Addr) (c lo hi : Nat) (l : List (Int × Bool)) (w : World) (hS : AIns w lo hi A l) (hl : l.length ≤ 1048576) (h : givenB n l a b = false) :
    Calls Try.prog 67 #[.int .i64 n, .slice A l.length c, .agg #[.int .i64 a, .int .i64 b]] w fun e w' => ∃ v, e = .returned (.tuple #[v, .bool false]) ∧ Below w.heap.size w w' := by
  have HT := Lib.hid (Two.new w (.int .i64 a) (.int .i64 b) 31 (w.heap.size) rfl)
  have HB := Lib.hid ((Below.refl w.heap.size w).alloc (Nat.le_refl _) (.cells #[.int .i64 a, .int .i64 b] 31))
  have HI := Lib.hid (hS.step HB.out)
  have HG := Lib.hid (fun W => isDoubt_impl a b W)
  have HA := Lib.hid (fun W h => areDrawn_any n A c lo hi l W h hl)
  clear hS
  cases hd : dOK a b with
  | false =>
    rw [hd] at HG
    clear hd h HA
    go_enter Try.func67, Try.ntmps67
    go_wp2_with fail
    generalize w.alloc (.cells #[.int .i64 a, .int .i64 b] 31) = w0 at HT HB HI ⊢
    have h0 := HT.out.c0
    have h1 := HT.out.c1
    with_reducible refine (HG.out _).mono ?_
    rintro e w1 ⟨rfl, hb⟩
    replace HT := Lib.hid (HT.out.step hb)
    replace HB := Lib.hid (below_trans HB.out hb)
    replace HI := Lib.hid (HI.out.step hb)
    replace h0 := HT.out.c0
    replace h1 := HT.out.c1
    clear hb
    clear h0 h1
    go_wp2
    go_ret2
    exact ⟨_, rfl, HB.out.alloc HB.out.size _⟩
  | true =>
    rw [hd] at HG
    rw [show (okA n l && inB (l.length : Int) 0 12) = false by simpa [givenB, hd] using h] at HA
    clear hd h
    go_enter Try.func67, Try.ntmps67
    go_wp2_with fail
    generalize w.alloc (.cells #[.int .i64 a, .int .i64 b] 31) = w0 at HT HB HI ⊢
    have h0 := HT.out.c0
    have h1 := HT.out.c1
    with_reducible refine (HG.out _).mono ?_
    rintro e w1 ⟨rfl, hb⟩
    replace HT := Lib.hid (HT.out.step hb)
    replace HB := Lib.hid (below_trans HB.out hb)
    replace HI := Lib.hid (HI.out.step hb)
    replace h0 := HT.out.c0
    replace h1 := HT.out.c1
    clear hb
    go_wp2_with fail
    with_reducible refine (HA.out _ HI.out).mono ?_
    rintro e w2 ⟨rfl, hb⟩
    replace HT := Lib.hid (HT.out.step hb)
    replace HB := Lib.hid (below_trans HB.out hb)
    replace HI := Lib.hid (HI.out.step hb)
    replace h0 := HT.out.c0
    replace h1 := HT.out.c1
    clear hb
    clear h0 h1
    go_wp2
    go_ret2
    exact ⟨_, rfl, HB.out.alloc HB.out.size _⟩
set_option maxRecDepth 100000 in
set_option maxHeartbeats 8000000 in
theorem l7Answers_any (n a b : Int) (A : Option Addr) (c lo hi : Nat) (l : List (Int × Bool)) (w : World) (hS : AIns w lo hi A l) (hl : l.length ≤ 1048576) :
    Calls Try.prog 63 #[.int .i64 n, .slice A l.length c, .agg #[.int .i64 a, .int .i64 b]] w fun e w' => e = .returned (.bool (givenB n l a b)) ∧ Below w.heap.size w w' := by
  have HT := Lib.hid (Two.new w (.int .i64 a) (.int .i64 b) 31 (w.heap.size) rfl)
  have HB := Lib.hid ((Below.refl w.heap.size w).alloc (Nat.le_refl _) (.cells #[.int .i64 a, .int .i64 b] 31))
  have HI := Lib.hid (hS.step HB.out)
  have HA := Lib.hid (fun W h => l2Answers_any n A c lo hi l W h hl)
  have HG := Lib.hid (fun W => l7Good_any a b W)
  clear hS
  have hgb : givenB n l a b = ((okA n l && inB (l.length : Int) 0 12) && dOK a b) := by unfold givenB; exact Bool.and_comm _ _
  rw [hgb]
  clear hgb
  generalize okA n l = x at HA ⊢
  generalize dOK a b = z at HG ⊢
  by_cases h12 : l.length ≤ 12
  · rw [inB_t (x := (l.length : Int)) (a := 0) (b := 12) (by omega) (by omega)]
    cases x
    · skip
      go_enter Try.func63, Try.ntmps63
      go_wp2_with fail
      generalize w.alloc (.cells #[.int .i64 a, .int .i64 b] 31) = w0 at HT HB HI ⊢
      have h0 := HT.out.c0
      have h1 := HT.out.c1
      with_reducible refine (HA.out _ HI.out).mono ?_
      rintro e w1 ⟨rfl, hb⟩
      replace HT := Lib.hid (HT.out.step hb)
      replace HB := Lib.hid (below_trans HB.out hb)
      replace HI := Lib.hid (HI.out.step hb)
      replace h0 := HT.out.c0
      replace h1 := HT.out.c1
      clear hb
      clear h0 h1
      go_wp2
      go_ret
      exact ⟨by simp, HB.out⟩
    · skip
      go_enter Try.func63, Try.ntmps63
      go_wp2_with fail
      generalize w.alloc (.cells #[.int .i64 a, .int .i64 b] 31) = w0 at HT HB HI ⊢
      have h0 := HT.out.c0
      have h1 := HT.out.c1
      with_reducible refine (HA.out _ HI.out).mono ?_
      rintro e w1 ⟨rfl, hb⟩
      replace HT := Lib.hid (HT.out.step hb)
      replace HB := Lib.hid (below_trans HB.out hb)
      replace HI := Lib.hid (HI.out.step hb)
      replace h0 := HT.out.c0
      replace h1 := HT.out.c1
      clear hb
      go_wp2_with fail
      with_reducible refine (HG.out _).mono ?_
      rintro e w2 ⟨rfl, hb⟩
      replace HT := Lib.hid (HT.out.step hb)
      replace HB := Lib.hid (below_trans HB.out hb)
      replace HI := Lib.hid (HI.out.step hb)
      replace h0 := HT.out.c0
      replace h1 := HT.out.c1
      clear hb
      clear h0 h1
      go_wp2
      go_ret
      exact ⟨by simp, HB.out⟩
  · rw [inB_f2 (x := (l.length : Int)) (a := 0) (b := 12) (by omega)]
    cases x
    · skip
      go_enter Try.func63, Try.ntmps63
      go_wp2_with fail
      generalize w.alloc (.cells #[.int .i64 a, .int .i64 b] 31) = w0 at HT HB HI ⊢
      have h0 := HT.out.c0
      have h1 := HT.out.c1
      with_reducible refine (HA.out _ HI.out).mono ?_
      rintro e w1 ⟨rfl, hb⟩
      replace HT := Lib.hid (HT.out.step hb)
      replace HB := Lib.hid (below_trans HB.out hb)
      replace HI := Lib.hid (HI.out.step hb)
      replace h0 := HT.out.c0
      replace h1 := HT.out.c1
      clear hb
      clear h0 h1
      go_wp2
      go_ret
      exact ⟨by simp, HB.out⟩
    · skip
      go_enter Try.func63, Try.ntmps63
      go_wp2_with fail
      generalize w.alloc (.cells #[.int .i64 a, .int .i64 b] 31) = w0 at HT HB HI ⊢
      have h0 := HT.out.c0
      have h1 := HT.out.c1
      with_reducible refine (HA.out _ HI.out).mono ?_
      rintro e w1 ⟨rfl, hb⟩
      replace HT := Lib.hid (HT.out.step hb)
      replace HB := Lib.hid (below_trans HB.out hb)
      replace HI := Lib.hid (HI.out.step hb)
      replace h0 := HT.out.c0
      replace h1 := HT.out.c1
      clear hb
      clear h0 h1
      go_wp2
      go_ret
      exact ⟨by simp, HB.out⟩
theorem zsN_succ (f : Nat → Nat) (k : Nat) : zsN f (k + 1) = zsN f k ++ [((f k : Nat) : Int)] := by simp [zsN, List.range_succ]
set_option maxRecDepth 100000 in
set_option maxHeartbeats 16000000 in
theorem l7After_any (n a b : Nat) (A : Option Addr) (c lo hi : Nat) (l : List (Int × Bool)) (w : World) (hS : AIns w lo hi A l) (hg : Given n a b l) :
    Calls Try.prog 64 #[.int .i64 (n : Int), .slice A l.length c, .agg #[.int .i64 (a : Int), .int .i64 (b : Int)]] w fun e w' => ∃ v, e = .returned (.tuple #[v, .int .i64 ((sumF (g7 a b l) n : Nat) : Int)]) ∧ w'.ownsRow (w.heap.size + 1) 3 1 v n ((zsN (g7 a b l) n).map (Value.int .i64)) ∧ Below w.heap.size w w' := by
  have HT := Lib.hid (Two.new w (.int .i64 (a : Int)) (.int .i64 (b : Int)) 31 (w.heap.size) rfl)
  have HB := Lib.hid ((Below.refl w.heap.size w).alloc (Nat.le_refl _) (.cells #[.int .i64 (a : Int), .int .i64 (b : Int)] 31))
  obtain ⟨i0, hi0, hz0, hz1, hz2⟩ := info_parts infoI3
  have htop := hS.top
  have HI := Lib.hid (hS.step HB.out)
  have hb1 := (Below.refl _ (w.alloc (.cells #[.int .i64 (a : Int), .int .i64 (b : Int)] 31))).alloc (Nat.le_refl _) (.cells #[] 3)
  have O0 := Lib.hid (O0_any (w.alloc (.cells #[.int .i64 (a : Int), .int .i64 (b : Int)] 31)) (w.heap.size + 1) (by simp))
  replace HT := Lib.hid (HT.out.step hb1)
  replace HI := Lib.hid (HI.out.step hb1)
  replace HB := Lib.hid (below_trans HB.out hb1)
  have hsz1 : (w.alloc (.cells #[.int .i64 (a : Int), .int .i64 (b : Int)] 31)).heap.size = w.heap.size + 1 := by simp
  rw [hsz1] at O0
  have HGV := Lib.hid hg
  clear hS hg hb1 hsz1
  go_enter Try.func64, Try.ntmps64
  go_wp2_with fail
  generalize (w.alloc (.cells #[.int .i64 (a : Int), .int .i64 (b : Int)] 31)).alloc (.cells #[] 3) = w0 at HT HI HB O0 ⊢
  go_loopw [8, 9, 10] (fun out s i wr => ∃ (k : Nat), k ≤ n ∧ i = .int .i64 (k : Int) ∧ s = .int .i64 ((sumF (g7 a b l) k : Nat) : Int) ∧ Hid (wr.ownsRow (w.heap.size + 1) 3 1 out (zsN (g7 a b l) k).length ((zsN (g7 a b l) k).map (Value.int .i64))) ∧ Hid (Two wr w.heap.size (.int .i64 (a : Int)) (.int .i64 (b : Int)) 31) ∧ Hid (AIns wr lo hi A l) ∧ Hid (Below w.heap.size w wr)) (fun _ _ i _ => n - (intOf i).toNat)
  case atStart => exact ⟨0, Nat.zero_le _, rfl, rfl, (by first | exact O0.out | exact O0), HT, HI, HB⟩
  case round =>
    clear O0 HT HI HB
    obtain ⟨k, hk, rfl, rfl, HO, HT, HI, HB⟩ := hrel
    by_cases hlt : k < n
    · have hfl := zsN_len (g7 a b l) k
      have h12 := HGV.out.n12
      have h20 := HGV.out.l12
      have HM := Lib.hid (fun W h => l2Many_any A c lo hi l k W h (by omega) (by omega))
      have HP := Lib.hid (fun W => l7Parts_any a b l.length (cntF l k l.length) HGV.out.b10 HGV.out.ab h20 (cntF_le l k l.length) W)
      have hgk : dr a b l.length (cntF l k l.length) = g7 a b l k := rfl
      rw [hgk] at HP
      clear hgk
      have b1 := HGV.out.bd k
      have b2 := HGV.out.sum k hk
      have HS := Lib.hid (sumF_next (g7 a b l) k)
      have HF := Lib.hid (zsN_succ (g7 a b l) k)
      generalize ((cntF l k l.length : Nat) : Int) = cf at HM HP
      generalize g7 a b l k = x at HP b1 HS HF
      generalize sumF (g7 a b l) k = s at b2 HS
      have hfl2 : (zsN (g7 a b l) k).length ≤ 12 := by omega
      clear hfl
      generalize zsN (g7 a b l) k = f at HO HF hfl2
      go_wp2_with fail
      go_region_held3 (fun w' => w'.cell? ⟨w.heap.size, 0, none⟩ = some (.int .i64 (a : Int)) ∧ w'.cell? ⟨w.heap.size, 1, none⟩ = some (.int .i64 (b : Int)))
        (first
         | exact ⟨(HT.out.step (Below.refl _ wr).drew).c0, (HT.out.step (Below.refl _ wr).drew).c1⟩
         | exact ⟨(HT_1.out).c0, (HT_1.out).c1⟩
         | exact ⟨(HT_2.out).c0, (HT_2.out).c1⟩)
        (first
         | (go_at_call 128; (with_reducible refine (HP.out v1).mono ?_); rintro e v2 ⟨rfl, hb⟩; have HZ2 := Lib.hid (below_trans HZ1.out hb); have HT_2 := Lib.hid (HT.out.step HZ2.out); have HI_2 := Lib.hid (HI.out.step HZ2.out); have HB_2 := Lib.hid (below_trans HB.out HZ2.out); have HO_2 := Lib.hid (ownsRow_past6 HO.out (Past.of_below HZ2.out)); clear hb)
         | (go_at_call 129; (with_reducible refine (HM.out wr.drew (HI.out.step (Below.refl _ wr).drew)).mono ?_); rintro e v1 ⟨rfl, hb⟩; have HZ1 := Lib.hid (below_trans (Below.refl _ wr).drew hb); have HT_1 := Lib.hid (HT.out.step HZ1.out); have HI_1 := Lib.hid (HI.out.step HZ1.out); have HB_1 := Lib.hid (below_trans HB.out HZ1.out); have HO_1 := Lib.hid (ownsRow_past6 HO.out (Past.of_below HZ1.out)); clear hb))
      all_goals
        clear HT HI HB HO HT_1 HI_1 HB_1 HO_1 HZ1 HZ2
        have hown := HO_2.out
        have hlt2 := HT_2.out.lt
        go_wp2_with (at_builtin; refine wpList_append_own _ rfl _ _ 40 rfl (w.heap.size + 1) 3 i0 (.int .i64 0) 1 8 Try.underlying40 hi0 hz0 hz1 hz2 rfl (by decide) _ _ _ rfl (hown.alloc _) ⟨_, 0, none⟩ 1 1 [.int .i64 (x : Int)] rfl rfl (cell_one_new _ _ _) (by simp [Value.oneCell']) (by unfold maxLen; omega) (by omega) (by simp; omega) ?_; intro v' w1 hown' hgrow _)
        have HO2 := Lib.hid (own_snocI hown' rfl)
        have hps := Past.grown hown hgrow
        have HT2 := Lib.hid (HT_2.out.past hps (by omega))
        have HI2 := Lib.hid (HI_2.out.past hps (by omega))
        have HB2 := Lib.hid (HB_2.out.trans (hps.below (Nat.le_succ _) HB_2.out.size))
        clear hown' hgrow hown HO_2 HT_2 HI_2 HB_2 hps
        go_wp2
        go_roundw
        case rel => exact ⟨k + 1, by omega, by go_num, by rw [HS.out], by rw [HF.out]; exact HO2.out, HT2, HI2, HB2⟩
        case measure => simp [intOf]; omega
    · obtain rfl : k = n := by omega
      go_wp2
      go_ret2
      rw [zsN_len] at HO
      exact ⟨_, rfl, HO.out, HB.out⟩
theorem inQ_bits (q : Int) (k : Nat) : (bits .and .i64 (q / 2 ^ k) 1 == 1) = inQ q k := rfl
theorem hasN_bit (q : Int) (k : Nat) : hasN q k = if inQ q k then 1 else 0 := rfl
end Go.Proofs.Ytbgdnidbdfhgjab
