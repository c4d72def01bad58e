/- ChanceSafe, of both sides. -/
import Derived.Test.YtlhpbhmldcinmaaL7k
import Derived.Test.YtlhpbhmldcinmaaGapS
namespace Go.Proofs.Ytlhpbhmldcinmaa
open Go.RowKit Go.ChangeShapes Go.WideShapes Go.Maps
set_option linter.unusedVariables false

/-- A scheme for n numbers, and a doubt, that are valid here. -/
structure GivenS (n a b : Nat) (l : List Int) : Prop where
  n1 : 1 ≤ n
  n12 : n ≤ 12
  ok : isSch (n : Int) l = true
  l12 : l.length ≤ 12
  b10 : b ≤ 10
  b1 : 1 ≤ b
  ab : a ≤ b
def givesB (n : Int) (l : List Int) (a b : Int) : Bool := dOK a b && (isSch n l && inB (l.length : Int) 0 12)
theorem gives_nats {n a b : Int} {l : List Int} (h : givesB n l a b = true) : ∃ N x y : Nat, n = N ∧ a = x ∧ b = y ∧ GivenS N x y l := by
  unfold givesB at h
  rw [Bool.and_eq_true, Bool.and_eq_true] at h
  obtain ⟨h1, h2, h3⟩ := h
  obtain ⟨x, y, rfl, rfl, g1, g2, g3⟩ := dOK_nats h1
  have h4 : inB n 1 12 = true := by
    cases hc : inB n 1 12 with
    | true => rfl
    | false => rw [isSch_n hc] at h2; cases h2
  have h4 := inB_iff.1 h4
  have h5 := inB_iff.1 h3
  obtain ⟨N, rfl⟩ : ∃ N : Nat, n = (N : Int) := ⟨n.toNat, by omega⟩
  exact ⟨N, x, y, rfl, rfl, rfl, ⟨by omega, by omega, h2, by omega, g2, g1, g3⟩⟩
theorem GivenS.yes {n a b : Nat} {l : List Int} (h : GivenS n a b l) : givesB n l a b = true := by
  unfold givesB
  rw [h.ok, dOK_iff.2 ⟨⟨by have := h.b1; omega, by have := h.b10; omega⟩, by omega, by have := h.ab; omega⟩, inB_t (by omega) (by have := h.l12; omega)]
  rfl
theorem apartN_lt {a b m : Nat} (hm : m ≤ 14) (ha : a < 2 ^ m) (hb : b < 2 ^ m) : apartN a b ≤ m := by
  have hz : ∀ x : Nat, x < 2 ^ m → ∀ i, m ≤ i → x.testBit i = false := fun x hx i hi => Nat.testBit_lt_two_pow (Nat.lt_of_lt_of_le hx (Nat.pow_le_pow_right (by omega) hi))
  unfold apartN
  rw [cntB_stop (n := m) hm fun i hi => by rw [hz a ha i hi, hz b hb i hi]; rfl]
  exact cntB_le _ _
theorem gapN_len {qs : List Int} {n : Nat} (hn : 2 ≤ n) (hl : qs.length ≤ 14) : gapN (twL qs n) ≤ qs.length := by
  unfold gapN
  rw [twL_len, if_neg (by omega)]
  refine Nat.le_trans (gTo_at (k := 1) (i := 0) (by omega) (by omega)) ?_
  rw [twL_at (by omega), twL_at (by omega)]
  exact apartN_lt hl (twN_lt _ _) (twN_lt _ _)
theorem gapN_one {qs : List Int} : gapN (twL qs 1) = 0 := by
  unfold gapN
  rw [twL_len]
  rfl
theorem row_insT {w : World} {B k : Nat} {v : Value} {qs : List Int} {n : Nat} (hk : k = n) (h : w.ownsRow B 3 1 v k (((twL qs n).map Int.ofNat).map (Value.int .i64))) (h0 : 0 < n) : ∃ g c, v = .slice (some ⟨g, 0, none⟩) n c ∧ B ≤ g ∧ Ins w g (g + 1) (some ⟨g, 0, none⟩) (twI qs n) := by
  subst hk
  obtain ⟨g, c, e, hb, hi⟩ := row_ins7 (zs := (twL qs k).map Int.ofNat) h (by simp [twL]) h0
  rw [show ((twL qs k).map Int.ofNat).length = k by simp [twL]] at e
  exact ⟨g, c, e, hb, hi⟩
theorem isDrawnScheme_any (n : Int) (A : Option Addr) (c lo hi : Nat) (l : List Int) (w : World) (hS : Ins w lo hi A l) (hn : l.length ≤ 1048576) :
    Calls Try.prog 83 #[.int .i64 n, .slice A l.length c] w fun e w' => e = .returned (.bool (isSch n l && inB (l.length : Int) 0 12)) ∧ w' = w := by
  have HA := Lib.hid (isScheme_impl A c lo hi n l w hS hn)
  have HC := Lib.hid (fun W => isDrawn_any (l.length : Int) W)
  generalize isSch n l = x at HA ⊢
  generalize inB (l.length : Int) 0 12 = y at HC ⊢
  clear hS
  cases x
  all_goals
    go_enter Try.func83, Try.ntmps83
    go_wp2_with (first | (go_at_call 104; (with_reducible refine (HA.out).mono ?_); rintro e w2 ⟨rfl, hw⟩; have hw := hw.symm; subst hw) | (go_at_call 61; (with_reducible refine (HC.out _).mono ?_); rintro e w2 ⟨rfl, hw⟩; have hw := hw.symm; subst hw))
    go_ret
    exact ⟨by simp, rfl⟩
set_option maxRecDepth 100000 in
set_option maxHeartbeats 8000000 in
theorem l7Scheme_any (n a b : Int) (A : Option Addr) (c lo hi : Nat) (l : List Int) (w : World) (hS : Ins w lo hi A l) (hl : l.length ≤ 1048576) :
    Calls Try.prog 80 #[.int .i64 n, .slice A l.length c, .agg #[.int .i64 a, .int .i64 b]] w fun e w' => e = .returned (.bool (givesB n l a b)) ∧ Below w.heap.size w w' := by
  have HT := Lib.hid (Two.new w (.int .i64 a) (.int .i64 b) 25 (w.heap.size) rfl)
  have HB := Lib.hid ((Below.refl w.heap.size w).alloc (Nat.le_refl _) (.cells #[.int .i64 a, .int .i64 b] 25))
  have HI := Lib.hid (hS.step HB.out)
  have HA := Lib.hid (fun W h => l5Scheme_any A c lo hi n l W h hl)
  have HG := Lib.hid (fun W => l7Good_any a b W)
  clear hS
  have hgb : givesB n l a b = ((isSch n l && inB (l.length : Int) 0 12) && dOK a b) := by unfold givesB; exact Bool.and_comm _ _
  rw [hgb]
  clear hgb
  generalize isSch n l = x at HA ⊢
  generalize dOK a b = z at HG ⊢
  by_cases h12 : l.length ≤ 12
  · rw [inB_t (x := (l.length : Int)) (a := 0) (b := 12) (by omega) (by omega)]
    cases x
    · skip
      go_enter Try.func80, Try.ntmps80
      go_wp2_with fail
      generalize w.alloc (.cells #[.int .i64 a, .int .i64 b] 25) = w0 at HT HB HI ⊢
      have h0 := HT.out.c0
      have h1 := HT.out.c1
      with_reducible refine (HA.out _ HI.out).mono ?_
      rintro e wX ⟨rfl, hw⟩
      have hw := hw.symm
      subst hw
      clear h0 h1
      go_wp2
      go_ret
      exact ⟨by simp, HB.out⟩
    · skip
      go_enter Try.func80, Try.ntmps80
      go_wp2_with fail
      generalize w.alloc (.cells #[.int .i64 a, .int .i64 b] 25) = w0 at HT HB HI ⊢
      have h0 := HT.out.c0
      have h1 := HT.out.c1
      with_reducible refine (HA.out _ HI.out).mono ?_
      rintro e wX ⟨rfl, hw⟩
      have hw := hw.symm
      subst hw
      go_wp2_with fail
      with_reducible refine (HG.out _).mono ?_
      rintro e w1 ⟨rfl, hb⟩
      replace HT := Lib.hid (HT.out.step hb)
      replace HB := Lib.hid (below_trans HB.out hb)
      replace HI := Lib.hid (HI.out.step hb)
      replace h0 := HT.out.c0
      replace h1 := HT.out.c1
      clear hb
      clear h0 h1
      go_wp2
      go_ret
      exact ⟨by simp, HB.out⟩
  · rw [inB_f2 (x := (l.length : Int)) (a := 0) (b := 12) (by omega)]
    cases x
    · skip
      go_enter Try.func80, Try.ntmps80
      go_wp2_with fail
      generalize w.alloc (.cells #[.int .i64 a, .int .i64 b] 25) = w0 at HT HB HI ⊢
      have h0 := HT.out.c0
      have h1 := HT.out.c1
      with_reducible refine (HA.out _ HI.out).mono ?_
      rintro e wX ⟨rfl, hw⟩
      have hw := hw.symm
      subst hw
      clear h0 h1
      go_wp2
      go_ret
      exact ⟨by simp, HB.out⟩
    · skip
      go_enter Try.func80, Try.ntmps80
      go_wp2_with fail
      generalize w.alloc (.cells #[.int .i64 a, .int .i64 b] 25) = w0 at HT HB HI ⊢
      have h0 := HT.out.c0
      have h1 := HT.out.c1
      with_reducible refine (HA.out _ HI.out).mono ?_
      rintro e wX ⟨rfl, hw⟩
      have hw := hw.symm
      subst hw
      clear h0 h1
      go_wp2
      go_ret
      exact ⟨by simp, HB.out⟩
set_option maxRecDepth 100000 in
set_option maxHeartbeats 2000000 in
theorem chanceSafe_impl_one (n a b : Nat) (A : Option Addr) (c lo hi : Nat) (l : List Int) (w : World) (hS : Ins w lo hi A l) (hg : GivenS n a b l) (hone : n = 1) :
    Calls Try.prog 49 #[.int .i64 (n : Int), .slice A l.length c, .agg #[.int .i64 (a : Int), .int .i64 (b : Int)]] w fun e w' => e = .returned (.tuple #[.agg #[.int .i64 1, .int .i64 1], .bool true]) ∧ Below w.heap.size w w' := by
  have HT := Lib.hid (Two.new w (.int .i64 (a : Int)) (.int .i64 (b : Int)) 25 (w.heap.size) rfl)
  have HB := Lib.hid ((Below.refl w.heap.size w).alloc (Nat.le_refl _) (.cells #[.int .i64 (a : Int), .int .i64 (b : Int)] 25))
  have HR := Lib.hid (Two.new (w.alloc (.cells #[.int .i64 (a : Int), .int .i64 (b : Int)] 25)) (.int .i64 0) (.int .i64 0) 28 (w.heap.size + 1) (by simp))
  replace HT := Lib.hid (HT.out.step ((Below.refl _ _).alloc (Nat.le_refl _) (.cells #[.int .i64 0, .int .i64 0] 28)))
  replace HB := Lib.hid (HB.out.alloc HB.out.size (.cells #[.int .i64 0, .int .i64 0] 28))
  have HI := Lib.hid (hS.step HB.out)
  have HG := Lib.hid (fun W => isDoubt_impl (a : Int) (b : Int) W)
  rw [dOK_iff.2 ⟨⟨by have := hg.b1; omega, by have := hg.b10; omega⟩, by omega, by have := hg.ab; omega⟩] at HG
  have HS := Lib.hid (fun W h => isDrawnScheme_any (n : Int) A c lo hi l W h (by have := hg.l12; omega))
  rw [hg.ok, inB_t (x := (l.length : Int)) (a := 0) (b := 12) (by omega) (by have := hg.l12; omega)] at HS
  subst hone
  rw [show ((1 : Nat) : Int) = 1 from rfl] at HS
  rw [show ((1 : Nat) : Int) = 1 from rfl]
  clear hS
  go_enter Try.func49, Try.ntmps49
  go_wp2_with fail
  generalize (w.alloc (.cells #[.int .i64 (a : Int), .int .i64 (b : Int)] 25)).alloc (.cells #[.int .i64 0, .int .i64 0] 28) = w0 at HT HR HB HI ⊢
  have h0 := HT.out.c0
  have h1 := HT.out.c1
  with_reducible refine (HG.out _).mono ?_
  rintro e w1 ⟨rfl, hb⟩
  replace HT := Lib.hid (HT.out.step hb)
  replace HR := Lib.hid (HR.out.step hb)
  replace HB := Lib.hid (below_trans HB.out hb)
  replace HI := Lib.hid (HI.out.step hb)
  replace h0 := HT.out.c0
  replace h1 := HT.out.c1
  clear hb
  clear h0 h1
  have q0 := HR.out.c0
  have q1 := HR.out.c1
  have q2 := HR.out.f0
  have q3 := HR.out.f1
  go_wp2_with (first | (go_at_call 83; (with_reducible refine (HS.out _ HI.out).mono ?_); rintro e wX ⟨rfl, hw⟩; have hw := hw.symm; subst hw))
  obtain ⟨hs, hw⟩ := stored2 HR.out.row (.int .i64 1) (.int .i64 1)
  generalize ((w1.setCell ⟨w.heap.size + 1, 0, none⟩ (.int .i64 1)).setCell ⟨w.heap.size + 1, 1, none⟩ (.int .i64 1)) = wf at hs hw ⊢
  have e0 := two0 hs
  have e1 := two1 hs
  refine bodyPost_ret (v := .tuple #[.agg #[.int .i64 1, .int .i64 1], .bool true]) (by simp [results, go_sem, e0, e1]) rfl ?_
  exact ⟨rfl, HB.out.trans (hw.below (Nat.le_succ _) HB.out.size)⟩
set_option maxRecDepth 100000 in
set_option maxHeartbeats 4000000 in
theorem chanceSafe_impl (n a b : Nat) (A : Option Addr) (c lo hi : Nat) (l : List Int) (w : World) (hS : Ins w lo hi A l) (hg : GivenS n a b l) (h2 : 2 ≤ n) :
    Calls Try.prog 49 #[.int .i64 (n : Int), .slice A l.length c, .agg #[.int .i64 (a : Int), .int .i64 (b : Int)]] w fun e w' => e = .returned (.tuple #[.agg #[.int .i64 ((fr1 (sumF (wd a b l.length) ((gapN (twL l n) + 1) / 2)) (b ^ l.length) : Nat) : Int), .int .i64 ((fr2 (sumF (wd a b l.length) ((gapN (twL l n) + 1) / 2)) (b ^ l.length) : Nat) : Int)], .bool true]) ∧ Below w.heap.size w w' := by
  have HT := Lib.hid (Two.new w (.int .i64 (a : Int)) (.int .i64 (b : Int)) 25 (w.heap.size) rfl)
  have HB := Lib.hid ((Below.refl w.heap.size w).alloc (Nat.le_refl _) (.cells #[.int .i64 (a : Int), .int .i64 (b : Int)] 25))
  have HR := Lib.hid (Two.new (w.alloc (.cells #[.int .i64 (a : Int), .int .i64 (b : Int)] 25)) (.int .i64 0) (.int .i64 0) 28 (w.heap.size + 1) (by simp))
  replace HT := Lib.hid (HT.out.step ((Below.refl _ _).alloc (Nat.le_refl _) (.cells #[.int .i64 0, .int .i64 0] 28)))
  replace HB := Lib.hid (HB.out.alloc HB.out.size (.cells #[.int .i64 0, .int .i64 0] 28))
  have HI := Lib.hid (hS.step HB.out)
  have HG := Lib.hid (fun W => isDoubt_impl (a : Int) (b : Int) W)
  rw [dOK_iff.2 ⟨⟨by have := hg.b1; omega, by have := hg.b10; omega⟩, by omega, by have := hg.ab; omega⟩] at HG
  have HS := Lib.hid (fun W h => isDrawnScheme_any (n : Int) A c lo hi l W h (by have := hg.l12; omega))
  rw [hg.ok, inB_t (x := (l.length : Int)) (a := 0) (b := 12) (by omega) (by have := hg.l12; omega)] at HS
  have HGa := Lib.hid (fun W h => gapOf_impl A c lo hi (n : Int) l W h (by have := hg.l12; omega))
  rw [hg.ok, show gAns (n : Int) l = gapN (twL l n) by unfold gAns; rw [hg.ok, Int.toNat_natCast]; rfl] at HGa
  have hgl : gapN (twL l n) ≤ l.length := gapN_len h2 (by have := hg.l12; omega)
  have h12 := hg.l12
  have HDr := Lib.hid (fun W => drawsByFalse_any a b l.length hg.b10 hg.ab hg.l12 W)
  have HF := Lib.hid (fun W => fewerThanHalf_any (gapN (twL l n)) W (by omega))
  have HCo := Lib.hid (fun (W : World) (g : Nat) (hI : Ins W g (g + 1) (some ⟨g, 0, none⟩) (zsN (wd a b l.length) (l.length + 1))) => chanceOf_any (some ⟨g, 0, none⟩) (l.length + 1) g (g + 1) (wd a b l.length) (l.length + 1) (2 ^ ((gapN (twL l n) + 1) / 2) - 1) W hI (by omega) (fun i hi => wd_le a b l.length i hg.b10 hg.ab hg.l12 (by omega)) (wd_pos a b l.length hg.b10 hg.b1 hg.ab hg.l12))
  rw [sum_less (wd a b l.length) (j := (gapN (twL l n) + 1) / 2) (n := l.length + 1) (by omega) (by omega), wd_all a b l.length hg.b10 hg.ab hg.l12] at HCo
  generalize fr1 (sumF (wd a b l.length) ((gapN (twL l n) + 1) / 2)) (b ^ l.length) = X at HCo ⊢
  generalize fr2 (sumF (wd a b l.length) ((gapN (twL l n) + 1) / 2)) (b ^ l.length) = Y at HCo ⊢
  generalize (2 : Int) ^ ((gapN (twL l n) + 1) / 2) - 1 = z at HF HCo
  generalize ((gapN (twL l n) : Nat) : Int) = gp at HGa HF
  clear hS hgl
  go_enter Try.func49, Try.ntmps49
  go_wp2_with fail
  generalize (w.alloc (.cells #[.int .i64 (a : Int), .int .i64 (b : Int)] 25)).alloc (.cells #[.int .i64 0, .int .i64 0] 28) = w0 at HT HR HB HI ⊢
  have h0 := HT.out.c0
  have h1 := HT.out.c1
  with_reducible refine (HG.out _).mono ?_
  rintro e w1 ⟨rfl, hb⟩
  replace HT := Lib.hid (HT.out.step hb)
  replace HR := Lib.hid (HR.out.step hb)
  replace HB := Lib.hid (below_trans HB.out hb)
  replace HI := Lib.hid (HI.out.step hb)
  replace h0 := HT.out.c0
  replace h1 := HT.out.c1
  clear hb
  go_wp2_with (first | (go_at_call 83; (with_reducible refine (HS.out _ HI.out).mono ?_); rintro e wX ⟨rfl, hw⟩; have hw := hw.symm; subst hw))
  with_reducible refine (HGa.out _ HI.out).mono ?_
  rintro e w2 ⟨rfl, hb⟩
  replace HT := Lib.hid (HT.out.step hb)
  replace HR := Lib.hid (HR.out.step hb)
  replace HB := Lib.hid (below_trans HB.out hb)
  replace HI := Lib.hid (HI.out.step hb)
  replace h0 := HT.out.c0
  replace h1 := HT.out.c1
  clear hb
  go_wp2_with fail
  with_reducible refine (HDr.out _).mono ?_
  rintro e w3 ⟨g, rfl, hgg, hrow, hb⟩
  replace HT := Lib.hid (HT.out.step hb)
  replace HR := Lib.hid (HR.out.step hb)
  replace HB := Lib.hid (below_trans HB.out hb)
  replace HI := Lib.hid (HI.out.step hb)
  replace h0 := HT.out.c0
  replace h1 := HT.out.c1
  have HW := Lib.hid (row_ins70 hrow)
  clear hrow
  clear hb
  go_wp2_with (first | (go_at_call 79; (with_reducible refine (HF.out _).mono ?_); rintro e wX ⟨rfl, hw⟩; have hw := hw.symm; subst hw))
  with_reducible refine (HCo.out _ g HW.out).mono ?_
  rintro e w4 ⟨rfl, hb⟩
  replace HT := Lib.hid (HT.out.step hb)
  replace HR := Lib.hid (HR.out.step hb)
  replace HB := Lib.hid (below_trans HB.out hb)
  replace HI := Lib.hid (HI.out.step hb)
  replace HW := Lib.hid (HW.out.step hb)
  replace h0 := HT.out.c0
  replace h1 := HT.out.c1
  clear hb
  clear h0 h1
  have q0 := HR.out.c0
  have q1 := HR.out.c1
  have q2 := HR.out.f0
  have q3 := HR.out.f1
  go_wp2
  obtain ⟨hs, hw⟩ := stored2 HR.out.row (.int .i64 (X : Int)) (.int .i64 (Y : Int))
  generalize ((w4.setCell ⟨w.heap.size + 1, 0, none⟩ (.int .i64 (X : Int))).setCell ⟨w.heap.size + 1, 1, none⟩ (.int .i64 (Y : Int))) = wf at hs hw ⊢
  have e0 := two0 hs
  have e1 := two1 hs
  refine bodyPost_ret (v := .tuple #[.agg #[.int .i64 (X : Int), .int .i64 (Y : Int)], .bool true]) (by simp [results, go_sem, e0, e1]) rfl ?_
  exact ⟨rfl, HB.out.trans (hw.below (Nat.le_succ _) HB.out.size)⟩
set_option maxRecDepth 100000 in
set_option maxHeartbeats 4000000 in
theorem chanceSafe_impl_no (n a b : Int) (A : Option Addr) (c lo hi : Nat) (l : List Int) (w : World) (hS : Ins w lo hi A l) (hl : l.length ≤ 1048576) (h : givesB n l a b = false) :
    Calls Try.prog 49 #[.int .i64 n, .slice A l.length c, .agg #[.int .i64 a, .int .i64 b]] w fun e w' => e = .returned (.tuple #[.agg #[.int .i64 0, .int .i64 0], .bool false]) ∧ Below w.heap.size w w' := by
  have HT := Lib.hid (Two.new w (.int .i64 a) (.int .i64 b) 25 (w.heap.size) rfl)
  have HB := Lib.hid ((Below.refl w.heap.size w).alloc (Nat.le_refl _) (.cells #[.int .i64 a, .int .i64 b] 25))
  have HR := Lib.hid (Two.new (w.alloc (.cells #[.int .i64 a, .int .i64 b] 25)) (.int .i64 0) (.int .i64 0) 28 (w.heap.size + 1) (by simp))
  replace HT := Lib.hid (HT.out.step ((Below.refl _ _).alloc (Nat.le_refl _) (.cells #[.int .i64 0, .int .i64 0] 28)))
  replace HB := Lib.hid (HB.out.alloc HB.out.size (.cells #[.int .i64 0, .int .i64 0] 28))
  have HI := Lib.hid (hS.step HB.out)
  have HG := Lib.hid (fun W => isDoubt_impl a b W)
  have HS := Lib.hid (fun W h => isDrawnScheme_any n A c lo hi l W h hl)
  clear hS
  cases hd : dOK a b with
  | false =>
    rw [hd] at HG
    clear hd h HS
    go_enter Try.func49, Try.ntmps49
    go_wp2_with fail
    generalize (w.alloc (.cells #[.int .i64 a, .int .i64 b] 25)).alloc (.cells #[.int .i64 0, .int .i64 0] 28) = w0 at HT HR HB HI ⊢
    have h0 := HT.out.c0
    have h1 := HT.out.c1
    with_reducible refine (HG.out _).mono ?_
    rintro e w1 ⟨rfl, hb⟩
    replace HT := Lib.hid (HT.out.step hb)
    replace HR := Lib.hid (HR.out.step hb)
    replace HB := Lib.hid (below_trans HB.out hb)
    replace HI := Lib.hid (HI.out.step hb)
    replace h0 := HT.out.c0
    replace h1 := HT.out.c1
    clear hb
    clear h0 h1
    have q0 := HR.out.c0
    have q1 := HR.out.c1
    have q2 := HR.out.f0
    have q3 := HR.out.f1
    go_wp2
    obtain ⟨hs, hw⟩ := stored2 HR.out.row (.int .i64 0) (.int .i64 0)
    generalize ((w1.setCell ⟨w.heap.size + 1, 0, none⟩ (.int .i64 0)).setCell ⟨w.heap.size + 1, 1, none⟩ (.int .i64 0)) = wf at hs hw ⊢
    have e0 := two0 hs
    have e1 := two1 hs
    refine bodyPost_ret (v := .tuple #[.agg #[.int .i64 0, .int .i64 0], .bool false]) (by simp [results, go_sem, e0, e1]) rfl ?_
    exact ⟨rfl, HB.out.trans (hw.below (Nat.le_succ _) HB.out.size)⟩
  | true =>
    rw [hd] at HG
    rw [show (isSch n l && inB (l.length : Int) 0 12) = false by simpa [givesB, hd] using h] at HS
    clear hd h
    go_enter Try.func49, Try.ntmps49
    go_wp2_with fail
    generalize (w.alloc (.cells #[.int .i64 a, .int .i64 b] 25)).alloc (.cells #[.int .i64 0, .int .i64 0] 28) = w0 at HT HR HB HI ⊢
    have h0 := HT.out.c0
    have h1 := HT.out.c1
    with_reducible refine (HG.out _).mono ?_
    rintro e w1 ⟨rfl, hb⟩
    replace HT := Lib.hid (HT.out.step hb)
    replace HR := Lib.hid (HR.out.step hb)
    replace HB := Lib.hid (below_trans HB.out hb)
    replace HI := Lib.hid (HI.out.step hb)
    replace h0 := HT.out.c0
    replace h1 := HT.out.c1
    clear hb
    clear h0 h1
    have q0 := HR.out.c0
    have q1 := HR.out.c1
    have q2 := HR.out.f0
    have q3 := HR.out.f1
    go_wp2_with (first | (go_at_call 83; (with_reducible refine (HS.out _ HI.out).mono ?_); rintro e wX ⟨rfl, hw⟩; have hw := hw.symm; subst hw))
    obtain ⟨hs, hw⟩ := stored2 HR.out.row (.int .i64 0) (.int .i64 0)
    generalize ((w1.setCell ⟨w.heap.size + 1, 0, none⟩ (.int .i64 0)).setCell ⟨w.heap.size + 1, 1, none⟩ (.int .i64 0)) = wf at hs hw ⊢
    have e0 := two0 hs
    have e1 := two1 hs
    refine bodyPost_ret (v := .tuple #[.agg #[.int .i64 0, .int .i64 0], .bool false]) (by simp [results, go_sem, e0, e1]) rfl ?_
    exact ⟨rfl, HB.out.trans (hw.below (Nat.le_succ _) HB.out.size)⟩
set_option maxRecDepth 100000 in
set_option maxHeartbeats 2000000 in
theorem chanceSafe_spec_no (n a b : Int) (A : Option Addr) (c lo hi : Nat) (l : List Int) (w : World) (hS : Ins w lo hi A l) (hl : l.length ≤ 1048576) (h : givesB n l a b = false) :
    Calls Try.prog 48 #[.int .i64 n, .slice A l.length c, .agg #[.int .i64 a, .int .i64 b]] w fun e w' => e = .returned (.tuple #[.agg #[.int .i64 0, .int .i64 0], .bool false]) ∧ Below w.heap.size w w' := by
  have HT := Lib.hid (Two.new w (.int .i64 a) (.int .i64 b) 25 (w.heap.size) rfl)
  have HB := Lib.hid ((Below.refl w.heap.size w).alloc (Nat.le_refl _) (.cells #[.int .i64 a, .int .i64 b] 25))
  have HR := Lib.hid (Two.new (w.alloc (.cells #[.int .i64 a, .int .i64 b] 25)) (.int .i64 0) (.int .i64 0) 28 (w.heap.size + 1) (by simp))
  replace HT := Lib.hid (HT.out.step ((Below.refl _ _).alloc (Nat.le_refl _) (.cells #[.int .i64 0, .int .i64 0] 28)))
  replace HB := Lib.hid (HB.out.alloc HB.out.size (.cells #[.int .i64 0, .int .i64 0] 28))
  have HI := Lib.hid (hS.step HB.out)
  have HA := Lib.hid (fun W hh => l7Scheme_any n a b A c lo hi l W hh hl)
  rw [h] at HA
  clear hS h
  go_enter Try.func48, Try.ntmps48
  go_wp2_with fail
  generalize (w.alloc (.cells #[.int .i64 a, .int .i64 b] 25)).alloc (.cells #[.int .i64 0, .int .i64 0] 28) = w0 at HT HR HB HI ⊢
  have h0 := HT.out.c0
  have h1 := HT.out.c1
  with_reducible refine (HA.out _ HI.out).mono ?_
  rintro e w1 ⟨rfl, hb⟩
  replace HT := Lib.hid (HT.out.step hb)
  replace HR := Lib.hid (HR.out.step hb)
  replace HB := Lib.hid (below_trans HB.out hb)
  replace HI := Lib.hid (HI.out.step hb)
  replace h0 := HT.out.c0
  replace h1 := HT.out.c1
  clear hb
  clear h0 h1
  have q0 := HR.out.c0
  have q1 := HR.out.c1
  have q2 := HR.out.f0
  have q3 := HR.out.f1
  go_wp2
  obtain ⟨hs, hw⟩ := stored2 HR.out.row (.int .i64 0) (.int .i64 0)
  generalize ((w1.setCell ⟨w.heap.size + 1, 0, none⟩ (.int .i64 0)).setCell ⟨w.heap.size + 1, 1, none⟩ (.int .i64 0)) = wf at hs hw ⊢
  have e0 := two0 hs
  have e1 := two1 hs
  refine bodyPost_ret (v := .tuple #[.agg #[.int .i64 0, .int .i64 0], .bool false]) (by simp [results, go_sem, e0, e1]) rfl ?_
  exact ⟨rfl, HB.out.trans (hw.below (Nat.le_succ _) HB.out.size)⟩
set_option maxRecDepth 100000 in
set_option maxHeartbeats 2000000 in
theorem chanceSafe_spec_one (n a b : Nat) (A : Option Addr) (c lo hi : Nat) (l : List Int) (w : World) (hS : Ins w lo hi A l) (hg : GivenS n a b l) (hone : n = 1) :
    Calls Try.prog 48 #[.int .i64 (n : Int), .slice A l.length c, .agg #[.int .i64 (a : Int), .int .i64 (b : Int)]] w fun e w' => e = .returned (.tuple #[.agg #[.int .i64 1, .int .i64 1], .bool true]) ∧ Below w.heap.size w w' := by
  have HT := Lib.hid (Two.new w (.int .i64 (a : Int)) (.int .i64 (b : Int)) 25 (w.heap.size) rfl)
  have HB := Lib.hid ((Below.refl w.heap.size w).alloc (Nat.le_refl _) (.cells #[.int .i64 (a : Int), .int .i64 (b : Int)] 25))
  have HR := Lib.hid (Two.new (w.alloc (.cells #[.int .i64 (a : Int), .int .i64 (b : Int)] 25)) (.int .i64 0) (.int .i64 0) 28 (w.heap.size + 1) (by simp))
  replace HT := Lib.hid (HT.out.step ((Below.refl _ _).alloc (Nat.le_refl _) (.cells #[.int .i64 0, .int .i64 0] 28)))
  replace HB := Lib.hid (HB.out.alloc HB.out.size (.cells #[.int .i64 0, .int .i64 0] 28))
  have HI := Lib.hid (hS.step HB.out)
  have HA := Lib.hid (fun W h => l7Scheme_any (n : Int) (a : Int) (b : Int) A c lo hi l W h (by have := hg.l12; omega))
  rw [hg.yes] at HA
  have HWo := Lib.hid (fun W h => l5Words_any A c lo hi l n W h (by have := hg.l12; omega) hg.n12)
  have HGp := Lib.hid (fun (W : World) (g cc : Nat) (h : Ins W g (g + 1) (some ⟨g, 0, none⟩) (twI l n)) => l5Gap_any (some ⟨g, 0, none⟩) cc g (g + 1) l n W h (by have := hg.l12; omega) ⟨hg.n1, hg.n12⟩)
  have hlen : ((twL l n).map Int.ofNat).length = n := by simp [twL]
  have hn1 := hg.n1
  have h12 := hg.l12
  subst hone
  generalize ((gapN (twL l 1) : Nat) : Int) = gp at HGp
  rw [show ((1 : Nat) : Int) = 1 from rfl] at HA HWo
  rw [show ((1 : Nat) : Int) = 1 from rfl]
  clear hS
  go_enter Try.func48, Try.ntmps48
  go_wp2_with fail
  generalize (w.alloc (.cells #[.int .i64 (a : Int), .int .i64 (b : Int)] 25)).alloc (.cells #[.int .i64 0, .int .i64 0] 28) = w0 at HT HR HB HI ⊢
  have h0 := HT.out.c0
  have h1 := HT.out.c1
  with_reducible refine (HA.out _ HI.out).mono ?_
  rintro e w1 ⟨rfl, hb⟩
  replace HT := Lib.hid (HT.out.step hb)
  replace HR := Lib.hid (HR.out.step hb)
  replace HB := Lib.hid (below_trans HB.out hb)
  replace HI := Lib.hid (HI.out.step hb)
  replace h0 := HT.out.c0
  replace h1 := HT.out.c1
  clear hb
  go_wp2_with fail
  with_reducible refine (HWo.out _ HI.out).mono ?_
  rintro e w2 ⟨v, rfl, hrow, hb⟩
  replace HT := Lib.hid (HT.out.step hb)
  replace HR := Lib.hid (HR.out.step hb)
  replace HB := Lib.hid (below_trans HB.out hb)
  replace HI := Lib.hid (HI.out.step hb)
  replace h0 := HT.out.c0
  replace h1 := HT.out.c1
  clear hb
  obtain ⟨gr, cr, rfl, hgr, hIr⟩ := row_insT hlen hrow (by omega)
  have HW := Lib.hid hIr
  clear hrow hIr
  go_wp2_with fail
  with_reducible refine (HGp.out _ gr cr HW.out).mono ?_
  rintro e w3 ⟨rfl, hb⟩
  replace HT := Lib.hid (HT.out.step hb)
  replace HR := Lib.hid (HR.out.step hb)
  replace HB := Lib.hid (below_trans HB.out hb)
  replace HI := Lib.hid (HI.out.step hb)
  replace HW := Lib.hid (HW.out.step hb)
  replace h0 := HT.out.c0
  replace h1 := HT.out.c1
  clear hb
  clear h0 h1
  have q0 := HR.out.c0
  have q1 := HR.out.c1
  have q2 := HR.out.f0
  have q3 := HR.out.f1
  go_wp2
  obtain ⟨hs, hw⟩ := stored2 HR.out.row (.int .i64 1) (.int .i64 1)
  generalize ((w3.setCell ⟨w.heap.size + 1, 0, none⟩ (.int .i64 1)).setCell ⟨w.heap.size + 1, 1, none⟩ (.int .i64 1)) = wf at hs hw ⊢
  have e0 := two0 hs
  have e1 := two1 hs
  refine bodyPost_ret (v := .tuple #[.agg #[.int .i64 1, .int .i64 1], .bool true]) (by simp [results, go_sem, e0, e1]) rfl ?_
  exact ⟨rfl, HB.out.trans (hw.below (Nat.le_succ _) HB.out.size)⟩
set_option maxRecDepth 100000 in
set_option maxHeartbeats 2000000 in
theorem chanceSafe_spec_zero (n a b : Nat) (A : Option Addr) (c lo hi : Nat) (l : List Int) (w : World) (hS : Ins w lo hi A l) (hg : GivenS n a b l) (h2 : 2 ≤ n) (hz : gapN (twL l n) = 0) :
    Calls Try.prog 48 #[.int .i64 (n : Int), .slice A l.length c, .agg #[.int .i64 (a : Int), .int .i64 (b : Int)]] w fun e w' => e = .returned (.tuple #[.agg #[.int .i64 0, .int .i64 1], .bool true]) ∧ Below w.heap.size w w' := by
  have HT := Lib.hid (Two.new w (.int .i64 (a : Int)) (.int .i64 (b : Int)) 25 (w.heap.size) rfl)
  have HB := Lib.hid ((Below.refl w.heap.size w).alloc (Nat.le_refl _) (.cells #[.int .i64 (a : Int), .int .i64 (b : Int)] 25))
  have HR := Lib.hid (Two.new (w.alloc (.cells #[.int .i64 (a : Int), .int .i64 (b : Int)] 25)) (.int .i64 0) (.int .i64 0) 28 (w.heap.size + 1) (by simp))
  replace HT := Lib.hid (HT.out.step ((Below.refl _ _).alloc (Nat.le_refl _) (.cells #[.int .i64 0, .int .i64 0] 28)))
  replace HB := Lib.hid (HB.out.alloc HB.out.size (.cells #[.int .i64 0, .int .i64 0] 28))
  have HI := Lib.hid (hS.step HB.out)
  have HA := Lib.hid (fun W h => l7Scheme_any (n : Int) (a : Int) (b : Int) A c lo hi l W h (by have := hg.l12; omega))
  rw [hg.yes] at HA
  have HWo := Lib.hid (fun W h => l5Words_any A c lo hi l n W h (by have := hg.l12; omega) hg.n12)
  have HGp := Lib.hid (fun (W : World) (g cc : Nat) (h : Ins W g (g + 1) (some ⟨g, 0, none⟩) (twI l n)) => l5Gap_any (some ⟨g, 0, none⟩) cc g (g + 1) l n W h (by have := hg.l12; omega) ⟨hg.n1, hg.n12⟩)
  have hlen : ((twL l n).map Int.ofNat).length = n := by simp [twL]
  have hn1 := hg.n1
  have h12 := hg.l12
  have hn : ¬ (n : Int) = 1 := by omega
  have hnn : ¬ n = 1 := by omega
  rw [hz, show ((0 : Nat) : Int) = 0 from rfl] at HGp
  clear hS
  go_enter Try.func48, Try.ntmps48
  go_wp2_with fail
  generalize (w.alloc (.cells #[.int .i64 (a : Int), .int .i64 (b : Int)] 25)).alloc (.cells #[.int .i64 0, .int .i64 0] 28) = w0 at HT HR HB HI ⊢
  have h0 := HT.out.c0
  have h1 := HT.out.c1
  with_reducible refine (HA.out _ HI.out).mono ?_
  rintro e w1 ⟨rfl, hb⟩
  replace HT := Lib.hid (HT.out.step hb)
  replace HR := Lib.hid (HR.out.step hb)
  replace HB := Lib.hid (below_trans HB.out hb)
  replace HI := Lib.hid (HI.out.step hb)
  replace h0 := HT.out.c0
  replace h1 := HT.out.c1
  clear hb
  go_wp2_with fail
  with_reducible refine (HWo.out _ HI.out).mono ?_
  rintro e w2 ⟨v, rfl, hrow, hb⟩
  replace HT := Lib.hid (HT.out.step hb)
  replace HR := Lib.hid (HR.out.step hb)
  replace HB := Lib.hid (below_trans HB.out hb)
  replace HI := Lib.hid (HI.out.step hb)
  replace h0 := HT.out.c0
  replace h1 := HT.out.c1
  clear hb
  obtain ⟨gr, cr, rfl, hgr, hIr⟩ := row_insT hlen hrow (by omega)
  have HW := Lib.hid hIr
  clear hrow hIr
  go_wp2_with fail
  with_reducible refine (HGp.out _ gr cr HW.out).mono ?_
  rintro e w3 ⟨rfl, hb⟩
  replace HT := Lib.hid (HT.out.step hb)
  replace HR := Lib.hid (HR.out.step hb)
  replace HB := Lib.hid (below_trans HB.out hb)
  replace HI := Lib.hid (HI.out.step hb)
  replace HW := Lib.hid (HW.out.step hb)
  replace h0 := HT.out.c0
  replace h1 := HT.out.c1
  clear hb
  clear h0 h1
  have q0 := HR.out.c0
  have q1 := HR.out.c1
  have q2 := HR.out.f0
  have q3 := HR.out.f1
  go_wp2
  obtain ⟨hs, hw⟩ := stored2 HR.out.row (.int .i64 0) (.int .i64 1)
  generalize ((w3.setCell ⟨w.heap.size + 1, 0, none⟩ (.int .i64 0)).setCell ⟨w.heap.size + 1, 1, none⟩ (.int .i64 1)) = wf at hs hw ⊢
  have e0 := two0 hs
  have e1 := two1 hs
  refine bodyPost_ret (v := .tuple #[.agg #[.int .i64 0, .int .i64 1], .bool true]) (by simp [results, go_sem, e0, e1]) rfl ?_
  exact ⟨rfl, HB.out.trans (hw.below (Nat.le_succ _) HB.out.size)⟩
set_option maxRecDepth 100000 in
set_option maxHeartbeats 4000000 in
theorem chanceSafe_spec (n a b : Nat) (A : Option Addr) (c lo hi : Nat) (l : List Int) (w : World) (hS : Ins w lo hi A l) (hg : GivenS n a b l) (h2 : 2 ≤ n) (hz : ¬ gapN (twL l n) = 0) :
    Calls Try.prog 48 #[.int .i64 (n : Int), .slice A l.length c, .agg #[.int .i64 (a : Int), .int .i64 (b : Int)]] w fun e w' => e = .returned (.tuple #[.agg #[.int .i64 ((fr1 (sumF (wd a b l.length) ((gapN (twL l n) + 1) / 2)) (b ^ l.length) : Nat) : Int), .int .i64 ((fr2 (sumF (wd a b l.length) ((gapN (twL l n) + 1) / 2)) (b ^ l.length) : Nat) : Int)], .bool true]) ∧ Below w.heap.size w w' := by
  have HT := Lib.hid (Two.new w (.int .i64 (a : Int)) (.int .i64 (b : Int)) 25 (w.heap.size) rfl)
  have HB := Lib.hid ((Below.refl w.heap.size w).alloc (Nat.le_refl _) (.cells #[.int .i64 (a : Int), .int .i64 (b : Int)] 25))
  have HR := Lib.hid (Two.new (w.alloc (.cells #[.int .i64 (a : Int), .int .i64 (b : Int)] 25)) (.int .i64 0) (.int .i64 0) 28 (w.heap.size + 1) (by simp))
  replace HT := Lib.hid (HT.out.step ((Below.refl _ _).alloc (Nat.le_refl _) (.cells #[.int .i64 0, .int .i64 0] 28)))
  replace HB := Lib.hid (HB.out.alloc HB.out.size (.cells #[.int .i64 0, .int .i64 0] 28))
  have HI := Lib.hid (hS.step HB.out)
  have HA := Lib.hid (fun W h => l7Scheme_any (n : Int) (a : Int) (b : Int) A c lo hi l W h (by have := hg.l12; omega))
  rw [hg.yes] at HA
  have HWo := Lib.hid (fun W h => l5Words_any A c lo hi l n W h (by have := hg.l12; omega) hg.n12)
  have HGp := Lib.hid (fun (W : World) (g cc : Nat) (h : Ins W g (g + 1) (some ⟨g, 0, none⟩) (twI l n)) => l5Gap_any (some ⟨g, 0, none⟩) cc g (g + 1) l n W h (by have := hg.l12; omega) ⟨hg.n1, hg.n12⟩)
  have hlen : ((twL l n).map Int.ofNat).length = n := by simp [twL]
  have hn1 := hg.n1
  have h12 := hg.l12
  have hnn : ¬ n = 1 := by omega
  have hgl : gapN (twL l n) ≤ l.length := gapN_len h2 (by omega)
  have HPt := Lib.hid (fun W => l7Within_any a b l.length ((gapN (twL l n) - 1) / 2) hg.b10 hg.ab hg.l12 (by omega) W)
  rw [show (gapN (twL l n) - 1) / 2 + 1 = (gapN (twL l n) + 1) / 2 by omega, show (((gapN (twL l n) - 1) / 2 : Nat) : Int) = (((gapN (twL l n) : Nat) : Int) - 1) / 2 by omega] at HPt
  have hQ1 : 1 ≤ b ^ l.length := pow_pos7 hg.b1 _
  have hQ2 : b ^ l.length ≤ 1000000000000000000 := by have := pow_bd b l.length hg.b10 hg.l12; omega
  have HPw := Lib.hid (fun W => l7Power_b b l.length hg.b10 hg.l12 W)
  have hP2 : sumF (wd a b l.length) ((gapN (twL l n) + 1) / 2) ≤ 1000000000000000000 := by have := wdS_bd a b l.length ((gapN (twL l n) + 1) / 2) hg.b10 hg.ab hg.l12 (by omega); omega
  have HCo := Lib.hid (fun W => l7Cut_any (sumF (wd a b l.length) ((gapN (twL l n) + 1) / 2)) (b ^ l.length) hQ1 hP2 hQ2 W)
  generalize fr1 (sumF (wd a b l.length) ((gapN (twL l n) + 1) / 2)) (b ^ l.length) = X at HCo ⊢
  generalize fr2 (sumF (wd a b l.length) ((gapN (twL l n) + 1) / 2)) (b ^ l.length) = Y at HCo ⊢
  generalize sumF (wd a b l.length) ((gapN (twL l n) + 1) / 2) = sm at HPt HCo
  generalize b ^ l.length = pm at HPw HCo
  generalize hgp : gapN (twL l n) = gp at HGp HPt hz hgl
  have HP3 : Hid (∀ (W : World) (u : Int), u = ((gp : Int) - 1) / 2 → Calls Try.prog 59 #[.int .i64 (l.length : Int), .int .i64 u, .agg #[.int .i64 (a : Int), .int .i64 (b : Int)]] W fun e w' => e = .returned (.int .i64 (sm : Int)) ∧ Below W.heap.size W w') := Lib.hid (fun W u hu => by rw [hu]; exact HPt.out W)
  clear HPt
  have hg0 : ¬ gp = 0 := hz
  clear hS hP2 hQ1 hQ2 hgp
  go_enter Try.func48, Try.ntmps48
  go_wp2_with fail
  generalize (w.alloc (.cells #[.int .i64 (a : Int), .int .i64 (b : Int)] 25)).alloc (.cells #[.int .i64 0, .int .i64 0] 28) = w0 at HT HR HB HI ⊢
  have h0 := HT.out.c0
  have h1 := HT.out.c1
  with_reducible refine (HA.out _ HI.out).mono ?_
  rintro e w1 ⟨rfl, hb⟩
  replace HT := Lib.hid (HT.out.step hb)
  replace HR := Lib.hid (HR.out.step hb)
  replace HB := Lib.hid (below_trans HB.out hb)
  replace HI := Lib.hid (HI.out.step hb)
  replace h0 := HT.out.c0
  replace h1 := HT.out.c1
  clear hb
  go_wp2_with fail
  with_reducible refine (HWo.out _ HI.out).mono ?_
  rintro e w2 ⟨v, rfl, hrow, hb⟩
  replace HT := Lib.hid (HT.out.step hb)
  replace HR := Lib.hid (HR.out.step hb)
  replace HB := Lib.hid (below_trans HB.out hb)
  replace HI := Lib.hid (HI.out.step hb)
  replace h0 := HT.out.c0
  replace h1 := HT.out.c1
  clear hb
  obtain ⟨gr, cr, rfl, hgr, hIr⟩ := row_insT hlen hrow (by omega)
  have HW := Lib.hid hIr
  clear hrow hIr
  go_wp2_with fail
  with_reducible refine (HGp.out _ gr cr HW.out).mono ?_
  rintro e w3 ⟨rfl, hb⟩
  replace HT := Lib.hid (HT.out.step hb)
  replace HR := Lib.hid (HR.out.step hb)
  replace HB := Lib.hid (below_trans HB.out hb)
  replace HI := Lib.hid (HI.out.step hb)
  replace HW := Lib.hid (HW.out.step hb)
  replace h0 := HT.out.c0
  replace h1 := HT.out.c1
  clear hb
  clear h0 h1
  clear HI HW HA HWo HGp
  go_wp2_with fail
  go_region_held3 (fun w' => w'.cell? ⟨w.heap.size, 0, none⟩ = some (.int .i64 (a : Int)) ∧ w'.cell? ⟨w.heap.size, 1, none⟩ = some (.int .i64 (b : Int)))
    (first
     | exact ⟨(HT.out.step (Below.refl _ w3).drew).c0, (HT.out.step (Below.refl _ w3).drew).c1⟩
     | exact ⟨(HT_1.out).c0, (HT_1.out).c1⟩
     | exact ⟨(HT_2.out).c0, (HT_2.out).c1⟩
     | exact ⟨(HT_3.out).c0, (HT_3.out).c1⟩
     | exact ⟨((HT_3.out).within (within_set (within_set (Within.refl (w.heap.size + 1) (w.heap.size + 1 + 1) v3) (Nat.le_refl _) (Nat.lt_succ_self _) 0 _) (Nat.le_refl _) (Nat.lt_succ_self _) 1 _) (.inl (by omega))).c0, ((HT_3.out).within (within_set (within_set (Within.refl (w.heap.size + 1) (w.heap.size + 1 + 1) v3) (Nat.le_refl _) (Nat.lt_succ_self _) 0 _) (Nat.le_refl _) (Nat.lt_succ_self _) 1 _) (.inl (by omega))).c1⟩)
    (first
     | (go_at_call 52; (with_reducible refine (HCo.out v2).mono ?_); rintro e v3 ⟨rfl, hb⟩; have HZ3 := Lib.hid (below_trans HZ2.out hb); have HT_3 := Lib.hid (HT.out.step HZ3.out); have HR_3 := Lib.hid (HR.out.step HZ3.out); have HB_3 := Lib.hid (below_trans HB.out HZ3.out); have q0 := HR_3.out.c0; have q1 := HR_3.out.c1; have q2 := HR_3.out.f0; have q3 := HR_3.out.f1; clear hb)
     | (go_at_call 55; (with_reducible refine (HPw.out v1).mono ?_); rintro e v2 ⟨rfl, hb⟩; have HZ2 := Lib.hid (below_trans HZ1.out hb); have HT_2 := Lib.hid (HT.out.step HZ2.out); have HR_2 := Lib.hid (HR.out.step HZ2.out); have HB_2 := Lib.hid (below_trans HB.out HZ2.out); clear hb)
     | (go_at_call 59; (with_reducible refine (HP3.out w3.drew _ (by first | rfl | (rw [IntWalk.i64_in ((gp : Int) - 1) (by omega), Int.tdiv_eq_ediv_of_nonneg (by omega)]; exact IntWalk.i64_in _ (by omega)) | (rw [Int.tdiv_eq_ediv_of_nonneg (by omega)]; exact IntWalk.i64_in _ (by omega)))).mono ?_); rintro e v1 ⟨rfl, hb⟩; have HZ1 := Lib.hid (below_trans (Below.refl _ w3).drew hb); have HT_1 := Lib.hid (HT.out.step HZ1.out); have HR_1 := Lib.hid (HR.out.step HZ1.out); have HB_1 := Lib.hid (below_trans HB.out HZ1.out); clear hb))
  all_goals
    go_wp2
    obtain ⟨hs, hw⟩ := stored2 HR_3.out.row (.int .i64 (X : Int)) (.int .i64 (Y : Int))
    generalize ((v3.setCell ⟨w.heap.size + 1, 0, none⟩ (.int .i64 (X : Int))).setCell ⟨w.heap.size + 1, 1, none⟩ (.int .i64 (Y : Int))) = wf at hs hw ⊢
    have e0 := two0 hs
    have e1 := two1 hs
    refine bodyPost_ret (v := .tuple #[.agg #[.int .i64 (X : Int), .int .i64 (Y : Int)], .bool true]) (by simp [results, go_sem, e0, e1]) rfl ?_
    exact ⟨rfl, HB_3.out.trans (hw.below (Nat.le_succ _) HB_3.out.size)⟩
/-- What ChanceSafe answers. -/
theorem chanceSafe_both (n : Int) (l : List Int) (h : l.length ≤ 1048576) (a b : Int) : ∃ (r0 u0 : Int) (r1 : Bool),
    (∀ (w : World) (A : Option Addr) (c lo hi : Nat), Ins w lo hi A l → Calls Try.prog 49 #[.int .i64 n, .slice A l.length c, .agg #[.int .i64 a, .int .i64 b]] w fun e w' => e = .returned (.tuple #[.agg #[.int .i64 r0, .int .i64 u0], .bool r1]) ∧ Below w.heap.size w w') ∧
    (∀ (w : World) (A : Option Addr) (c lo hi : Nat), Ins w lo hi A l → Calls Try.prog 48 #[.int .i64 n, .slice A l.length c, .agg #[.int .i64 a, .int .i64 b]] w fun e w' => e = .returned (.tuple #[.agg #[.int .i64 r0, .int .i64 u0], .bool r1]) ∧ Below w.heap.size w w') := by
  cases hg : givesB n l a b with
  | false => exact ⟨_, _, _, fun w A c lo hi hS => chanceSafe_impl_no n a b A c lo hi l w hS h hg, fun w A c lo hi hS => chanceSafe_spec_no n a b A c lo hi l w hS h hg⟩
  | true =>
    obtain ⟨N, x, y, rfl, rfl, rfl, hG⟩ := gives_nats hg
    by_cases hone : N = 1
    · exact ⟨_, _, _, fun w A c lo hi hS => chanceSafe_impl_one N x y A c lo hi l w hS hG hone, fun w A c lo hi hS => chanceSafe_spec_one N x y A c lo hi l w hS hG hone⟩
    · have h2 : 2 ≤ N := by have := hG.n1; omega
      by_cases hz : gapN (twL l N) = 0
      · refine ⟨_, _, _, fun w A c lo hi hS => chanceSafe_impl N x y A c lo hi l w hS hG h2, fun w A c lo hi hS => ?_⟩
        have h0 := chanceSafe_spec_zero N x y A c lo hi l w hS hG h2 hz
        have hf := fr_zero (pow_pos7 hG.b1 l.length)
        rw [hz, show (0 + 1) / 2 = 0 from rfl, show sumF (wd x y l.length) 0 = 0 from rfl, hf.1, hf.2]
        exact h0
      · exact ⟨_, _, _, fun w A c lo hi hS => chanceSafe_impl N x y A c lo hi l w hS hG h2, fun w A c lo hi hS => chanceSafe_spec N x y A c lo hi l w hS hG h2 hz⟩
end Go.Proofs.Ytlhpbhmldcinmaa
