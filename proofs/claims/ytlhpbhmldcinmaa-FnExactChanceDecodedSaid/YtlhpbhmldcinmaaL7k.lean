/- ChanceYes, of both sides. -/
import Derived.Test.YtlhpbhmldcinmaaL7j
namespace Go.Proofs.Ytlhpbhmldcinmaa
open Go.RowKit Go.ChangeShapes Go.WideShapes Go.Maps
set_option linter.unusedVariables false

theorem row_ins7 {w : World} {B n : Nat} {v : Value} {zs : List Int} (h : w.ownsRow B 3 1 v n (zs.map (Value.int .i64))) (hn : n = zs.length) (h0 : 0 < n) : ∃ g c, v = .slice (some ⟨g, 0, none⟩) zs.length c ∧ B ≤ g ∧ Ins w g (g + 1) (some ⟨g, 0, none⟩) zs := by
  obtain ⟨g, c, e, hb, ho⟩ := own_rowS6 h hn h0
  exact ⟨g, c, e, hb, ho.ints, own_lt ho⟩
theorem row_insN {w : World} {B n : Nat} {v : Value} {f : Nat → Nat} (h : w.ownsRow B 3 1 v n ((zsN f n).map (Value.int .i64))) (h0 : 0 < n) : ∃ g c, v = .slice (some ⟨g, 0, none⟩) n c ∧ B ≤ g ∧ Ins w g (g + 1) (some ⟨g, 0, none⟩) (zsN f n) := by
  obtain ⟨g, c, e, hb, hi⟩ := row_ins7 h (zsN_len f n).symm h0
  rw [zsN_len] at e
  exact ⟨g, c, e, hb, hi⟩
/-- How many draws lead to a yes: x of S are in the question. -/
def yesN (x S a b : Nat) : Nat := x * (b - a) + (S - x) * a
theorem yes_scale {g X Y x S a b : Nat} (h1 : X * g = x) (h2 : Y * g = S) : yesN x S a b = g * yesN X Y a b ∧ S * b = g * (Y * b) := by
  subst h1 h2
  unfold yesN
  refine ⟨?_, by rw [Nat.mul_comm Y g, Nat.mul_assoc]⟩
  rw [Nat.mul_add, ← Nat.sub_mul, Nat.mul_comm X g, Nat.mul_assoc, Nat.mul_comm (Y - X) g, Nat.mul_assoc]
theorem yes_fr (x S a b : Nat) (hS : 0 < S) : fr1 (yesN (fr1 x S) (fr2 x S) a b) (fr2 x S * b) = fr1 (yesN x S a b) (S * b) ∧ fr2 (yesN (fr1 x S) (fr2 x S) a b) (fr2 x S * b) = fr2 (yesN x S a b) (S * b) := by
  obtain ⟨e1, e2⟩ := yes_scale (a := a) (b := b) (fr1_mul x S) (fr2_mul x S)
  have h := fr_scale (yesN (fr1 x S) (fr2 x S) a b) (fr2 x S * b) (fr_gcd_pos x hS)
  rw [← e1, ← e2] at h
  exact ⟨h.1.symm, h.2.symm⟩
theorem yes_bd {x S a b : Nat} (hx : x ≤ S) (ha : a ≤ b) (hb : b ≤ 10) : yesN x S a b ≤ S * 10 := by
  unfold yesN
  have h1 := Nat.mul_le_mul (Nat.le_refl x) (show b - a ≤ 10 by omega)
  have h2 := Nat.mul_le_mul (Nat.le_refl (S - x)) (show a ≤ 10 by omega)
  omega
theorem yes_cast {x S a b : Nat} (hx : x ≤ S) (ha : a ≤ b) : (x : Int) * ((b : Int) - (a : Int)) + ((S : Int) - (x : Int)) * (a : Int) = ((yesN x S a b : Nat) : Int) := by
  unfold yesN
  rw [Int.natCast_add, Int.natCast_mul, Int.natCast_mul, Int.natCast_sub ha, Int.natCast_sub hx]
theorem Given.in_le {n a b : Nat} {l : List (Int × Bool)} (h : Given n a b l) (q : Int) : sumT (g7 a b l) (hasN q) n ≤ sumF (g7 a b l) n := sumT_part n fun i _ => hasN_le q i
set_option maxRecDepth 100000 in
set_option maxHeartbeats 2000000 in
theorem chanceYes_impl (n a b : Nat) (q : Int) (A : Option Addr) (c lo hi : Nat) (l : List (Int × Bool)) (w : World) (hS : AIns w lo hi A l) (hg : Given n a b l) (hpos : 0 < sumF (g7 a b l) n) (hq : qOK (n : Int) q = true) (h11 : l.length ≤ 11) :
    Calls Try.prog 37 #[.int .i64 (n : Int), .slice A l.length c, .int .i64 q, .agg #[.int .i64 (a : Int), .int .i64 (b : Int)]] w fun e w' => e = .returned (.tuple #[.agg #[.int .i64 ((fr1 (yesN (sumT (g7 a b l) (hasN q) n) (sumF (g7 a b l) n) a b) (sumF (g7 a b l) n * b) : Nat) : Int), .int .i64 ((fr2 (yesN (sumT (g7 a b l) (hasN q) n) (sumF (g7 a b l) n) a b) (sumF (g7 a b l) n * b) : Nat) : Int)], .bool true]) ∧ Below w.heap.size w w' := by
  have HT := Lib.hid (Two.new w (.int .i64 (a : Int)) (.int .i64 (b : Int)) 25 (w.heap.size) rfl)
  have HB := Lib.hid ((Below.refl w.heap.size w).alloc (Nat.le_refl _) (.cells #[.int .i64 (a : Int), .int .i64 (b : Int)] 25))
  have HR := Lib.hid (Two.new (w.alloc (.cells #[.int .i64 (a : Int), .int .i64 (b : Int)] 25)) (.int .i64 0) (.int .i64 0) 28 (w.heap.size + 1) (by simp))
  replace HT := Lib.hid (HT.out.step ((Below.refl _ _).alloc (Nat.le_refl _) (.cells #[.int .i64 0, .int .i64 0] 28)))
  replace HB := Lib.hid (HB.out.alloc HB.out.size (.cells #[.int .i64 0, .int .i64 0] 28))
  have HI := Lib.hid (hS.step HB.out)
  have HD := Lib.hid (fun W h => drawsAfter_impl n a b A c lo hi l W h hg)
  rw [show decide (0 < sumF (g7 a b l) n) = true from decide_eq_true hpos] at HD
  have HQ := Lib.hid (fun W => isQuestion_any (n : Int) q W)
  rw [hq] at HQ
  have HN := Lib.hid (fun W => isDrawn_any ((l.length : Int) + 1) W)
  rw [inB_t (x := (l.length : Int) + 1) (a := 0) (b := 12) (by omega) (by omega)] at HN
  have HC := Lib.hid (fun (W : World) (g : Nat) (hI : Ins W g (g + 1) (some ⟨g, 0, none⟩) (zsN (g7 a b l) n)) => chanceOf_any (some ⟨g, 0, none⟩) n g (g + 1) (g7 a b l) n q W hI (by have := hg.n12; omega) (fun i _ => hg.bd i) hpos)
  have hle := hg.in_le q
  have hs := hg.sum n (Nat.le_refl _)
  have hyf := yes_fr (sumT (g7 a b l) (hasN q) n) (sumF (g7 a b l) n) a b hpos
  rw [← hyf.1, ← hyf.2]
  clear hyf
  have hXY := fr1_le_fr2 hle
  have hY1 := fr2_pos (sumT (g7 a b l) (hasN q) n) hpos
  have hYS := Nat.le_trans (fr2_le (sumT (g7 a b l) (hasN q) n) (sumF (g7 a b l) n)) hs
  generalize fr1 (sumT (g7 a b l) (hasN q) n) (sumF (g7 a b l) n) = X at HC hXY ⊢
  generalize fr2 (sumT (g7 a b l) (hasN q) n) (sumF (g7 a b l) n) = Y at HC hXY hY1 hYS ⊢
  have hab := hg.ab
  have hb10 := hg.b10
  have hb1 := hg.b1
  have hyb := yes_bd hXY hab hb10
  have hyc := yes_cast hXY hab
  have hYb : Y * b ≤ 12000000000000 * 10 := Nat.mul_le_mul hYS hb10
  have hYb1 : 1 ≤ Y * b := Nat.mul_pos hY1 hb1
  have HFr := Lib.hid (fun W => fractionOf_any (yesN X Y a b) (Y * b) hYb1 (by omega) (by omega) W)
  have hm1 : 0 ≤ (X : Int) * ((b : Int) - (a : Int)) := Int.mul_nonneg (Int.natCast_nonneg _) (by omega)
  have hm2 : 0 ≤ ((Y : Int) - (X : Int)) * (a : Int) := Int.mul_nonneg (by omega) (Int.natCast_nonneg _)
  have hm3 : (X : Int) * ((b : Int) - (a : Int)) + ((Y : Int) - (X : Int)) * (a : Int) ≤ 120000000000000 := by rw [hyc]; omega
  have hm4 : 0 ≤ (Y : Int) * (b : Int) ∧ (Y : Int) * (b : Int) ≤ 120000000000000 := by rw [← Int.natCast_mul]; omega
  rw [← hyc, Int.natCast_mul] at HFr
  generalize fr1 (yesN X Y a b) (Y * b) = P at HFr ⊢
  generalize fr2 (yesN X Y a b) (Y * b) = Q at HFr ⊢
  clear hyc hyb hYb hYb1 hS hs hpos hle hq hg
  go_enter Try.func37, Try.ntmps37
  go_wp2_with fail
  generalize (w.alloc (.cells #[.int .i64 (a : Int), .int .i64 (b : Int)] 25)).alloc (.cells #[.int .i64 0, .int .i64 0] 28) = w0 at HT HR HB HI ⊢
  have h0 := HT.out.c0
  have h1 := HT.out.c1
  with_reducible refine (HD.out _ HI.out).mono ?_
  rintro e w1 ⟨g, rfl, hgl, hrow, hb⟩
  replace HT := Lib.hid (HT.out.step hb)
  replace HR := Lib.hid (HR.out.step hb)
  replace HB := Lib.hid (below_trans HB.out hb)
  replace HI := Lib.hid (HI.out.step hb)
  replace h0 := HT.out.c0
  replace h1 := HT.out.c1
  have HW := Lib.hid (row_ins70 hrow)
  clear hrow
  clear hb
  clear HD HI
  go_wp2_with (first | (go_at_call 74; (with_reducible refine (HQ.out _).mono ?_); rintro e wX ⟨rfl, hw⟩; have hw := hw.symm; subst hw) | (go_at_call 61; (with_reducible refine (HN.out _).mono ?_); rintro e wX ⟨rfl, hw⟩; have hw := hw.symm; subst hw))
  with_reducible refine (HC.out _ g HW.out).mono ?_
  rintro e w2 ⟨rfl, hb⟩
  replace HT := Lib.hid (HT.out.step hb)
  replace HR := Lib.hid (HR.out.step hb)
  replace HB := Lib.hid (below_trans HB.out hb)
  replace HW := Lib.hid (HW.out.step hb)
  replace h0 := HT.out.c0
  replace h1 := HT.out.c1
  clear hb
  clear HC HW HQ HN
  have hb2 := (Below.refl _ w2).alloc (Nat.le_refl _) (.cells #[.int .i64 (X : Int), .int .i64 (Y : Int)] 28)
  have HTx := Lib.hid (HT.out.step hb2)
  have h0 := HTx.out.c0
  have h1 := HTx.out.c1
  go_wp2_with fail
  refine (HFr.out _).mono ?_
  rintro e w4 ⟨rfl, hb⟩
  have hb3 := below_trans hb2 hb
  replace HR := Lib.hid (HR.out.step hb3)
  replace HB := Lib.hid (below_trans HB.out hb3)
  clear hb hb2 hb3 h0 h1 HTx HFr HT
  have q0 := HR.out.c0
  have q1 := HR.out.c1
  have q2 := HR.out.f0
  have q3 := HR.out.f1
  go_wp2
  obtain ⟨hs, hw⟩ := stored2 HR.out.row (.int .i64 (P : Int)) (.int .i64 (Q : Int))
  generalize ((w4.setCell ⟨w.heap.size + 1, 0, none⟩ (.int .i64 (P : Int))).setCell ⟨w.heap.size + 1, 1, none⟩ (.int .i64 (Q : Int))) = wf at hs hw ⊢
  have e0 := two0 hs
  have e1 := two1 hs
  refine bodyPost_ret (v := .tuple #[.agg #[.int .i64 (P : Int), .int .i64 (Q : Int)], .bool true]) (by simp [results, go_sem, e0, e1]) rfl ?_
  exact ⟨rfl, HB.out.trans (hw.below (Nat.le_succ _) HB.out.size)⟩
set_option maxRecDepth 100000 in
set_option maxHeartbeats 2000000 in
theorem chanceYes_impl_no1 (n a b q : Int) (A : Option Addr) (c lo hi : Nat) (l : List (Int × Bool)) (w : World) (hS : AIns w lo hi A l) (hl : l.length ≤ 1048576) (h : givenB n l a b = false) :
    Calls Try.prog 37 #[.int .i64 n, .slice A l.length c, .int .i64 q, .agg #[.int .i64 a, .int .i64 b]] w fun e w' => e = .returned (.tuple #[.agg #[.int .i64 0, .int .i64 0], .bool false]) ∧ Below w.heap.size w w' := by
  have HT := Lib.hid (Two.new w (.int .i64 a) (.int .i64 b) 25 (w.heap.size) rfl)
  have HB := Lib.hid ((Below.refl w.heap.size w).alloc (Nat.le_refl _) (.cells #[.int .i64 a, .int .i64 b] 25))
  have HR := Lib.hid (Two.new (w.alloc (.cells #[.int .i64 a, .int .i64 b] 25)) (.int .i64 0) (.int .i64 0) 28 (w.heap.size + 1) (by simp))
  replace HT := Lib.hid (HT.out.step ((Below.refl _ _).alloc (Nat.le_refl _) (.cells #[.int .i64 0, .int .i64 0] 28)))
  replace HB := Lib.hid (HB.out.alloc HB.out.size (.cells #[.int .i64 0, .int .i64 0] 28))
  have HI := Lib.hid (hS.step HB.out)
  have HD := Lib.hid (fun W hh => drawsAfter_no n a b A c lo hi l W hh hl h)
  clear hS
  go_enter Try.func37, Try.ntmps37
  go_wp2_with fail
  generalize (w.alloc (.cells #[.int .i64 a, .int .i64 b] 25)).alloc (.cells #[.int .i64 0, .int .i64 0] 28) = w0 at HT HR HB HI ⊢
  have h0 := HT.out.c0
  have h1 := HT.out.c1
  with_reducible refine (HD.out _ HI.out).mono ?_
  rintro e w1 ⟨v, rfl, hb⟩
  replace HT := Lib.hid (HT.out.step hb)
  replace HR := Lib.hid (HR.out.step hb)
  replace HB := Lib.hid (below_trans HB.out hb)
  replace HI := Lib.hid (HI.out.step hb)
  replace h0 := HT.out.c0
  replace h1 := HT.out.c1
  clear hb
  clear h0 h1
  have q0 := HR.out.c0
  have q1 := HR.out.c1
  have q2 := HR.out.f0
  have q3 := HR.out.f1
  go_wp2
  obtain ⟨hs, hw⟩ := stored2 HR.out.row (.int .i64 0) (.int .i64 0)
  generalize ((w1.setCell ⟨w.heap.size + 1, 0, none⟩ (.int .i64 0)).setCell ⟨w.heap.size + 1, 1, none⟩ (.int .i64 0)) = wf at hs hw ⊢
  have e0 := two0 hs
  have e1 := two1 hs
  refine bodyPost_ret (v := .tuple #[.agg #[.int .i64 0, .int .i64 0], .bool false]) (by simp [results, go_sem, e0, e1]) rfl ?_
  exact ⟨rfl, HB.out.trans (hw.below (Nat.le_succ _) HB.out.size)⟩
set_option maxRecDepth 100000 in
set_option maxHeartbeats 2000000 in
theorem chanceYes_impl_no2 (n a b : Nat) (q : Int) (A : Option Addr) (c lo hi : Nat) (l : List (Int × Bool)) (w : World) (hS : AIns w lo hi A l) (hg : Given n a b l) (hpos : ¬ 0 < sumF (g7 a b l) n) :
    Calls Try.prog 37 #[.int .i64 (n : Int), .slice A l.length c, .int .i64 q, .agg #[.int .i64 (a : Int), .int .i64 (b : Int)]] w fun e w' => e = .returned (.tuple #[.agg #[.int .i64 0, .int .i64 0], .bool false]) ∧ Below w.heap.size w w' := by
  have HT := Lib.hid (Two.new w (.int .i64 (a : Int)) (.int .i64 (b : Int)) 25 (w.heap.size) rfl)
  have HB := Lib.hid ((Below.refl w.heap.size w).alloc (Nat.le_refl _) (.cells #[.int .i64 (a : Int), .int .i64 (b : Int)] 25))
  have HR := Lib.hid (Two.new (w.alloc (.cells #[.int .i64 (a : Int), .int .i64 (b : Int)] 25)) (.int .i64 0) (.int .i64 0) 28 (w.heap.size + 1) (by simp))
  replace HT := Lib.hid (HT.out.step ((Below.refl _ _).alloc (Nat.le_refl _) (.cells #[.int .i64 0, .int .i64 0] 28)))
  replace HB := Lib.hid (HB.out.alloc HB.out.size (.cells #[.int .i64 0, .int .i64 0] 28))
  have HI := Lib.hid (hS.step HB.out)
  have HD := Lib.hid (fun W h => drawsAfter_impl n a b A c lo hi l W h hg)
  rw [show decide (0 < sumF (g7 a b l) n) = false from decide_eq_false hpos] at HD
  clear hS
  go_enter Try.func37, Try.ntmps37
  go_wp2_with fail
  generalize (w.alloc (.cells #[.int .i64 (a : Int), .int .i64 (b : Int)] 25)).alloc (.cells #[.int .i64 0, .int .i64 0] 28) = w0 at HT HR HB HI ⊢
  have h0 := HT.out.c0
  have h1 := HT.out.c1
  with_reducible refine (HD.out _ HI.out).mono ?_
  rintro e w1 ⟨g, rfl, hgl, hrow, hb⟩
  replace HT := Lib.hid (HT.out.step hb)
  replace HR := Lib.hid (HR.out.step hb)
  replace HB := Lib.hid (below_trans HB.out hb)
  replace HI := Lib.hid (HI.out.step hb)
  replace h0 := HT.out.c0
  replace h1 := HT.out.c1
  clear hb
  clear h0 h1
  have q0 := HR.out.c0
  have q1 := HR.out.c1
  have q2 := HR.out.f0
  have q3 := HR.out.f1
  go_wp2
  obtain ⟨hs, hw⟩ := stored2 HR.out.row (.int .i64 0) (.int .i64 0)
  generalize ((w1.setCell ⟨w.heap.size + 1, 0, none⟩ (.int .i64 0)).setCell ⟨w.heap.size + 1, 1, none⟩ (.int .i64 0)) = wf at hs hw ⊢
  have e0 := two0 hs
  have e1 := two1 hs
  refine bodyPost_ret (v := .tuple #[.agg #[.int .i64 0, .int .i64 0], .bool false]) (by simp [results, go_sem, e0, e1]) rfl ?_
  exact ⟨rfl, HB.out.trans (hw.below (Nat.le_succ _) HB.out.size)⟩
set_option maxRecDepth 100000 in
set_option maxHeartbeats 2000000 in
theorem chanceYes_impl_no3 (n a b : Nat) (q : Int) (A : Option Addr) (c lo hi : Nat) (l : List (Int × Bool)) (w : World) (hS : AIns w lo hi A l) (hg : Given n a b l) (hpos : 0 < sumF (g7 a b l) n) (hq : qOK (n : Int) q = false) :
    Calls Try.prog 37 #[.int .i64 (n : Int), .slice A l.length c, .int .i64 q, .agg #[.int .i64 (a : Int), .int .i64 (b : Int)]] w fun e w' => e = .returned (.tuple #[.agg #[.int .i64 0, .int .i64 0], .bool false]) ∧ Below w.heap.size w w' := by
  have HT := Lib.hid (Two.new w (.int .i64 (a : Int)) (.int .i64 (b : Int)) 25 (w.heap.size) rfl)
  have HB := Lib.hid ((Below.refl w.heap.size w).alloc (Nat.le_refl _) (.cells #[.int .i64 (a : Int), .int .i64 (b : Int)] 25))
  have HR := Lib.hid (Two.new (w.alloc (.cells #[.int .i64 (a : Int), .int .i64 (b : Int)] 25)) (.int .i64 0) (.int .i64 0) 28 (w.heap.size + 1) (by simp))
  replace HT := Lib.hid (HT.out.step ((Below.refl _ _).alloc (Nat.le_refl _) (.cells #[.int .i64 0, .int .i64 0] 28)))
  replace HB := Lib.hid (HB.out.alloc HB.out.size (.cells #[.int .i64 0, .int .i64 0] 28))
  have HI := Lib.hid (hS.step HB.out)
  have HD := Lib.hid (fun W h => drawsAfter_impl n a b A c lo hi l W h hg)
  rw [show decide (0 < sumF (g7 a b l) n) = true from decide_eq_true hpos] at HD
  have HQ := Lib.hid (fun W => isQuestion_any (n : Int) q W)
  rw [hq] at HQ
  clear hS hq
  go_enter Try.func37, Try.ntmps37
  go_wp2_with fail
  generalize (w.alloc (.cells #[.int .i64 (a : Int), .int .i64 (b : Int)] 25)).alloc (.cells #[.int .i64 0, .int .i64 0] 28) = w0 at HT HR HB HI ⊢
  have h0 := HT.out.c0
  have h1 := HT.out.c1
  with_reducible refine (HD.out _ HI.out).mono ?_
  rintro e w1 ⟨g, rfl, hgl, hrow, hb⟩
  replace HT := Lib.hid (HT.out.step hb)
  replace HR := Lib.hid (HR.out.step hb)
  replace HB := Lib.hid (below_trans HB.out hb)
  replace HI := Lib.hid (HI.out.step hb)
  replace h0 := HT.out.c0
  replace h1 := HT.out.c1
  clear hb
  clear h0 h1
  have q0 := HR.out.c0
  have q1 := HR.out.c1
  have q2 := HR.out.f0
  have q3 := HR.out.f1
  go_wp2_with (first | (go_at_call 74; (with_reducible refine (HQ.out _).mono ?_); rintro e wX ⟨rfl, hw⟩; have hw := hw.symm; subst hw))
  obtain ⟨hs, hw⟩ := stored2 HR.out.row (.int .i64 0) (.int .i64 0)
  generalize ((w1.setCell ⟨w.heap.size + 1, 0, none⟩ (.int .i64 0)).setCell ⟨w.heap.size + 1, 1, none⟩ (.int .i64 0)) = wf at hs hw ⊢
  have e0 := two0 hs
  have e1 := two1 hs
  refine bodyPost_ret (v := .tuple #[.agg #[.int .i64 0, .int .i64 0], .bool false]) (by simp [results, go_sem, e0, e1]) rfl ?_
  exact ⟨rfl, HB.out.trans (hw.below (Nat.le_succ _) HB.out.size)⟩
set_option maxRecDepth 100000 in
set_option maxHeartbeats 2000000 in
theorem chanceYes_impl_no4 (n a b : Nat) (q : Int) (A : Option Addr) (c lo hi : Nat) (l : List (Int × Bool)) (w : World) (hS : AIns w lo hi A l) (hg : Given n a b l) (hpos : 0 < sumF (g7 a b l) n) (hq : qOK (n : Int) q = true) (h12 : ¬ l.length ≤ 11) :
    Calls Try.prog 37 #[.int .i64 (n : Int), .slice A l.length c, .int .i64 q, .agg #[.int .i64 (a : Int), .int .i64 (b : Int)]] w fun e w' => e = .returned (.tuple #[.agg #[.int .i64 0, .int .i64 0], .bool false]) ∧ Below w.heap.size w w' := by
  have HT := Lib.hid (Two.new w (.int .i64 (a : Int)) (.int .i64 (b : Int)) 25 (w.heap.size) rfl)
  have HB := Lib.hid ((Below.refl w.heap.size w).alloc (Nat.le_refl _) (.cells #[.int .i64 (a : Int), .int .i64 (b : Int)] 25))
  have HR := Lib.hid (Two.new (w.alloc (.cells #[.int .i64 (a : Int), .int .i64 (b : Int)] 25)) (.int .i64 0) (.int .i64 0) 28 (w.heap.size + 1) (by simp))
  replace HT := Lib.hid (HT.out.step ((Below.refl _ _).alloc (Nat.le_refl _) (.cells #[.int .i64 0, .int .i64 0] 28)))
  replace HB := Lib.hid (HB.out.alloc HB.out.size (.cells #[.int .i64 0, .int .i64 0] 28))
  have HI := Lib.hid (hS.step HB.out)
  have HD := Lib.hid (fun W h => drawsAfter_impl n a b A c lo hi l W h hg)
  rw [show decide (0 < sumF (g7 a b l) n) = true from decide_eq_true hpos] at HD
  have HQ := Lib.hid (fun W => isQuestion_any (n : Int) q W)
  rw [hq] at HQ
  have HN := Lib.hid (fun W => isDrawn_any ((l.length : Int) + 1) W)
  rw [inB_f2 (x := (l.length : Int) + 1) (a := 0) (b := 12) (by omega)] at HN
  have hl12 := hg.l12
  clear hS hq
  go_enter Try.func37, Try.ntmps37
  go_wp2_with fail
  generalize (w.alloc (.cells #[.int .i64 (a : Int), .int .i64 (b : Int)] 25)).alloc (.cells #[.int .i64 0, .int .i64 0] 28) = w0 at HT HR HB HI ⊢
  have h0 := HT.out.c0
  have h1 := HT.out.c1
  with_reducible refine (HD.out _ HI.out).mono ?_
  rintro e w1 ⟨g, rfl, hgl, hrow, hb⟩
  replace HT := Lib.hid (HT.out.step hb)
  replace HR := Lib.hid (HR.out.step hb)
  replace HB := Lib.hid (below_trans HB.out hb)
  replace HI := Lib.hid (HI.out.step hb)
  replace h0 := HT.out.c0
  replace h1 := HT.out.c1
  clear hb
  clear h0 h1
  have q0 := HR.out.c0
  have q1 := HR.out.c1
  have q2 := HR.out.f0
  have q3 := HR.out.f1
  go_wp2_with (first | (go_at_call 74; (with_reducible refine (HQ.out _).mono ?_); rintro e wX ⟨rfl, hw⟩; have hw := hw.symm; subst hw) | (go_at_call 61; (with_reducible refine (HN.out _).mono ?_); rintro e wX ⟨rfl, hw⟩; have hw := hw.symm; subst hw))
  obtain ⟨hs, hw⟩ := stored2 HR.out.row (.int .i64 0) (.int .i64 0)
  generalize ((w1.setCell ⟨w.heap.size + 1, 0, none⟩ (.int .i64 0)).setCell ⟨w.heap.size + 1, 1, none⟩ (.int .i64 0)) = wf at hs hw ⊢
  have e0 := two0 hs
  have e1 := two1 hs
  refine bodyPost_ret (v := .tuple #[.agg #[.int .i64 0, .int .i64 0], .bool false]) (by simp [results, go_sem, e0, e1]) rfl ?_
  exact ⟨rfl, HB.out.trans (hw.below (Nat.le_succ _) HB.out.size)⟩
set_option maxRecDepth 100000 in
set_option maxHeartbeats 2000000 in
theorem chanceYes_spec_no1 (n a b q : Int) (A : Option Addr) (c lo hi : Nat) (l : List (Int × Bool)) (w : World) (hS : AIns w lo hi A l) (hl : l.length ≤ 1048576) (h : givenB n l a b = false) :
    Calls Try.prog 36 #[.int .i64 n, .slice A l.length c, .int .i64 q, .agg #[.int .i64 a, .int .i64 b]] w fun e w' => e = .returned (.tuple #[.agg #[.int .i64 0, .int .i64 0], .bool false]) ∧ Below w.heap.size w w' := by
  have HT := Lib.hid (Two.new w (.int .i64 a) (.int .i64 b) 25 (w.heap.size) rfl)
  have HB := Lib.hid ((Below.refl w.heap.size w).alloc (Nat.le_refl _) (.cells #[.int .i64 a, .int .i64 b] 25))
  have HR := Lib.hid (Two.new (w.alloc (.cells #[.int .i64 a, .int .i64 b] 25)) (.int .i64 0) (.int .i64 0) 28 (w.heap.size + 1) (by simp))
  replace HT := Lib.hid (HT.out.step ((Below.refl _ _).alloc (Nat.le_refl _) (.cells #[.int .i64 0, .int .i64 0] 28)))
  replace HB := Lib.hid (HB.out.alloc HB.out.size (.cells #[.int .i64 0, .int .i64 0] 28))
  have HI := Lib.hid (hS.step HB.out)
  have HA := Lib.hid (fun W hh => l7Answers_any n a b A c lo hi l W hh hl)
  rw [h] at HA
  clear hS h
  go_enter Try.func36, Try.ntmps36
  go_wp2_with fail
  generalize (w.alloc (.cells #[.int .i64 a, .int .i64 b] 25)).alloc (.cells #[.int .i64 0, .int .i64 0] 28) = w0 at HT HR HB HI ⊢
  have h0 := HT.out.c0
  have h1 := HT.out.c1
  with_reducible refine (HA.out _ HI.out).mono ?_
  rintro e w1 ⟨rfl, hb⟩
  replace HT := Lib.hid (HT.out.step hb)
  replace HR := Lib.hid (HR.out.step hb)
  replace HB := Lib.hid (below_trans HB.out hb)
  replace HI := Lib.hid (HI.out.step hb)
  replace h0 := HT.out.c0
  replace h1 := HT.out.c1
  clear hb
  clear h0 h1
  have q0 := HR.out.c0
  have q1 := HR.out.c1
  have q2 := HR.out.f0
  have q3 := HR.out.f1
  go_wp2
  obtain ⟨hs, hw⟩ := stored2 HR.out.row (.int .i64 0) (.int .i64 0)
  generalize ((w1.setCell ⟨w.heap.size + 1, 0, none⟩ (.int .i64 0)).setCell ⟨w.heap.size + 1, 1, none⟩ (.int .i64 0)) = wf at hs hw ⊢
  have e0 := two0 hs
  have e1 := two1 hs
  refine bodyPost_ret (v := .tuple #[.agg #[.int .i64 0, .int .i64 0], .bool false]) (by simp [results, go_sem, e0, e1]) rfl ?_
  exact ⟨rfl, HB.out.trans (hw.below (Nat.le_succ _) HB.out.size)⟩
set_option maxRecDepth 100000 in
set_option maxHeartbeats 2000000 in
theorem chanceYes_spec_no2 (n a b : Nat) (q : Int) (A : Option Addr) (c lo hi : Nat) (l : List (Int × Bool)) (w : World) (hS : AIns w lo hi A l) (hg : Given n a b l) (h12 : ¬ l.length ≤ 11) :
    Calls Try.prog 36 #[.int .i64 (n : Int), .slice A l.length c, .int .i64 q, .agg #[.int .i64 (a : Int), .int .i64 (b : Int)]] w fun e w' => e = .returned (.tuple #[.agg #[.int .i64 0, .int .i64 0], .bool false]) ∧ Below w.heap.size w w' := by
  have HT := Lib.hid (Two.new w (.int .i64 (a : Int)) (.int .i64 (b : Int)) 25 (w.heap.size) rfl)
  have HB := Lib.hid ((Below.refl w.heap.size w).alloc (Nat.le_refl _) (.cells #[.int .i64 (a : Int), .int .i64 (b : Int)] 25))
  have HR := Lib.hid (Two.new (w.alloc (.cells #[.int .i64 (a : Int), .int .i64 (b : Int)] 25)) (.int .i64 0) (.int .i64 0) 28 (w.heap.size + 1) (by simp))
  replace HT := Lib.hid (HT.out.step ((Below.refl _ _).alloc (Nat.le_refl _) (.cells #[.int .i64 0, .int .i64 0] 28)))
  replace HB := Lib.hid (HB.out.alloc HB.out.size (.cells #[.int .i64 0, .int .i64 0] 28))
  have HI := Lib.hid (hS.step HB.out)
  have HA := Lib.hid (fun W h => l7Answers_any (n : Int) (a : Int) (b : Int) A c lo hi l W h (by have := hg.l12; omega))
  rw [hg.yes] at HA
  have hl12 := hg.l12
  have he : l.length = 12 := by omega
  have he2 : (l.length : Int) = 12 := by omega
  clear hS h12 hl12 he
  go_enter Try.func36, Try.ntmps36
  go_wp2_with fail
  generalize (w.alloc (.cells #[.int .i64 (a : Int), .int .i64 (b : Int)] 25)).alloc (.cells #[.int .i64 0, .int .i64 0] 28) = w0 at HT HR HB HI ⊢
  have h0 := HT.out.c0
  have h1 := HT.out.c1
  with_reducible refine (HA.out _ HI.out).mono ?_
  rintro e w1 ⟨rfl, hb⟩
  replace HT := Lib.hid (HT.out.step hb)
  replace HR := Lib.hid (HR.out.step hb)
  replace HB := Lib.hid (below_trans HB.out hb)
  replace HI := Lib.hid (HI.out.step hb)
  replace h0 := HT.out.c0
  replace h1 := HT.out.c1
  clear hb
  clear h0 h1
  have q0 := HR.out.c0
  have q1 := HR.out.c1
  have q2 := HR.out.f0
  have q3 := HR.out.f1
  go_wp2
  obtain ⟨hs, hw⟩ := stored2 HR.out.row (.int .i64 0) (.int .i64 0)
  generalize ((w1.setCell ⟨w.heap.size + 1, 0, none⟩ (.int .i64 0)).setCell ⟨w.heap.size + 1, 1, none⟩ (.int .i64 0)) = wf at hs hw ⊢
  have e0 := two0 hs
  have e1 := two1 hs
  refine bodyPost_ret (v := .tuple #[.agg #[.int .i64 0, .int .i64 0], .bool false]) (by simp [results, go_sem, e0, e1]) rfl ?_
  exact ⟨rfl, HB.out.trans (hw.below (Nat.le_succ _) HB.out.size)⟩
set_option maxRecDepth 100000 in
set_option maxHeartbeats 2000000 in
theorem chanceYes_spec_no3 (n a b : Nat) (q : Int) (A : Option Addr) (c lo hi : Nat) (l : List (Int × Bool)) (w : World) (hS : AIns w lo hi A l) (hg : Given n a b l) (h11 : l.length ≤ 11) (hq : qOK (n : Int) q = false) :
    Calls Try.prog 36 #[.int .i64 (n : Int), .slice A l.length c, .int .i64 q, .agg #[.int .i64 (a : Int), .int .i64 (b : Int)]] w fun e w' => e = .returned (.tuple #[.agg #[.int .i64 0, .int .i64 0], .bool false]) ∧ Below w.heap.size w w' := by
  have HT := Lib.hid (Two.new w (.int .i64 (a : Int)) (.int .i64 (b : Int)) 25 (w.heap.size) rfl)
  have HB := Lib.hid ((Below.refl w.heap.size w).alloc (Nat.le_refl _) (.cells #[.int .i64 (a : Int), .int .i64 (b : Int)] 25))
  have HR := Lib.hid (Two.new (w.alloc (.cells #[.int .i64 (a : Int), .int .i64 (b : Int)] 25)) (.int .i64 0) (.int .i64 0) 28 (w.heap.size + 1) (by simp))
  replace HT := Lib.hid (HT.out.step ((Below.refl _ _).alloc (Nat.le_refl _) (.cells #[.int .i64 0, .int .i64 0] 28)))
  replace HB := Lib.hid (HB.out.alloc HB.out.size (.cells #[.int .i64 0, .int .i64 0] 28))
  have HI := Lib.hid (hS.step HB.out)
  have HA := Lib.hid (fun W h => l7Answers_any (n : Int) (a : Int) (b : Int) A c lo hi l W h (by have := hg.l12; omega))
  rw [hg.yes] at HA
  have HQ := Lib.hid (fun W => l2Asks_any (n : Int) q W)
  rw [hq] at HQ
  clear hS hq
  go_enter Try.func36, Try.ntmps36
  go_wp2_with fail
  generalize (w.alloc (.cells #[.int .i64 (a : Int), .int .i64 (b : Int)] 25)).alloc (.cells #[.int .i64 0, .int .i64 0] 28) = w0 at HT HR HB HI ⊢
  have h0 := HT.out.c0
  have h1 := HT.out.c1
  with_reducible refine (HA.out _ HI.out).mono ?_
  rintro e w1 ⟨rfl, hb⟩
  replace HT := Lib.hid (HT.out.step hb)
  replace HR := Lib.hid (HR.out.step hb)
  replace HB := Lib.hid (below_trans HB.out hb)
  replace HI := Lib.hid (HI.out.step hb)
  replace h0 := HT.out.c0
  replace h1 := HT.out.c1
  clear hb
  clear h0 h1
  have q0 := HR.out.c0
  have q1 := HR.out.c1
  have q2 := HR.out.f0
  have q3 := HR.out.f1
  go_wp2_with (first | (go_at_call 72; (with_reducible refine (HQ.out _).mono ?_); rintro e wX ⟨rfl, hw⟩; have hw := hw.symm; subst hw))
  obtain ⟨hs, hw⟩ := stored2 HR.out.row (.int .i64 0) (.int .i64 0)
  generalize ((w1.setCell ⟨w.heap.size + 1, 0, none⟩ (.int .i64 0)).setCell ⟨w.heap.size + 1, 1, none⟩ (.int .i64 0)) = wf at hs hw ⊢
  have e0 := two0 hs
  have e1 := two1 hs
  refine bodyPost_ret (v := .tuple #[.agg #[.int .i64 0, .int .i64 0], .bool false]) (by simp [results, go_sem, e0, e1]) rfl ?_
  exact ⟨rfl, HB.out.trans (hw.below (Nat.le_succ _) HB.out.size)⟩
theorem pow13' (k : Nat) (h : k ≤ 12) : (2 : Int) ^ k ≤ 4096 := by
  have : ∀ k, k ≤ 12 → (2 : Int) ^ k ≤ 4096 := by decide
  exact this k h
set_option maxRecDepth 100000 in
set_option maxHeartbeats 8000000 in
theorem chanceYes_spec_no4 (n a b : Nat) (q : Int) (A : Option Addr) (c lo hi : Nat) (l : List (Int × Bool)) (w : World) (hS : AIns w lo hi A l) (hg : Given n a b l) (hpos : ¬ 0 < sumF (g7 a b l) n) (hq : qOK (n : Int) q = true) (h11 : l.length ≤ 11) :
    Calls Try.prog 36 #[.int .i64 (n : Int), .slice A l.length c, .int .i64 q, .agg #[.int .i64 (a : Int), .int .i64 (b : Int)]] w fun e w' => e = .returned (.tuple #[.agg #[.int .i64 0, .int .i64 0], .bool false]) ∧ Below w.heap.size w w' := by
  have HT := Lib.hid (Two.new w (.int .i64 (a : Int)) (.int .i64 (b : Int)) 25 (w.heap.size) rfl)
  have HB := Lib.hid ((Below.refl w.heap.size w).alloc (Nat.le_refl _) (.cells #[.int .i64 (a : Int), .int .i64 (b : Int)] 25))
  have HR := Lib.hid (Two.new (w.alloc (.cells #[.int .i64 (a : Int), .int .i64 (b : Int)] 25)) (.int .i64 0) (.int .i64 0) 28 (w.heap.size + 1) (by simp))
  replace HT := Lib.hid (HT.out.step ((Below.refl _ _).alloc (Nat.le_refl _) (.cells #[.int .i64 0, .int .i64 0] 28)))
  replace HB := Lib.hid (HB.out.alloc HB.out.size (.cells #[.int .i64 0, .int .i64 0] 28))
  have HI := Lib.hid (hS.step HB.out)
  have HA := Lib.hid (fun W h => l7Answers_any (n : Int) (a : Int) (b : Int) A c lo hi l W h (by have := hg.l12; omega))
  rw [hg.yes] at HA
  have HQ := Lib.hid (fun W => l2Asks_any (n : Int) q W)
  rw [hq] at HQ
  have HD := Lib.hid (fun W h => l7After_any n a b A c lo hi l W h hg)
  have hz : sumF (g7 a b l) n = 0 := by omega
  rw [hz] at HD
  clear hS
  go_enter Try.func36, Try.ntmps36
  go_wp2_with fail
  generalize (w.alloc (.cells #[.int .i64 (a : Int), .int .i64 (b : Int)] 25)).alloc (.cells #[.int .i64 0, .int .i64 0] 28) = w0 at HT HR HB HI ⊢
  have h0 := HT.out.c0
  have h1 := HT.out.c1
  with_reducible refine (HA.out _ HI.out).mono ?_
  rintro e w1 ⟨rfl, hb⟩
  replace HT := Lib.hid (HT.out.step hb)
  replace HR := Lib.hid (HR.out.step hb)
  replace HB := Lib.hid (below_trans HB.out hb)
  replace HI := Lib.hid (HI.out.step hb)
  replace h0 := HT.out.c0
  replace h1 := HT.out.c1
  clear hb
  go_wp2_with (first | (go_at_call 72; (with_reducible refine (HQ.out _).mono ?_); rintro e wX ⟨rfl, hw⟩; have hw := hw.symm; subst hw))
  with_reducible refine (HD.out _ HI.out).mono ?_
  rintro e w2 ⟨v, rfl, hrow, hb⟩
  replace HT := Lib.hid (HT.out.step hb)
  replace HR := Lib.hid (HR.out.step hb)
  replace HB := Lib.hid (below_trans HB.out hb)
  replace HI := Lib.hid (HI.out.step hb)
  replace h0 := HT.out.c0
  replace h1 := HT.out.c1
  clear hb
  clear h0 h1
  have q0 := HR.out.c0
  have q1 := HR.out.c1
  have q2 := HR.out.f0
  have q3 := HR.out.f1
  go_wp2
  obtain ⟨hs, hw⟩ := stored2 HR.out.row (.int .i64 0) (.int .i64 0)
  generalize ((w2.setCell ⟨w.heap.size + 1, 0, none⟩ (.int .i64 0)).setCell ⟨w.heap.size + 1, 1, none⟩ (.int .i64 0)) = wf at hs hw ⊢
  have e0 := two0 hs
  have e1 := two1 hs
  refine bodyPost_ret (v := .tuple #[.agg #[.int .i64 0, .int .i64 0], .bool false]) (by simp [results, go_sem, e0, e1]) rfl ?_
  exact ⟨rfl, HB.out.trans (hw.below (Nat.le_succ _) HB.out.size)⟩
set_option maxRecDepth 100000 in
set_option maxHeartbeats 2000000 in
theorem chanceYes_spec (n a b : Nat) (q : Int) (A : Option Addr) (c lo hi : Nat) (l : List (Int × Bool)) (w : World) (hS : AIns w lo hi A l) (hg : Given n a b l) (hpos : 0 < sumF (g7 a b l) n) (hq : qOK (n : Int) q = true) (h11 : l.length ≤ 11) :
    Calls Try.prog 36 #[.int .i64 (n : Int), .slice A l.length c, .int .i64 q, .agg #[.int .i64 (a : Int), .int .i64 (b : Int)]] w fun e w' => e = .returned (.tuple #[.agg #[.int .i64 ((fr1 (yesN (sumT (g7 a b l) (hasN q) n) (sumF (g7 a b l) n) a b) (sumF (g7 a b l) n * b) : Nat) : Int), .int .i64 ((fr2 (yesN (sumT (g7 a b l) (hasN q) n) (sumF (g7 a b l) n) a b) (sumF (g7 a b l) n * b) : Nat) : Int)], .bool true]) ∧ Below w.heap.size w w' := by
  have HT := Lib.hid (Two.new w (.int .i64 (a : Int)) (.int .i64 (b : Int)) 25 (w.heap.size) rfl)
  have HB := Lib.hid ((Below.refl w.heap.size w).alloc (Nat.le_refl _) (.cells #[.int .i64 (a : Int), .int .i64 (b : Int)] 25))
  have HR := Lib.hid (Two.new (w.alloc (.cells #[.int .i64 (a : Int), .int .i64 (b : Int)] 25)) (.int .i64 0) (.int .i64 0) 28 (w.heap.size + 1) (by simp))
  replace HT := Lib.hid (HT.out.step ((Below.refl _ _).alloc (Nat.le_refl _) (.cells #[.int .i64 0, .int .i64 0] 28)))
  replace HB := Lib.hid (HB.out.alloc HB.out.size (.cells #[.int .i64 0, .int .i64 0] 28))
  have HI := Lib.hid (hS.step HB.out)
  have HA := Lib.hid (fun W h => l7Answers_any (n : Int) (a : Int) (b : Int) A c lo hi l W h (by have := hg.l12; omega))
  rw [hg.yes] at HA
  have HQ := Lib.hid (fun W => l2Asks_any (n : Int) q W)
  rw [hq] at HQ
  have HD := Lib.hid (fun W h => l7After_any n a b A c lo hi l W h hg)
  have hle := hg.in_le q
  have hs := hg.sum n (Nat.le_refl _)
  have hqb := qOK_iff.1 hq
  have hq4 : 0 ≤ q ∧ q ≤ 4095 := by have hn := hg.n12; rw [Int.toNat_natCast] at hqb; have h2 : (2 : Int) ^ n ≤ 4096 := (pow13' n hn); omega
  clear hqb
  have HL := Lib.hid (fun (W : World) (g cc : Nat) (hI : Ins W g (g + 1) (some ⟨g, 0, none⟩) (zsN (g7 a b l) n)) => l7In_any (some ⟨g, 0, none⟩) cc g (g + 1) (g7 a b l) n q W hI hg.n12 (fun i _ => hg.bd i) hq4)
  have hn1 := hg.n1
  have hab := hg.ab
  have hb10 := hg.b10
  have hb1 := hg.b1
  generalize hXe : sumT (g7 a b l) (hasN q) n = X at HL hle ⊢
  clear hXe
  have HOw : ∀ (W : World) (v : Value), W.ownsRow (W.heap.size + 1) 3 1 v n ((zsN (g7 a b l) n).map (Value.int .i64)) → True := fun _ _ _ => trivial
  clear HOw
  generalize hSe : sumF (g7 a b l) n = S at HD hle hs hpos ⊢
  clear hSe
  have hS0 : ¬ S = 0 := by omega
  have hyb := yes_bd hle hab hb10
  have hyc := yes_cast hle hab
  have hYb : S * b ≤ 12000000000000 * 10 := Nat.mul_le_mul hs hb10
  have hYb1 : 1 ≤ S * b := Nat.mul_pos hpos hb1
  have HFr := Lib.hid (fun W => l7Cut_any (yesN X S a b) (S * b) hYb1 (by omega) (by omega) W)
  have hm1 : 0 ≤ (X : Int) * ((b : Int) - (a : Int)) := Int.mul_nonneg (Int.natCast_nonneg _) (by omega)
  have hm2 : 0 ≤ ((S : Int) - (X : Int)) * (a : Int) := Int.mul_nonneg (by omega) (Int.natCast_nonneg _)
  have hm3 : (X : Int) * ((b : Int) - (a : Int)) + ((S : Int) - (X : Int)) * (a : Int) ≤ 120000000000000 := by rw [hyc]; omega
  have hm4 : 0 ≤ (S : Int) * (b : Int) ∧ (S : Int) * (b : Int) ≤ 120000000000000 := by rw [← Int.natCast_mul]; omega
  rw [← hyc, Int.natCast_mul] at HFr
  generalize fr1 (yesN X S a b) (S * b) = P at HFr ⊢
  generalize fr2 (yesN X S a b) (S * b) = Q at HFr ⊢
  clear hyc hyb hYb hYb1 hq
  clear hS
  go_enter Try.func36, Try.ntmps36
  go_wp2_with fail
  generalize (w.alloc (.cells #[.int .i64 (a : Int), .int .i64 (b : Int)] 25)).alloc (.cells #[.int .i64 0, .int .i64 0] 28) = w0 at HT HR HB HI ⊢
  have h0 := HT.out.c0
  have h1 := HT.out.c1
  with_reducible refine (HA.out _ HI.out).mono ?_
  rintro e w1 ⟨rfl, hb⟩
  replace HT := Lib.hid (HT.out.step hb)
  replace HR := Lib.hid (HR.out.step hb)
  replace HB := Lib.hid (below_trans HB.out hb)
  replace HI := Lib.hid (HI.out.step hb)
  replace h0 := HT.out.c0
  replace h1 := HT.out.c1
  clear hb
  go_wp2_with (first | (go_at_call 72; (with_reducible refine (HQ.out _).mono ?_); rintro e wX ⟨rfl, hw⟩; have hw := hw.symm; subst hw))
  with_reducible refine (HD.out _ HI.out).mono ?_
  rintro e w2 ⟨v, rfl, hrow, hb⟩
  replace HT := Lib.hid (HT.out.step hb)
  replace HR := Lib.hid (HR.out.step hb)
  replace HB := Lib.hid (below_trans HB.out hb)
  replace HI := Lib.hid (HI.out.step hb)
  replace h0 := HT.out.c0
  replace h1 := HT.out.c1
  clear hb
  obtain ⟨gr, cr, rfl, hgr, hIr⟩ := row_insN hrow (by omega)
  have HW := Lib.hid hIr
  clear hrow hIr
  go_wp2_with (first | (go_at_call 73; (with_reducible refine (HL.out _ _ _ HW.out).mono ?_); rintro e wX ⟨rfl, hw⟩; have hw := hw.symm; subst hw))
  with_reducible refine (HFr.out _).mono ?_
  rintro e w3 ⟨rfl, hb⟩
  replace HT := Lib.hid (HT.out.step hb)
  replace HR := Lib.hid (HR.out.step hb)
  replace HB := Lib.hid (below_trans HB.out hb)
  replace HI := Lib.hid (HI.out.step hb)
  replace HW := Lib.hid (HW.out.step hb)
  replace h0 := HT.out.c0
  replace h1 := HT.out.c1
  clear hb
  clear h0 h1
  have q0 := HR.out.c0
  have q1 := HR.out.c1
  have q2 := HR.out.f0
  have q3 := HR.out.f1
  go_wp2
  obtain ⟨hs, hw⟩ := stored2 HR.out.row (.int .i64 (P : Int)) (.int .i64 (Q : Int))
  generalize ((w3.setCell ⟨w.heap.size + 1, 0, none⟩ (.int .i64 (P : Int))).setCell ⟨w.heap.size + 1, 1, none⟩ (.int .i64 (Q : Int))) = wf at hs hw ⊢
  have e0 := two0 hs
  have e1 := two1 hs
  refine bodyPost_ret (v := .tuple #[.agg #[.int .i64 (P : Int), .int .i64 (Q : Int)], .bool true]) (by simp [results, go_sem, e0, e1]) rfl ?_
  exact ⟨rfl, HB.out.trans (hw.below (Nat.le_succ _) HB.out.size)⟩
/-- What ChanceYes answers. -/
theorem chanceYes_both (n : Int) (l : List (Int × Bool)) (h : l.length ≤ 1048576) (q a b : Int) : ∃ (r0 u0 : Int) (r1 : Bool),
    (∀ (w : World) (A : Option Addr) (c lo hi : Nat), AIns w lo hi A l → Calls Try.prog 37 #[.int .i64 n, .slice A l.length c, .int .i64 q, .agg #[.int .i64 a, .int .i64 b]] w fun e w' => e = .returned (.tuple #[.agg #[.int .i64 r0, .int .i64 u0], .bool r1]) ∧ Below w.heap.size w w') ∧
    (∀ (w : World) (A : Option Addr) (c lo hi : Nat), AIns w lo hi A l → Calls Try.prog 36 #[.int .i64 n, .slice A l.length c, .int .i64 q, .agg #[.int .i64 a, .int .i64 b]] w fun e w' => e = .returned (.tuple #[.agg #[.int .i64 r0, .int .i64 u0], .bool r1]) ∧ Below w.heap.size w w') := by
  cases hg : givenB n l a b with
  | false => exact ⟨_, _, _, fun w A c lo hi hS => chanceYes_impl_no1 n a b q A c lo hi l w hS h hg, fun w A c lo hi hS => chanceYes_spec_no1 n a b q A c lo hi l w hS h hg⟩
  | true =>
    obtain ⟨N, x, y, rfl, rfl, rfl, hG⟩ := given_nats hg
    by_cases hpos : 0 < sumF (g7 x y l) N
    · by_cases h11 : l.length ≤ 11
      · cases hq : qOK (N : Int) q with
        | true => exact ⟨_, _, _, fun w A c lo hi hS => chanceYes_impl N x y q A c lo hi l w hS hG hpos hq h11, fun w A c lo hi hS => chanceYes_spec N x y q A c lo hi l w hS hG hpos hq h11⟩
        | false => exact ⟨_, _, _, fun w A c lo hi hS => chanceYes_impl_no3 N x y q A c lo hi l w hS hG hpos hq, fun w A c lo hi hS => chanceYes_spec_no3 N x y q A c lo hi l w hS hG h11 hq⟩
      · cases hq : qOK (N : Int) q with
        | true => exact ⟨_, _, _, fun w A c lo hi hS => chanceYes_impl_no4 N x y q A c lo hi l w hS hG hpos hq h11, fun w A c lo hi hS => chanceYes_spec_no2 N x y q A c lo hi l w hS hG h11⟩
        | false => exact ⟨_, _, _, fun w A c lo hi hS => chanceYes_impl_no3 N x y q A c lo hi l w hS hG hpos hq, fun w A c lo hi hS => chanceYes_spec_no2 N x y q A c lo hi l w hS hG h11⟩
    · by_cases h11 : l.length ≤ 11
      · cases hq : qOK (N : Int) q with
        | true => exact ⟨_, _, _, fun w A c lo hi hS => chanceYes_impl_no2 N x y q A c lo hi l w hS hG hpos, fun w A c lo hi hS => chanceYes_spec_no4 N x y q A c lo hi l w hS hG hpos hq h11⟩
        | false => exact ⟨_, _, _, fun w A c lo hi hS => chanceYes_impl_no2 N x y q A c lo hi l w hS hG hpos, fun w A c lo hi hS => chanceYes_spec_no3 N x y q A c lo hi l w hS hG h11 hq⟩
      · exact ⟨_, _, _, fun w A c lo hi hS => chanceYes_impl_no2 N x y q A c lo hi l w hS hG hpos, fun w A c lo hi hS => chanceYes_spec_no2 N x y q A c lo hi l w hS hG h11⟩
end Go.Proofs.Ytlhpbhmldcinmaa
