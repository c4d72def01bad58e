/- The greatest of a row of chances, and where it stands: the library's loops, walked. -/
import Derived.Test.YtbgdnidbdfhgjabL7q
import Derived.Test.YtbgdnidbdfhgjabL7h
namespace Go.Proofs.Ytbgdnidbdfhgjab
open Go.RowKit Go.ChangeShapes Go.WideShapes Go.Maps
set_option linter.unusedVariables false

theorem belowN7 {B : Nat} {a w : World} (h : Below B a w) (n : Nat) : Below B a (w.drewN n) := ⟨h.os, h.tape, h.output, h.size, h.block⟩
theorem PIns.fn {w : World} {lo hi n k : Nat} {A : Option Addr} {P : Nat → Int × Int} (h : PIns w lo hi A ((List.range n).map P)) (hk : k < n) :
    ∃ b o, A = some ⟨b, o, none⟩ ∧ lo ≤ b ∧ b < hi ∧ w.cell? ⟨b, o + k * 2, none⟩ = some (.int .i64 (P k).1) ∧ w.cell? ⟨b, o + k * 2 + 1, none⟩ = some (.int .i64 (P k).2) := by
  have hl : k < ((List.range n).map P).length := by simp; exact hk
  obtain ⟨b, o, e, h1, h2, c1, c2⟩ := h.prs.at_ hl
  have e2 : ((List.range n).map P)[k] = P k := by simp
  rw [e2] at c1 c2
  exact ⟨b, o, e, h1, h2, c1, c2⟩
/-- The chance of number k, of S draws. -/
def pairN (f : Nat → Nat) (S k : Nat) : Int × Int := (((fr1 (f k) S : Nat) : Int), ((fr2 (f k) S : Nat) : Int))
theorem chP_fn (a b : Nat) (l : List (Int × Bool)) (n : Nat) : chP a b l n = (List.range n).map (pairN (g7 a b l) (sumF (g7 a b l) n)) := rfl
theorem pair_ne {f : Nat → Nat} {S j k : Nat} (hS : 0 < S) (h : f j ≠ f k) : ¬ (fr1 (f j) S = fr1 (f k) S ∧ fr2 (f j) S = fr2 (f k) S) := by
  intro e
  have := (fr_eq hS hS).1 e
  exact h (Nat.eq_of_mul_eq_mul_right hS this)

theorem bestTo_step (f : Nat → Nat) {q : Nat} (h : 1 ≤ q) : bestTo f q = if f (bestTo f (q - 1)) < f q then q else bestTo f (q - 1) := by
  obtain ⟨k, rfl⟩ : ∃ k, q = k + 1 := ⟨q - 1, by omega⟩
  rfl
set_option maxRecDepth 100000 in
set_option maxHeartbeats 8000000 in
theorem maxFuncP_any (A : Option Addr) (c lo hi : Nat) (f : Nat → Nat) (S n : Nat) (hS : 0 < S) (hSb : S ≤ 1000000000000000000) (hf : ∀ k, f k ≤ 1000000000000000000) (h1 : 1 ≤ n) (h12 : n ≤ 12) (w : World) (hI : PIns w lo hi A ((List.range n).map (pairN f S))) :
    Calls Try.prog 72 #[.slice A n c, .func (.func 73) #[] #[]] w fun e w' => e = .returned (.agg #[.int .i64 ((fr1 (f (bestTo f (n - 1))) S : Nat) : Int), .int .i64 ((fr2 (f (bestTo f (n - 1))) S : Nat) : Int)]) ∧ Below w.heap.size w w' := by
  have HR := Lib.hid (Two.new w (.int .i64 0) (.int .i64 0) 85 w.heap.size rfl)
  have HB := Lib.hid ((Below.refl w.heap.size w).alloc (Nat.le_refl _) (.cells #[.int .i64 0, .int .i64 0] 85))
  have HI := Lib.hid (hI.step HB.out)
  have HC := Lib.hid (fun (W : World) (j k : Nat) => compareChances_any (fr1 (f j) S) (fr2 (f j) S) (fr1 (f k) S) (fr2 (f k) S) (Nat.le_trans (fr1_le _ _) (hf j)) (Nat.le_trans (fr2_le _ _) hSb) (Nat.le_trans (fr1_le _ _) (hf k)) (Nat.le_trans (fr2_le _ _) hSb) W)
  have HG := Lib.hid (fun j k => (cmpC_gt (p := f j) (q := S) (c := f k) (d := S) hS hS).trans ⟨fun h => Nat.lt_of_mul_lt_mul_right h, fun h => (Nat.mul_lt_mul_right hS).2 h⟩)
  have hn1 : ¬ (n : Int) < 1 := by omega
  have hn0 : (0 : Int) < (n : Int) := by omega
  clear hI hf hS hSb
  obtain ⟨b, o, rfl, _, hbh, hc1, hc2⟩ := HI.out.fn (k := 0) (by omega)
  simp only [Nat.zero_mul, Nat.add_zero] at hc1 hc2
  have hbt := HI.out.top
  simp only [pairN] at hc1 hc2
  go_enter Try.func72, Try.ntmps72
  go_upto_region 3 with fail
  generalize w.alloc (.cells #[.int .i64 0, .int .i64 0] 85) = wa at HR HB HI hc1 hc2 hbt ⊢
  have hrl := HR.out.lt
  have HX : Hid (∃ X Y : Int, X = ((fr1 (f 0) S : Nat) : Int) ∧ Y = ((fr2 (f 0) S : Nat) : Int)) := Lib.hid ⟨_, _, rfl, rfl⟩
  obtain ⟨X, Y, hX, hY⟩ := HX.out
  rw [← hX] at hc1
  rw [← hY] at hc2
  have HXE := Lib.hid hX
  have HYE := Lib.hid hY
  clear hX hY HX
  go_wp2_with fail
  have hb2 := (Below.refl _ wa).alloc (Nat.le_refl _) (.cells #[.int .i64 X, .int .i64 Y] 85)
  have HV := Lib.hid (Two.new wa (.int .i64 X) (.int .i64 Y) 85 wa.heap.size rfl)
  replace HR := Lib.hid (HR.out.step hb2)
  replace HI := Lib.hid (HI.out.step hb2)
  replace HB := Lib.hid (below_trans HB.out hb2)
  clear hb2 hc1 hc2
  generalize wa.alloc (.cells #[.int .i64 X, .int .i64 Y] 85) = wb at HV HR HI HB ⊢
  generalize wa.heap.size = gv at HV hbt hrl ⊢
  rw [HXE.out, HYE.out] at HV
  clear HXE HYE
  go_loopw [6] (fun i wr => ∃ (k : Nat), 1 ≤ k ∧ k ≤ n ∧ i = .int .i64 (k : Int) ∧ Hid (Two wr gv (.int .i64 ((fr1 (f (bestTo f (k - 1))) S : Nat) : Int)) (.int .i64 ((fr2 (f (bestTo f (k - 1))) S : Nat) : Int)) 85) ∧ Hid (Two wr w.heap.size (.int .i64 0) (.int .i64 0) 85) ∧ Hid (PIns wr lo hi (some ⟨b, o, none⟩) ((List.range n).map (pairN f S))) ∧ Hid (Below w.heap.size w wr)) (fun i _ => n - (intOf i).toNat)
  case atStart => exact ⟨1, by omega, by omega, rfl, HV, HR, HI, HB⟩
  case round =>
    clear HV HR HI HB
    obtain ⟨k, hk1, hk, rfl, HV, HR, HI, HB⟩ := hrel
    rename World => wr
    by_cases hlt : k < n
    · obtain ⟨b', o', e, _, _, hc1, hc2⟩ := HI.out.fn hlt
      injection e with e
      injection e with e1 e2
      subst e1 e2
      simp only [pairN] at hc1 hc2
      have hki : (k : Int) < (n : Int) := by omega
      have hk0 : (0 : Int) ≤ (k : Int) := by omega
      have HCk := Lib.hid (fun W => HC.out W k (bestTo f (k - 1)))
      have HGk := Lib.hid (HG.out k (bestTo f (k - 1)))
      have HBT := Lib.hid (bestTo_step f hk1)
      have hcb := cmpC_bd (fr1 (f k) S) (fr2 (f k) S) (fr1 (f (bestTo f (k - 1))) S) (fr2 (f (bestTo f (k - 1))) S)
      generalize cmpC (fr1 (f k) S) (fr2 (f k) S) (fr1 (f (bestTo f (k - 1))) S) (fr2 (f (bestTo f (k - 1))) S) = cv at HCk HGk hcb
      generalize hX1 : fr1 (f k) S = X1 at HCk hc1
      generalize hY1 : fr2 (f k) S = Y1 at HCk hc2
      generalize hX2 : fr1 (f (bestTo f (k - 1))) S = X2 at HCk HV
      generalize hY2 : fr2 (f (bestTo f (k - 1))) S = Y2 at HCk HV
      have HX1 := Lib.hid hX1
      have HY1 := Lib.hid hY1
      have HX2 := Lib.hid hX2
      have HY2 := Lib.hid hY2
      clear hX1 hY1 hX2 hY2
      generalize hoff : o + k * 2 = oo at hc1 hc2
      have HO := Lib.hid hoff
      have hcd1 : wr.drew.cell? ⟨b, oo, none⟩ = some (.int .i64 (X1 : Int)) := hc1
      have hcd2 : wr.drew.cell? ⟨b, oo + 1, none⟩ = some (.int .i64 (Y1 : Int)) := hc2
      have hbw : b < wr.heap.size := by have := HI.out.top; omega
      by_cases hcv : 0 < cv
      · have hst : bestTo f k = k := by rw [HBT.out, if_pos (HGk.out.1 hcv)]
        have HST := Lib.hid hst
        clear HBT HGk hst HX2 HY2
        go_wp2_with fail
        go_region_held3 (fun w' => w'.cell? ⟨b, oo, none⟩ = some (.int .i64 (X1 : Int)) ∧ w'.cell? ⟨b, oo + 1, none⟩ = some (.int .i64 (Y1 : Int)) ∧ w'.cell? ⟨gv, 0, none⟩ = some (.int .i64 (X2 : Int)) ∧ w'.cell? ⟨gv, 1, none⟩ = some (.int .i64 (Y2 : Int)))
          (first
           | exact ⟨hcd1, hcd2, (HV.out.step (Below.refl _ wr).drew).c0, (HV.out.step (Below.refl _ wr).drew).c1⟩
           | exact ⟨d1, d2, HV_1.out.c0, HV_1.out.c1⟩)
          (first
           | (go_at_call 73; (with_reducible refine (HCk.out wr.drew).mono ?_); rintro e v1 ⟨rfl, hb⟩; have HZ1 := Lib.hid (below_trans (Below.refl _ wr).drew hb); have HV_1 := Lib.hid (HV.out.step HZ1.out); have HR_1 := Lib.hid (HR.out.step HZ1.out); have HI_1 := Lib.hid (HI.out.step HZ1.out); have HB_1 := Lib.hid (below_trans HB.out HZ1.out); have d1 := (World.cell?_of_block (HZ1.out.block b hbw)).trans hc1; have d2 := (World.cell?_of_block (HZ1.out.block b hbw)).trans hc2; clear hb))
        all_goals
          have q0 := HV_1.out.c0
          have q1 := HV_1.out.c1
          have q2 := HV_1.out.f0
          have q3 := HV_1.out.f1
          clear HV HR HI HB HZ1 HCk hcd1 hcd2 hc1 hc2
          go_wp2_with fail
          obtain ⟨hs, hw⟩ := stored2 HV_1.out.row (.int .i64 (X1 : Int)) (.int .i64 (Y1 : Int))
          have HS2 : Hid (Two ((v1.setCell ⟨gv, 0, none⟩ (.int .i64 (X1 : Int))).setCell ⟨gv, 1, none⟩ (.int .i64 (Y1 : Int))) gv (.int .i64 (X1 : Int)) (.int .i64 (Y1 : Int)) 85) := Lib.hid ⟨hs⟩
          have HR2 := Lib.hid (HR_1.out.within hw (.inl (by omega)))
          have HI2 := Lib.hid (HI_1.out.within hw (.inl (by omega)))
          have HB2 := Lib.hid (HB_1.out.trans (hw.below (by omega) HB_1.out.size))
          clear hs hw q0 q1 q2 q3 d1 d2 HV_1 HR_1 HI_1 HB_1
          generalize ((v1.setCell ⟨gv, 0, none⟩ (.int .i64 (X1 : Int))).setCell ⟨gv, 1, none⟩ (.int .i64 (Y1 : Int))) = wf at HS2 HR2 HI2 HB2 ⊢
          go_roundw
          case rel => exact ⟨k + 1, by omega, by omega, by go_num, by rw [Nat.add_sub_cancel, HST.out, HX1.out, HY1.out]; exact HS2, HR2, HI2, HB2⟩
          case measure => simp [intOf]; omega
      · have hst : bestTo f k = bestTo f (k - 1) := by rw [HBT.out, if_neg (fun h => hcv (HGk.out.2 h))]
        have HST := Lib.hid hst
        clear HBT HGk hst HX1 HY1
        go_wp2_with fail
        go_region_held3 (fun w' => w'.cell? ⟨b, oo, none⟩ = some (.int .i64 (X1 : Int)) ∧ w'.cell? ⟨b, oo + 1, none⟩ = some (.int .i64 (Y1 : Int)) ∧ w'.cell? ⟨gv, 0, none⟩ = some (.int .i64 (X2 : Int)) ∧ w'.cell? ⟨gv, 1, none⟩ = some (.int .i64 (Y2 : Int)))
          (first
           | exact ⟨hcd1, hcd2, (HV.out.step (Below.refl _ wr).drew).c0, (HV.out.step (Below.refl _ wr).drew).c1⟩
           | exact ⟨d1, d2, HV_1.out.c0, HV_1.out.c1⟩)
          (first
           | (go_at_call 73; (with_reducible refine (HCk.out wr.drew).mono ?_); rintro e v1 ⟨rfl, hb⟩; have HZ1 := Lib.hid (below_trans (Below.refl _ wr).drew hb); have HV_1 := Lib.hid (HV.out.step HZ1.out); have HR_1 := Lib.hid (HR.out.step HZ1.out); have HI_1 := Lib.hid (HI.out.step HZ1.out); have HB_1 := Lib.hid (below_trans HB.out HZ1.out); have d1 := (World.cell?_of_block (HZ1.out.block b hbw)).trans hc1; have d2 := (World.cell?_of_block (HZ1.out.block b hbw)).trans hc2; clear hb))
        all_goals
          clear HV HR HI HB HZ1 HCk hcd1 hcd2 hc1 hc2 d1 d2
          go_wp2
          go_roundw
          case rel => exact ⟨k + 1, by omega, by omega, by go_num, by rw [Nat.add_sub_cancel, HST.out, HX2.out, HY2.out]; exact HV_1, HR_1, HI_1, HB_1⟩
          case measure => simp [intOf]; omega
    · obtain rfl : k = n := by omega
      generalize hX2 : fr1 (f (bestTo f (k - 1))) S = X2 at HV
      generalize hY2 : fr2 (f (bestTo f (k - 1))) S = Y2 at HV
      have HX2 := Lib.hid hX2
      have HY2 := Lib.hid hY2
      clear hX2 hY2
      have q0 := HV.out.c0
      have q1 := HV.out.c1
      have r0 := HR.out.c0
      have r1 := HR.out.c1
      have r2 := HR.out.f0
      have r3 := HR.out.f1
      clear HC HG
      go_wp2
      obtain ⟨hs, hw⟩ := stored2 HR.out.row (.int .i64 (X2 : Int)) (.int .i64 (Y2 : Int))
      generalize ((wr.setCell ⟨w.heap.size, 0, none⟩ (.int .i64 (X2 : Int))).setCell ⟨w.heap.size, 1, none⟩ (.int .i64 (Y2 : Int))) = wf at hs hw ⊢
      have e0 := two0 hs
      have e1 := two1 hs
      refine bodyPost_ret (v := .agg #[.int .i64 (X2 : Int), .int .i64 (Y2 : Int)]) (by simp [results, go_sem, e0, e1]) rfl ?_
      exact ⟨by rw [HX2.out, HY2.out], HB.out.trans (hw.below (Nat.le_refl _) HB.out.size)⟩

set_option maxRecDepth 100000 in
set_option maxHeartbeats 8000000 in
theorem indexP_any (A : Option Addr) (c lo hi : Nat) (f : Nat → Nat) (S n d : Nat) (hd : d < n) (hn : n ≤ 12) (hne : ∀ j, j < d → ¬ (fr1 (f j) S = fr1 (f d) S ∧ fr2 (f j) S = fr2 (f d) S)) (w : World) (hI : PIns w lo hi A ((List.range n).map (pairN f S))) :
    Calls Try.prog 71 #[.slice A n c, .agg #[.int .i64 ((fr1 (f d) S : Nat) : Int), .int .i64 ((fr2 (f d) S : Nat) : Int)]] w fun e w' => e = .returned (.int .i64 (d : Int)) ∧ Below w.heap.size w w' := by
  have HNE := Lib.hid hne
  generalize hX : fr1 (f d) S = X at HNE ⊢
  generalize hY : fr2 (f d) S = Y at HNE ⊢
  have HX := Lib.hid hX
  have HY := Lib.hid hY
  clear hX hY hne
  have HT := Lib.hid (Two.new w (.int .i64 (X : Int)) (.int .i64 (Y : Int)) 85 w.heap.size rfl)
  have HB := Lib.hid ((Below.refl w.heap.size w).alloc (Nat.le_refl _) (.cells #[.int .i64 (X : Int), .int .i64 (Y : Int)] 85))
  have HI := Lib.hid (hI.step HB.out)
  clear hI
  go_enter Try.func71, Try.ntmps71
  go_wp2_with fail
  generalize w.alloc (.cells #[.int .i64 (X : Int), .int .i64 (Y : Int)] 85) = wa at HT HB HI ⊢
  go_loopw [8] (fun i wr => ∃ (k : Nat), k ≤ d ∧ i = .int .i64 (k : Int) ∧ Hid (Two wr w.heap.size (.int .i64 (X : Int)) (.int .i64 (Y : Int)) 85) ∧ Hid (PIns wr lo hi A ((List.range n).map (pairN f S))) ∧ Hid (Below w.heap.size w wr)) (fun i _ => n - (intOf i).toNat)
  case atStart => exact ⟨0, Nat.zero_le _, rfl, HT, HI, HB⟩
  case round =>
    clear HT HI HB
    obtain ⟨k, hk, rfl, HT, HI, HB⟩ := hrel
    rename World => wr
    have hlt : k < n := by omega
    have hki : (k : Int) < (n : Int) := by omega
    have hk0 : (0 : Int) ≤ (k : Int) := by omega
    obtain ⟨b, o, rfl, _, _, hc1, hc2⟩ := HI.out.fn hlt
    simp only [pairN] at hc1 hc2
    have h0 := HT.out.c0
    have h1 := HT.out.c1
    by_cases hkd : k = d
    · subst hkd
      rw [HX.out] at hc1
      rw [HY.out] at hc2
      have heq := eq_arr27 (X : Int) (Y : Int) (X : Int) (Y : Int)
      rw [show (decide ((X : Int) = (X : Int)) && decide ((Y : Int) = (Y : Int))) = true by simp] at heq
      go_wp2_with fail
      go_quiet (fail)
      go_wp2
      go_ret
      exact ⟨rfl, by first | exact belowN7 HB.out _ | exact HB.out⟩
    · have hn1 := HNE.out k (by omega)
      generalize fr1 (f k) S = X1 at hc1 hn1
      generalize fr2 (f k) S = Y1 at hc2 hn1
      have heq := eq_arr27 (X : Int) (Y : Int) (X1 : Int) (Y1 : Int)
      rw [show (decide ((X : Int) = (X1 : Int)) && decide ((Y : Int) = (Y1 : Int))) = false by rw [Bool.eq_false_iff]; intro h; rw [Bool.and_eq_true, decide_eq_true_iff, decide_eq_true_iff] at h; exact hn1 ⟨by omega, by omega⟩] at heq
      clear hn1
      go_wp2_with fail
      go_quiet (fail)
      go_wp2
      go_roundw
      case rel => exact ⟨k + 1, by omega, by go_num, (by first | exact HT | exact Lib.hid (HT.out.step (belowN7 (Below.refl _ wr) _))), (by first | exact HI | exact Lib.hid (HI.out.step (belowN7 (Below.refl _ wr) _))), (by first | exact HB | exact Lib.hid (belowN7 HB.out _))⟩
      case measure => simp [intOf]; omega
end Go.Proofs.Ytbgdnidbdfhgjab
