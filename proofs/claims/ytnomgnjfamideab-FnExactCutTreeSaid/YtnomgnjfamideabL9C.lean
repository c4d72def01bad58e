/- Trees of questions: cut trees of the specification. -/
import Derived.Test.YtnomgnjfamideabL9K
import Derived.WalkMore
import Derived.IntWalk
namespace Go.Proofs.Ytnomgnjfamideab
open Go.RowKit Go.ChangeShapes Go.WideShapes Go.Maps
set_option linter.unusedVariables false

theorem cut9_zero : ∀ (t : T9), cut9 t 0 0 = .leaf
  | .leaf => rfl
  | .br q y m => if_pos (Nat.le_refl _)
theorem cut9_yes {q : Int} {y m : T9} {k : Nat} (h0 : 0 < k) (h : k < 1 + y.size) : cut9 (.br q y m) 0 k = .br q (cut9 y 0 (k - 1)) m := by
  have h1 := cut9_shift 1 y 0 (k - 1)
  rw [show k - 1 + 1 = k by omega] at h1
  conv => lhs; unfold cut9
  rw [if_neg (by omega), if_pos (by omega), h1]
theorem cut9_no {q : Int} {y m : T9} {k : Nat} (h : ¬ k < 1 + y.size) : cut9 (.br q y m) 0 k = .br q y (cut9 m 0 (k - (1 + y.size))) := by
  have h1 := cut9_shift (1 + y.size) m 0 (k - (1 + y.size))
  rw [show k - (1 + y.size) + (1 + y.size) = k by omega, show 0 + (1 + y.size) = 0 + 1 + y.size by omega] at h1
  conv => lhs; unfold cut9
  rw [if_neg (by omega), if_neg (by omega), h1]
set_option maxRecDepth 100000 in
set_option maxHeartbeats 4000000 in
theorem l9Cut_zero (n : Int) (A : Option Addr) (s c : Nat) (K : Int) (w : World) (hK : K = 0) :
    Calls Try.prog 38 #[.int .i64 n, .slice A s c, .int .i64 K] w fun e w' => ∃ B d, e = .returned (.slice B [lf9].length d) ∧ NMade w' w.heap.size w'.heap.size B [lf9] ∧ Below w.heap.size w w' := by
  subst hK
  have HL := Lib.hid (fun W => l9Leaf_any W)
  go_enter Try.func38, Try.ntmps38
  go_wp2_with fail
  with_reducible refine (HL.out _).mono ?_
  rintro e w1 ⟨rfl, hb⟩
  have HB := Lib.hid (hb.alloc hb.size (.cells #[.int .i64 (-1), .int .i64 (-1), .int .i64 (-1)] 56))
  have HM := Lib.hid (leaf_row9k (w := w1) (lo := w.heap.size) hb.size)
  clear hb
  go_wp2
  go_ret
  exact ⟨_, _, rfl, HM.out, HB.out⟩
set_option maxRecDepth 100000 in
set_option maxHeartbeats 16000000 in
theorem l9Cut_any (n : Int) : ∀ (t : T9) (A : Option Addr) (c lo hi k : Nat) (K : Int) (w : World), NIns w lo hi A (tell9 t 0) → t.size ≤ c → t.ok n → t.depth ≤ 6 → k < t.size → K ≤ (k : Int) → (k : Int) ≤ K →
    Calls Try.prog 38 #[.int .i64 n, .slice A t.size c, .int .i64 K] w fun e w' => ∃ B d, e = .returned (.slice B (tell9 (cut9 t 0 k) 0).length d) ∧ NMade w' w.heap.size w'.heap.size B (tell9 (cut9 t 0 k) 0) ∧ Below w.heap.size w w'
  | .leaf, A, c, lo, hi, k, K, w, hS, hc, hok, hd, hk, hK1, hK2 => by
    have hk0 : k = 0 := by simp only [T9.size] at hk; omega
    subst hk0
    exact l9Cut_zero n A _ c K w (by omega)
  | .br q y m, A, c, lo, hi, k, K, w, hS, hc, hok, hd, hk, hK1, hK2 => by
    by_cases hz : k = 0
    · subst hz
      rw [cut9_zero]
      exact l9Cut_zero n A _ c K w (by omega)
    by_cases hy : k < 1 + y.size
    · have hsz := T9.size_127 hd
      have hys := y.size_pos
      have hms := m.size_pos
      simp only [T9.size] at hsz hc hk
      have hdl := T9.depth_l (q := q) (y := y) (m := m)
      have hdr := T9.depth_r (q := q) (y := y) (m := m)
      have hat := At9.self (.br q y m)
      have hlen : (tell9 (.br q y m) 0).length = 1 + y.size + m.size := by rw [tell9_len]; rfl
      obtain ⟨b, o, rfl, hx⟩ := hS.at3 (k := 0) (by rw [hlen]; omega)
      have hx0 : (tell9 (.br q y m) 0)[0]'(by rw [hlen]; omega) = (q, 1, 1 + (y.size : Int)) := by
        simp only [tell9, List.getElem_cons_zero]
        refine Prod.ext rfl (Prod.ext rfl ?_)
        simp only; omega
      rw [hx0] at hx
      have hc0 : w.cell? ⟨b, o, none⟩ = some (.int .i64 q) := by have := hx.c0; simpa using this
      have hc1 : w.cell? ⟨b, o + 1, none⟩ = some (.int .i64 1) := by have := hx.c1; simpa using this
      have hc2 : w.cell? ⟨b, o + 2, none⟩ = some (.int .i64 (1 + (y.size : Int))) := by have := hx.c2; simpa using this
      have hbl := hx.lt
      obtain ⟨Pn, hPn⟩ : ∃ Pn : Int, Pn = 1 + (y.size : Int) := ⟨_, rfl⟩
      rw [← hPn] at hc2
      have hPn0 : 0 ≤ Pn := by omega
      have hPn1 : Pn ≤ 1 + (y.size : Int) := by omega
      have hPn2 : 1 + (y.size : Int) ≤ Pn := by omega
      have hK0 : 0 < K := by omega
      have hK00 : ¬ K = 0 := by omega
      have hK127 : K ≤ 127 := by omega
      have HSy := Lib.hid (fun W h => l9Sub_any n b o c lo hi (tell9 (.br q y m) 0) 1 y W h (by omega) (by omega) hat.yes hok.2.1 (by omega))
      have HSm := Lib.hid (fun W h => l9Sub_any n b o c lo hi (tell9 (.br q y m) 0) (0 + 1 + y.size) m W h (by omega) (by omega) hat.no hok.2.2 (by omega))
      rw [show ((0 + 1 + y.size : Nat) : Int) = Pn by omega] at HSm
      rw [show ((1 : Nat) : Int) = 1 from rfl] at HSy
      rw [hlen] at HSy HSm
      have IH := Lib.hid (fun A' c' lo' hi' K' W h1 h2 h3 h4 => l9Cut_any n y A' c' lo' hi' (k - 1) K' W h1 h2 hok.2.1 (by omega) (by omega) h3 h4)
      have hcs := cut9_size y 0 (k - 1)
      have HJ := Lib.hid (fun A1 c1 l1 h1 A2 c2 l2 h2 W k1 k2 => l9Join_any q A1 c1 l1 h1 (tell9 (cut9 y 0 (k - 1)) 0) A2 c2 l2 h2 (tell9 m 0) W k1 k2 (fit9_tell (by omega)) (fit9_tell (by omega)) (by rw [tell9_len]; exact T9.size_pos _) (by rw [tell9_len]; exact T9.size_pos _))
      rw [join9_tell] at HJ
      rw [cut9_yes (q := q) (y := y) (m := m) (by omega : 0 < k) hy, show (T9.br q y m).size = 1 + y.size + m.size from rfl]
      generalize tell9 (.br q (cut9 y 0 (k - 1)) m) 0 = R at HJ ⊢
      have hlo := tell9_len m 0
      rw [hlo] at HJ
      generalize tell9 (cut9 y 0 (k - 1)) 0 = RC at IH HJ
      have hcond : K < Pn := by omega
      obtain ⟨S, hSS⟩ : ∃ S : Nat, S = 1 + y.size + m.size := ⟨_, rfl⟩
      rw [← hSS] at HSy HSm ⊢
      have HT := Lib.hid (Three.new w (.int .i64 q) (.int .i64 1) (.int .i64 Pn) 56 w.heap.size rfl)
      have hb1 := (Below.refl w.heap.size w).alloc (Nat.le_refl _) (.cells #[.int .i64 q, .int .i64 1, .int .i64 Pn] 56)
      have HX := Lib.hid (One.new (w.alloc (.cells #[.int .i64 q, .int .i64 1, .int .i64 Pn] 56)) (.slice (some ⟨b, o, none⟩) S c) 28 (w.heap.size + 1) (by simp))
      replace HT := Lib.hid (HT.out.step ((Below.refl _ _).alloc (Nat.le_refl _) (.cells #[.slice (some ⟨b, o, none⟩) S c] 28)))
      have HB := Lib.hid (hb1.alloc hb1.size (.cells #[.slice (some ⟨b, o, none⟩) S c] 28))
      have HI := Lib.hid (hS.step HB.out)
      have hS1 : (0 : Int) < (S : Int) := by omega
      have hS2 : 0 < S := by omega
      clear hx hS hc hok hd hb1 hat hlen hx0 hSS hPn hlo hcs
      go_enter Try.func38, Try.ntmps38
      go_wp2_with fail
      generalize (w.alloc (.cells #[.int .i64 q, .int .i64 1, .int .i64 Pn] 56)).alloc (.cells #[.slice (some ⟨b, o, none⟩) S c] 28) = w0 at HT HX HB HI ⊢
      clear hc0 hc1 hc2
      go_region_held3 (fun w' => w'.cell? ⟨w.heap.size, 1, none⟩ = some (.int .i64 1) ∧ w'.cell? ⟨w.heap.size, 2, none⟩ = some (.int .i64 Pn) ∧ w'.cell? ⟨w.heap.size + 1, 0, none⟩ = some (.slice (some ⟨b, o, none⟩) S c))
        (first
         | exact ⟨(HT.out.step (Below.refl _ w0).drew).c1, (HT.out.step (Below.refl _ w0).drew).c2, (HX.out.step (Below.refl _ w0).drew).c0⟩
         | exact ⟨HT_2.out.c1, HT_2.out.c2, HX_2.out.c0⟩
         | exact ⟨HT_1.out.c1, HT_1.out.c2, HX_1.out.c0⟩)
        (first
         | (go_at_call 42; (with_reducible refine (HSm.out _ (HI.out.step HZ1.out)).mono ?_); rintro e v2 ⟨B2, d2, rfl, hdd2, hm2, hb⟩; have HZ2 := Lib.hid (below_trans HZ1.out hb); have HT_2 := Lib.hid (HT.out.step HZ2.out); have HX_2 := Lib.hid (HX.out.step HZ2.out); have HM2 := Lib.hid hm2.ins; have HY2 := Lib.hid (HY1.out.step hb); clear hb hm2)
         | (go_at_call 42; (with_reducible refine (HSy.out _ (HI.out.step (Below.refl _ w0).drew)).mono ?_); rintro e v1 ⟨B1, d1, rfl, hdd1, hm1, hb⟩; have HZ1 := Lib.hid (below_trans (Below.refl _ w0).drew hb); have HT_1 := Lib.hid (HT.out.step HZ1.out); have HX_1 := Lib.hid (HX.out.step HZ1.out); have HY1 := Lib.hid hm1.ins; clear hb hm1))
      all_goals
        clear HT HX HT_1 HX_1 HX_2 HZ1 HY1 HI HSy HSm
        have h2 := HT_2.out.c2
        have h0 := HT_2.out.c0
        go_wp2_with fail
        clear h2 h0
        go_region_held3 (fun w' => w'.cell? ⟨w.heap.size, 0, none⟩ = some (.int .i64 q))
          (first
           | exact (HT_2.out.step (Below.refl _ v2).drew).c0
           | exact HT_4.out.c0
           | exact HT_3.out.c0)
          (first
           | (go_at_call 59; (with_reducible refine (HJ.out _ _ _ _ _ _ _ _ _ HC3.out HO3.out).mono ?_); rintro e v4 ⟨B4, d4, rfl, hm4, hb⟩; have HZ4 := Lib.hid (below_trans HZ3.out hb); have HT_4 := Lib.hid (HT_2.out.step HZ4.out); have HR4 := Lib.hid hm4; clear hb hm4)
           | (go_at_call 38; (with_reducible refine (IH.out _ _ _ _ _ _ (HY2.out.step (Below.refl _ v2).drew) hdd1 (by first | omega | (rw [IntWalk.i64_in (K - 1) (by omega)]; omega)) (by first | omega | (rw [IntWalk.i64_in (K - 1) (by omega)]; omega))).mono ?_); rintro e v3 ⟨B3, d3, rfl, hm3, hb⟩; have HZ3 := Lib.hid (below_trans (Below.refl _ v2).drew hb); have HT_3 := Lib.hid (HT_2.out.step HZ3.out); have HC3 := Lib.hid hm3.ins; have HO3 := Lib.hid (HM2.out.step HZ3.out); clear hb hm3))
        all_goals
          have HB5 := Lib.hid (below_trans (below_trans HB.out HZ2.out) HZ4.out)
          have z0 := HB.out.size
          have z1 := HZ2.out.size
          have z2 := HZ3.out.size
          go_wp2
          go_ret
          exact ⟨B4, d4, rfl, HR4.out.wide (Nat.le_trans z0 (Nat.le_trans z1 z2)) HR4.out.top (Nat.le_refl _), HB5.out⟩
    · have hsz := T9.size_127 hd
      have hys := y.size_pos
      have hms := m.size_pos
      simp only [T9.size] at hsz hc hk
      have hdl := T9.depth_l (q := q) (y := y) (m := m)
      have hdr := T9.depth_r (q := q) (y := y) (m := m)
      have hat := At9.self (.br q y m)
      have hlen : (tell9 (.br q y m) 0).length = 1 + y.size + m.size := by rw [tell9_len]; rfl
      obtain ⟨b, o, rfl, hx⟩ := hS.at3 (k := 0) (by rw [hlen]; omega)
      have hx0 : (tell9 (.br q y m) 0)[0]'(by rw [hlen]; omega) = (q, 1, 1 + (y.size : Int)) := by
        simp only [tell9, List.getElem_cons_zero]
        refine Prod.ext rfl (Prod.ext rfl ?_)
        simp only; omega
      rw [hx0] at hx
      have hc0 : w.cell? ⟨b, o, none⟩ = some (.int .i64 q) := by have := hx.c0; simpa using this
      have hc1 : w.cell? ⟨b, o + 1, none⟩ = some (.int .i64 1) := by have := hx.c1; simpa using this
      have hc2 : w.cell? ⟨b, o + 2, none⟩ = some (.int .i64 (1 + (y.size : Int))) := by have := hx.c2; simpa using this
      have hbl := hx.lt
      obtain ⟨Pn, hPn⟩ : ∃ Pn : Int, Pn = 1 + (y.size : Int) := ⟨_, rfl⟩
      rw [← hPn] at hc2
      have hPn0 : 0 ≤ Pn := by omega
      have hPn1 : Pn ≤ 1 + (y.size : Int) := by omega
      have hPn2 : 1 + (y.size : Int) ≤ Pn := by omega
      have hK0 : 0 < K := by omega
      have hK00 : ¬ K = 0 := by omega
      have hK127 : K ≤ 127 := by omega
      have HSy := Lib.hid (fun W h => l9Sub_any n b o c lo hi (tell9 (.br q y m) 0) 1 y W h (by omega) (by omega) hat.yes hok.2.1 (by omega))
      have HSm := Lib.hid (fun W h => l9Sub_any n b o c lo hi (tell9 (.br q y m) 0) (0 + 1 + y.size) m W h (by omega) (by omega) hat.no hok.2.2 (by omega))
      rw [show ((0 + 1 + y.size : Nat) : Int) = Pn by omega] at HSm
      rw [show ((1 : Nat) : Int) = 1 from rfl] at HSy
      rw [hlen] at HSy HSm
      have IH := Lib.hid (fun A' c' lo' hi' K' W h1 h2 h3 h4 => l9Cut_any n m A' c' lo' hi' (k - (1 + y.size)) K' W h1 h2 hok.2.2 (by omega) (by omega) h3 h4)
      have hcs := cut9_size m 0 (k - (1 + y.size))
      have HJ := Lib.hid (fun A1 c1 l1 h1 A2 c2 l2 h2 W k1 k2 => l9Join_any q A1 c1 l1 h1 (tell9 y 0) A2 c2 l2 h2 (tell9 (cut9 m 0 (k - (1 + y.size))) 0) W k1 k2 (fit9_tell (by omega)) (fit9_tell (by omega)) (by rw [tell9_len]; exact T9.size_pos _) (by rw [tell9_len]; exact T9.size_pos _))
      rw [join9_tell] at HJ
      rw [cut9_no (q := q) (y := y) (m := m) hy, show (T9.br q y m).size = 1 + y.size + m.size from rfl]
      generalize tell9 (.br q y (cut9 m 0 (k - (1 + y.size)))) 0 = R at HJ ⊢
      have hlo := tell9_len y 0
      rw [hlo] at HJ
      generalize tell9 (cut9 m 0 (k - (1 + y.size))) 0 = RC at IH HJ
      have hcond : ¬ K < Pn := by omega
      have hcond2 : Pn ≤ K := by omega
      obtain ⟨S, hSS⟩ : ∃ S : Nat, S = 1 + y.size + m.size := ⟨_, rfl⟩
      rw [← hSS] at HSy HSm ⊢
      have HT := Lib.hid (Three.new w (.int .i64 q) (.int .i64 1) (.int .i64 Pn) 56 w.heap.size rfl)
      have hb1 := (Below.refl w.heap.size w).alloc (Nat.le_refl _) (.cells #[.int .i64 q, .int .i64 1, .int .i64 Pn] 56)
      have HX := Lib.hid (One.new (w.alloc (.cells #[.int .i64 q, .int .i64 1, .int .i64 Pn] 56)) (.slice (some ⟨b, o, none⟩) S c) 28 (w.heap.size + 1) (by simp))
      replace HT := Lib.hid (HT.out.step ((Below.refl _ _).alloc (Nat.le_refl _) (.cells #[.slice (some ⟨b, o, none⟩) S c] 28)))
      have HB := Lib.hid (hb1.alloc hb1.size (.cells #[.slice (some ⟨b, o, none⟩) S c] 28))
      have HI := Lib.hid (hS.step HB.out)
      have hS1 : (0 : Int) < (S : Int) := by omega
      have hS2 : 0 < S := by omega
      clear hx hS hc hok hd hb1 hat hlen hx0 hSS hPn hlo hcs
      go_enter Try.func38, Try.ntmps38
      go_wp2_with fail
      generalize (w.alloc (.cells #[.int .i64 q, .int .i64 1, .int .i64 Pn] 56)).alloc (.cells #[.slice (some ⟨b, o, none⟩) S c] 28) = w0 at HT HX HB HI ⊢
      clear hc0 hc1 hc2
      go_region_held3 (fun w' => w'.cell? ⟨w.heap.size, 1, none⟩ = some (.int .i64 1) ∧ w'.cell? ⟨w.heap.size, 2, none⟩ = some (.int .i64 Pn) ∧ w'.cell? ⟨w.heap.size + 1, 0, none⟩ = some (.slice (some ⟨b, o, none⟩) S c))
        (first
         | exact ⟨(HT.out.step (Below.refl _ w0).drew).c1, (HT.out.step (Below.refl _ w0).drew).c2, (HX.out.step (Below.refl _ w0).drew).c0⟩
         | exact ⟨HT_2.out.c1, HT_2.out.c2, HX_2.out.c0⟩
         | exact ⟨HT_1.out.c1, HT_1.out.c2, HX_1.out.c0⟩)
        (first
         | (go_at_call 42; (with_reducible refine (HSm.out _ (HI.out.step HZ1.out)).mono ?_); rintro e v2 ⟨B2, d2, rfl, hdd2, hm2, hb⟩; have HZ2 := Lib.hid (below_trans HZ1.out hb); have HT_2 := Lib.hid (HT.out.step HZ2.out); have HX_2 := Lib.hid (HX.out.step HZ2.out); have HM2 := Lib.hid hm2.ins; have HY2 := Lib.hid (HY1.out.step hb); clear hb hm2)
         | (go_at_call 42; (with_reducible refine (HSy.out _ (HI.out.step (Below.refl _ w0).drew)).mono ?_); rintro e v1 ⟨B1, d1, rfl, hdd1, hm1, hb⟩; have HZ1 := Lib.hid (below_trans (Below.refl _ w0).drew hb); have HT_1 := Lib.hid (HT.out.step HZ1.out); have HX_1 := Lib.hid (HX.out.step HZ1.out); have HY1 := Lib.hid hm1.ins; clear hb hm1))
      all_goals
        clear HT HX HT_1 HX_1 HX_2 HZ1 HY1 HI HSy HSm
        have h2 := HT_2.out.c2
        have h0 := HT_2.out.c0
        go_wp2_with fail
        clear h2 h0
        go_region_held3 (fun w' => w'.cell? ⟨w.heap.size, 0, none⟩ = some (.int .i64 q) ∧ w'.cell? ⟨w.heap.size, 2, none⟩ = some (.int .i64 Pn))
          (first
           | exact ⟨(HT_2.out.step (Below.refl _ v2).drew).c0, (HT_2.out.step (Below.refl _ v2).drew).c2⟩
           | exact ⟨HT_4.out.c0, HT_4.out.c2⟩
           | exact ⟨HT_3.out.c0, HT_3.out.c2⟩)
          (first
           | (go_at_call 59; (with_reducible refine (HJ.out _ _ _ _ _ _ _ _ _ HO3.out HC3.out).mono ?_); rintro e v4 ⟨B4, d4, rfl, hm4, hb⟩; have HZ4 := Lib.hid (below_trans HZ3.out hb); have HT_4 := Lib.hid (HT_2.out.step HZ4.out); have HR4 := Lib.hid hm4; clear hb hm4)
           | (go_at_call 38; (with_reducible refine (IH.out _ _ _ _ _ _ (HM2.out.step (Below.refl _ v2).drew) hdd2 (by first | omega | (rw [IntWalk.i64_in (K - Pn) (by omega)]; omega)) (by first | omega | (rw [IntWalk.i64_in (K - Pn) (by omega)]; omega))).mono ?_); rintro e v3 ⟨B3, d3, rfl, hm3, hb⟩; have HZ3 := Lib.hid (below_trans (Below.refl _ v2).drew hb); have HT_3 := Lib.hid (HT_2.out.step HZ3.out); have HC3 := Lib.hid hm3.ins; have HO3 := Lib.hid (HY2.out.step HZ3.out); clear hb hm3))
        all_goals
          have HB5 := Lib.hid (below_trans (below_trans HB.out HZ2.out) HZ4.out)
          have z0 := HB.out.size
          have z1 := HZ2.out.size
          have z2 := HZ3.out.size
          go_wp2
          go_ret
          exact ⟨B4, d4, rfl, HR4.out.wide (Nat.le_trans z0 (Nat.le_trans z1 z2)) HR4.out.top (Nat.le_refl _), HB5.out⟩
end Go.Proofs.Ytnomgnjfamideab
