/- Trees of questions: turned trees of the specification. -/
import Derived.Test.YtnomgnjfamideabL9K
import Derived.WalkMore
import Derived.IntWalk
namespace Go.Proofs.Ytnomgnjfamideab
open Go.RowKit Go.ChangeShapes Go.WideShapes Go.Maps
set_option linter.unusedVariables false

set_option maxRecDepth 100000 in
set_option maxHeartbeats 16000000 in
theorem l9Turned_any (N : Nat) (hN : 1 ≤ N ∧ N ≤ 12) : ∀ (t : T9) (A : Option Addr) (c lo hi : Nat) (w : World), NIns w lo hi A (tell9 t 0) → t.size ≤ c → t.ok (N : Int) → t.depth ≤ 6 →
    Calls Try.prog 29 #[.int .i64 (N : Int), .slice A t.size c] w fun e w' => ∃ B d, e = .returned (.slice B (tell9 (turn9 N t) 0).length d) ∧ NMade w' w.heap.size w'.heap.size B (tell9 (turn9 N t) 0) ∧ Below w.heap.size w w'
  | .leaf, A, c, lo, hi, w, hS, hc, hok, hd => by
    obtain ⟨b, o, rfl, hx⟩ := hS.at3 (k := 0) (by rw [tell9_len]; exact Nat.one_pos)
    have hc0 : w.cell? ⟨b, o, none⟩ = some (.int .i64 (-1)) := by have := hx.c0; simpa [tell9, lf9] using this
    have hc1 : w.cell? ⟨b, o + 1, none⟩ = some (.int .i64 (-1)) := by have := hx.c1; simpa [tell9, lf9] using this
    have hc2 : w.cell? ⟨b, o + 2, none⟩ = some (.int .i64 (-1)) := by have := hx.c2; simpa [tell9, lf9] using this
    have hbl := hx.lt
    have HE : Hid (tell9 (turn9 N .leaf) 0 = [lf9]) := Lib.hid rfl
    rw [HE.out, show T9.leaf.size = 1 from rfl]
    have hb1 := (Below.refl w.heap.size w).alloc (Nat.le_refl _) (.cells #[.int .i64 (-1), .int .i64 (-1), .int .i64 (-1)] 56)
    have HB := Lib.hid (hb1.alloc hb1.size (.cells #[.int .i64 (-1), .int .i64 (-1), .int .i64 (-1)] 56))
    have HM := Lib.hid (leaf_row9k (w := w.alloc (.cells #[.int .i64 (-1), .int .i64 (-1), .int .i64 (-1)] 56)) (lo := w.heap.size) (by simp))
    clear hx hS hc hok hd hb1
    go_enter Try.func29, Try.ntmps29
    go_wp2
    go_ret
    refine ⟨_, _, rfl, ?_, HB.out⟩
    have := HM.out
    simpa using this
  | .br q y m, A, c, lo, hi, w, hS, hc, hok, hd => by
    have hsz := T9.size_127 hd
    have hys := y.size_pos
    have hms := m.size_pos
    simp only [T9.size] at hsz hc
    have hdl := T9.depth_l (q := q) (y := y) (m := m)
    have hdr := T9.depth_r (q := q) (y := y) (m := m)
    have hat := At9.self (.br q y m)
    have hlen : (tell9 (.br q y m) 0).length = 1 + y.size + m.size := by rw [tell9_len]; rfl
    obtain ⟨b, o, rfl, hx⟩ := hS.at3 (k := 0) (by rw [hlen]; omega)
    have hx0 : (tell9 (.br q y m) 0)[0]'(by rw [hlen]; omega) = (q, 1, 1 + (y.size : Int)) := by
      simp only [tell9, List.getElem_cons_zero]
      refine Prod.ext rfl (Prod.ext rfl ?_)
      simp only; omega
    rw [hx0] at hx
    have hc0 : w.cell? ⟨b, o, none⟩ = some (.int .i64 q) := by have := hx.c0; simpa using this
    have hc1 : w.cell? ⟨b, o + 1, none⟩ = some (.int .i64 1) := by have := hx.c1; simpa using this
    have hc2 : w.cell? ⟨b, o + 2, none⟩ = some (.int .i64 (1 + (y.size : Int))) := by have := hx.c2; simpa using this
    have hbl := hx.lt
    obtain ⟨Pn, hPn⟩ : ∃ Pn : Int, Pn = 1 + (y.size : Int) := ⟨_, rfl⟩
    rw [← hPn] at hc2
    have hPn0 : 0 ≤ Pn := by omega
    have HSy := Lib.hid (fun W h => l9Sub_any (N : Int) b o c lo hi (tell9 (.br q y m) 0) 1 y W h (by omega) (by omega) hat.yes hok.2.1 (by omega))
    have HSm := Lib.hid (fun W h => l9Sub_any (N : Int) b o c lo hi (tell9 (.br q y m) 0) (0 + 1 + y.size) m W h (by omega) (by omega) hat.no hok.2.2 (by omega))
    rw [show ((0 + 1 + y.size : Nat) : Int) = Pn by omega] at HSm
    rw [show ((1 : Nat) : Int) = 1 from rfl] at HSy
    rw [hlen] at HSy HSm
    have IHy := Lib.hid (fun A' c' lo' hi' W h1 h2 => l9Turned_any N hN y A' c' lo' hi' W h1 h2 hok.2.1 (by omega))
    have IHm := Lib.hid (fun A' c' lo' hi' W h1 h2 => l9Turned_any N hN m A' c' lo' hi' W h1 h2 hok.2.2 (by omega))
    have hqb := qOK_iff.1 hok.1
    rw [Int.toNat_natCast] at hqb
    have hp := pow_le N hN.2
    have hq0 := hqb.2.1
    have hqn := hqb.2.2
    have HJ := Lib.hid (fun X A1 c1 l1 h1 A2 c2 l2 h2 W k1 k2 => l9Join_any X A1 c1 l1 h1 (tell9 (turn9 N m) 0) A2 c2 l2 h2 (tell9 (turn9 N y) 0) W k1 k2 (fit9_tell (by rw [turn9_size]; omega)) (fit9_tell (by rw [turn9_size]; omega)) (by rw [tell9_len]; exact T9.size_pos _) (by rw [tell9_len]; exact T9.size_pos _))
    have HJE := Lib.hid (join9_tell ((2 : Int) ^ N - 1 - q) (turn9 N m) (turn9 N y))
    have HE : Hid (turn9 N (.br q y m) = .br (2 ^ N - 1 - q) (turn9 N m) (turn9 N y)) := Lib.hid rfl
    rw [HE.out, show (T9.br q y m).size = 1 + y.size + m.size from rfl]
    generalize tell9 (.br (2 ^ N - 1 - q) (turn9 N m) (turn9 N y)) 0 = R at HJE ⊢
    generalize tell9 (turn9 N m) 0 = R1 at IHm HJ HJE
    generalize tell9 (turn9 N y) 0 = R2 at IHy HJ HJE
    obtain ⟨S, hSS⟩ : ∃ S : Nat, S = 1 + y.size + m.size := ⟨_, rfl⟩
    rw [← hSS] at HSy HSm ⊢
    have HT := Lib.hid (Three.new w (.int .i64 q) (.int .i64 1) (.int .i64 Pn) 56 w.heap.size rfl)
    have hb1 := (Below.refl w.heap.size w).alloc (Nat.le_refl _) (.cells #[.int .i64 q, .int .i64 1, .int .i64 Pn] 56)
    have HX := Lib.hid (One.new (w.alloc (.cells #[.int .i64 q, .int .i64 1, .int .i64 Pn] 56)) (.slice (some ⟨b, o, none⟩) S c) 28 (w.heap.size + 1) (by simp))
    replace HT := Lib.hid (HT.out.step ((Below.refl _ _).alloc (Nat.le_refl _) (.cells #[.slice (some ⟨b, o, none⟩) S c] 28)))
    have HB := Lib.hid (hb1.alloc hb1.size (.cells #[.slice (some ⟨b, o, none⟩) S c] 28))
    have HI := Lib.hid (hS.step HB.out)
    have hS1 : (0 : Int) < (S : Int) := by omega
    have hS2 : 0 < S := by omega
    clear hx hS hc hok hd hb1 hat hlen hx0 hqb hSS hPn
    go_enter Try.func29, Try.ntmps29
    go_wp2_with fail
    generalize (w.alloc (.cells #[.int .i64 q, .int .i64 1, .int .i64 Pn] 56)).alloc (.cells #[.slice (some ⟨b, o, none⟩) S c] 28) = w0 at HT HX HB HI ⊢
    clear hc0 hc1 hc2
    have HP := Lib.hid (wrap_pow N hN.2)
    go_region_held3 (fun w' => w'.cell? ⟨w.heap.size, 0, none⟩ = some (.int .i64 q) ∧ w'.cell? ⟨w.heap.size, 1, none⟩ = some (.int .i64 1) ∧ w'.cell? ⟨w.heap.size, 2, none⟩ = some (.int .i64 Pn) ∧ w'.cell? ⟨w.heap.size + 1, 0, none⟩ = some (.slice (some ⟨b, o, none⟩) S c))
      (first
       | exact ⟨(HT.out.step (Below.refl _ w0).drew).c0, (HT.out.step (Below.refl _ w0).drew).c1, (HT.out.step (Below.refl _ w0).drew).c2, (HX.out.step (Below.refl _ w0).drew).c0⟩
       | exact ⟨HT_5.out.c0, HT_5.out.c1, HT_5.out.c2, HX_5.out.c0⟩
       | exact ⟨HT_4.out.c0, HT_4.out.c1, HT_4.out.c2, HX_4.out.c0⟩
       | exact ⟨HT_3.out.c0, HT_3.out.c1, HT_3.out.c2, HX_3.out.c0⟩
       | exact ⟨HT_2.out.c0, HT_2.out.c1, HT_2.out.c2, HX_2.out.c0⟩
       | exact ⟨HT_1.out.c0, HT_1.out.c1, HT_1.out.c2, HX_1.out.c0⟩)
      (first
       | (go_at_call 59; (with_reducible refine (HJ.out _ _ _ _ _ _ _ _ _ _ HM4.out HY4.out).mono ?_); rintro e v5 ⟨B5, d5, rfl, hm5, hb⟩; have HZ5 := Lib.hid (below_trans HZ4.out hb); have HT_5 := Lib.hid (HT.out.step HZ5.out); have HX_5 := Lib.hid (HX.out.step HZ5.out); have HR5 := Lib.hid hm5; clear hb hm5)
       | (go_at_call 29; (with_reducible refine (IHy.out _ _ _ _ _ HY3.out hdd3).mono ?_); rintro e v4 ⟨B4, d4, rfl, hm4, hb⟩; have HZ4 := Lib.hid (below_trans HZ3.out hb); have HT_4 := Lib.hid (HT.out.step HZ4.out); have HX_4 := Lib.hid (HX.out.step HZ4.out); have HY4 := Lib.hid hm4.ins; have HM4 := Lib.hid (HM3.out.step hb); clear hb hm4)
       | (go_at_call 42; (with_reducible refine (HSy.out _ (HI.out.step HZ2.out)).mono ?_); rintro e v3 ⟨B3, d3, rfl, hdd3, hm3, hb⟩; have HZ3 := Lib.hid (below_trans HZ2.out hb); have HT_3 := Lib.hid (HT.out.step HZ3.out); have HX_3 := Lib.hid (HX.out.step HZ3.out); have HY3 := Lib.hid hm3.ins; have HM3 := Lib.hid (HM2.out.step hb); clear hb hm3)
       | (go_at_call 29; (with_reducible refine (IHm.out _ _ _ _ _ HM1.out hdd1).mono ?_); rintro e v2 ⟨B2, d2, rfl, hm2, hb⟩; have HZ2 := Lib.hid (below_trans HZ1.out hb); have HT_2 := Lib.hid (HT.out.step HZ2.out); have HX_2 := Lib.hid (HX.out.step HZ2.out); have HM2 := Lib.hid hm2.ins; clear hb hm2)
       | (go_at_call 42; (with_reducible refine (HSm.out _ (HI.out.step (Below.refl _ w0).drew)).mono ?_); rintro e v1 ⟨B1, d1, rfl, hdd1, hm1, hb⟩; have HZ1 := Lib.hid (below_trans (Below.refl _ w0).drew hb); have HT_1 := Lib.hid (HT.out.step HZ1.out); have HX_1 := Lib.hid (HX.out.step HZ1.out); have HM1 := Lib.hid hm1.ins; clear hb hm1))
    all_goals
      have HB5 := Lib.hid (below_trans HB.out HZ5.out)
      have hz5 := HB.out.size
      have hz6 := HZ4.out.size
      go_wp2
      go_ret
      have hX : IntKind.i64.wrap (IntKind.i64.wrap (IntKind.i64.wrap ((2 : Int) ^ N) - 1) - q) = (2 : Int) ^ N - 1 - q := by
        rw [IntWalk.i64_in ((2 : Int) ^ N) (by omega), IntWalk.i64_in ((2 : Int) ^ N - 1) (by omega), IntWalk.i64_in _ (by omega)]
      have hR := HR5.out.wide (Nat.le_trans hz5 hz6) HR5.out.top (Nat.le_refl _)
      rw [hX, HJE.out] at hR
      exact ⟨B5, d5, by rw [hX, HJE.out]; rfl, hR, HB5.out⟩
end Go.Proofs.Ytnomgnjfamideab
