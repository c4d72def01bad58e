/- Trees of questions: which lists of nodes are trees, as the specification tells it. -/
import Derived.Test.YtdkffkgoalgjmacL9A
namespace Go.Proofs.Ytdkffkgoalgjmac
open Go.RowKit Go.ChangeShapes Go.WideShapes
set_option linter.unusedVariables false

theorem end9_none {n : Int} {ns : List (Int × Int × Int)} {k p : Nat} (h : k = 0 ∨ ns.length ≤ p) : end9 n ns k p = none := by
  cases k with
  | zero => rfl
  | succ k =>
    unfold end9
    rw [if_neg (by omega)]
/-- What l9End answers. -/
def endA (r : Option Nat) : Int := ((r.getD 0 : Nat) : Int)
theorem end9_some {n : Int} {ns : List (Int × Int × Int)} {k p : Nat} (hlt : p < ns.length) : end9 n ns (k + 1) p = if ns[p] = lf9 then some (p + 1) else if qOK n ns[p].1 = true ∧ ns[p].2.1 = (p : Int) + 1 then (end9 n ns k (p + 1)).bind fun e => if ns[p].2.2 = (e : Int) then end9 n ns k e else none else none := by
  have hg : ns.getD p lf9 = ns[p] := by simp [List.getD, hlt]
  conv => lhs; unfold end9
  rw [if_pos hlt, hg]
set_option maxRecDepth 100000 in
set_option maxHeartbeats 16000000 in
theorem l9End_any (n : Int) (A : Option Addr) (c lo hi : Nat) (ns : List (Int × Int × Int)) (hn : ns.length ≤ 1048576) : ∀ (k p : Nat) (D : Int) (w : World), k ≤ 7 → D = 7 - (k : Int) → NIns w lo hi A ns →
    Calls Try.prog 121 #[.int .i64 n, .agg #[.slice A ns.length c], .int .i64 (p : Int), .int .i64 D] w fun e w' => e = .returned (.tuple #[.int .i64 (endA (end9 n ns k p)), .bool (end9 n ns k p).isSome]) ∧ Below w.heap.size w w'
  | 0, p, D, w, hk, hD, hS => by
    have HB := Lib.hid ((Below.refl w.heap.size w).alloc (Nat.le_refl _) (.cells #[.slice A ns.length c] 33))
    have hD7 : 6 < D := by omega
    have HE : Hid (end9 n ns 0 p = none) := Lib.hid rfl
    clear hS hD
    rw [HE.out]
    by_cases hlt : p < ns.length
    · have hpl : (p : Int) < (ns.length : Int) := by omega
      go_enter Try.func121, Try.ntmps121
      go_wp2
      go_ret2
      exact ⟨rfl, HB.out⟩
    · have hpl : (ns.length : Int) ≤ (p : Int) := by omega
      go_enter Try.func121, Try.ntmps121
      go_wp2
      go_ret2
      exact ⟨rfl, HB.out⟩
  | k + 1, p, D, w, hk, hD, hS => by
    by_cases hlt : p < ns.length
    · have hpl : (p : Int) < (ns.length : Int) := by omega
      have IH := Lib.hid (fun p D W hD h => l9End_any n A c lo hi ns hn k p D W (by omega) hD h)
      have hD0 : 0 ≤ D := by omega
      have hD6 : D ≤ 6 := by omega
      have HD := Lib.hid (show D + 1 = 7 - (k : Int) by omega)
      have HEq := Lib.hid (end9_some (n := n) (k := k) hlt)
      have HQ := Lib.hid (fun W => l2Asks_any n ns[p].1 W)
      have HL := Lib.hid (fun W => l9Leaf_any W)
      have HK := Lib.hid (fun W (h : NIns W lo hi A ns) => h.at3 hlt)
      have HS := Lib.hid hS
      obtain ⟨b, o, hA, hN⟩ := hS.at3 hlt
      clear hS hD
      generalize ns[p] = x at HEq HQ hN HK
      obtain ⟨a, y, d⟩ := x
      subst hA
      have hc0 := hN.c0
      have hc1 := hN.c1
      have hc2 := hN.c2
      have hbl := hN.lt
      simp only at hc0 hc1 hc2 HQ HEq
      clear hN
      have HT := Lib.hid (One.new w (.slice (some ⟨b, o, none⟩) ns.length c) 33 w.heap.size rfl)
      have HB := Lib.hid ((Below.refl w.heap.size w).alloc (Nat.le_refl _) (.cells #[.slice (some ⟨b, o, none⟩) ns.length c] 33))
      have HX := Lib.hid (Three.new (w.alloc (.cells #[.slice (some ⟨b, o, none⟩) ns.length c] 33)) (.int .i64 a) (.int .i64 y) (.int .i64 d) 125 (w.heap.size + 1) (by simp))
      replace HT := Lib.hid (HT.out.step ((Below.refl _ _).alloc (Nat.le_refl _) (.cells #[.int .i64 a, .int .i64 y, .int .i64 d] 125)))
      replace HB := Lib.hid (HB.out.alloc HB.out.size (.cells #[.int .i64 a, .int .i64 y, .int .i64 d] 125))
      have HI := Lib.hid (HS.out.step HB.out)
      clear HS HK
      have heq : ∀ w, (Op.equalIn 10000 125 (.agg #[.int .i64 a, .int .i64 y, .int .i64 d]) (.agg #[.int .i64 (-1), .int .i64 (-1), .int .i64 (-1)])).run Try.prog w = .ok (ndB (a, y, d) lf9) w := fun w => eq_node a y d (-1) (-1) (-1) w
      by_cases hlf : (a, y, d) = lf9
      · rw [if_pos hlf] at HEq
        rw [ndB_t hlf] at heq
        clear hlf IH HQ
        go_enter Try.func121, Try.ntmps121
        go_wp2_with fail
        generalize (w.alloc (.cells #[.slice (some ⟨b, o, none⟩) ns.length c] 33)).alloc (.cells #[.int .i64 a, .int .i64 y, .int .i64 d] 125) = w0 at HT HB HX HI ⊢
        clear hc0 hc1 hc2
        go_region_held3 (fun w' => w'.cell? ⟨w.heap.size + 1, 0, none⟩ = some (.int .i64 a) ∧ w'.cell? ⟨w.heap.size + 1, 1, none⟩ = some (.int .i64 y) ∧ w'.cell? ⟨w.heap.size + 1, 2, none⟩ = some (.int .i64 d))
          (first
           | exact ⟨(HX.out.step (Below.refl _ w0).drew).c0, (HX.out.step (Below.refl _ w0).drew).c1, (HX.out.step (Below.refl _ w0).drew).c2⟩
           | exact ⟨HX_1.out.c0, HX_1.out.c1, HX_1.out.c2⟩)
          (first
           | (go_at_call 153; (with_reducible refine (HL.out w0.drew).mono ?_); rintro e v1 ⟨rfl, hb⟩; have HZ1 := Lib.hid (below_trans (Below.refl _ w0).drew hb); have HX_1 := Lib.hid (HX.out.step HZ1.out); have HB_1 := Lib.hid (below_trans HB.out HZ1.out); clear hb))
        all_goals
          go_wp2
          go_ret2
          rw [HEq.out]
          exact ⟨by simp [endA], HB_1.out⟩
      · rw [if_neg hlf] at HEq
        rw [ndB_f hlf] at heq
        clear hlf
        cases hq : qOK n a with
        | false =>
          rw [hq] at HEq HQ
          rw [if_neg (fun h => by cases h.1)] at HEq
          clear hq IH
          go_enter Try.func121, Try.ntmps121
          go_wp2_with fail
          generalize (w.alloc (.cells #[.slice (some ⟨b, o, none⟩) ns.length c] 33)).alloc (.cells #[.int .i64 a, .int .i64 y, .int .i64 d] 125) = w0 at HT HB HX HI ⊢
          clear hc0 hc1 hc2
          go_region_held3 (fun w' => w'.cell? ⟨w.heap.size + 1, 0, none⟩ = some (.int .i64 a) ∧ w'.cell? ⟨w.heap.size + 1, 1, none⟩ = some (.int .i64 y) ∧ w'.cell? ⟨w.heap.size + 1, 2, none⟩ = some (.int .i64 d))
            (first
             | exact ⟨(HX.out.step (Below.refl _ w0).drew).c0, (HX.out.step (Below.refl _ w0).drew).c1, (HX.out.step (Below.refl _ w0).drew).c2⟩
             | exact ⟨HX_1.out.c0, HX_1.out.c1, HX_1.out.c2⟩)
            (first
             | (go_at_call 153; (with_reducible refine (HL.out w0.drew).mono ?_); rintro e v1 ⟨rfl, hb⟩; have HZ1 := Lib.hid (below_trans (Below.refl _ w0).drew hb); have HX_1 := Lib.hid (HX.out.step HZ1.out); have HB_1 := Lib.hid (below_trans HB.out HZ1.out); have HT_1 := Lib.hid (HT.out.step HZ1.out); have HI_1 := Lib.hid (HI.out.step HZ1.out); clear hb))
          all_goals
            have h0 := HX_1.out.c0
            have h1 := HX_1.out.c1
            have h2 := HX_1.out.c2
            go_wp2_with (go_at_call 131; (with_reducible refine (HQ.out _).mono ?_); rintro e wX ⟨rfl, hw⟩; have hw := hw.symm; subst hw)
            go_ret2
            rw [HEq.out]
            exact ⟨rfl, HB_1.out⟩
        | true =>
          rw [hq] at HEq HQ
          clear hq
          by_cases hy : y = (p : Int) + 1
          · rw [if_pos ⟨rfl, hy⟩] at HEq
            subst hy
            have H1 := Lib.hid (fun W h => IH.out (p + 1) (D + 1) W HD.out h)
            rw [show ((p + 1 : Nat) : Int) = (p : Int) + 1 by omega] at H1
            have hp1 : 0 ≤ (p : Int) + 1 := by omega
            cases hr : end9 n ns k (p + 1) with
            | none =>
              rw [hr] at H1 HEq
              rw [Option.bind_none] at HEq
              clear hr IH
              go_enter Try.func121, Try.ntmps121
              go_wp2_with fail
              generalize (w.alloc (.cells #[.slice (some ⟨b, o, none⟩) ns.length c] 33)).alloc (.cells #[.int .i64 a, .int .i64 ((p : Int) + 1), .int .i64 d] 125) = w0 at HT HB HX HI ⊢
              clear hc0 hc1 hc2
              go_region_held3 (fun w' => w'.cell? ⟨w.heap.size + 1, 0, none⟩ = some (.int .i64 a) ∧ w'.cell? ⟨w.heap.size + 1, 1, none⟩ = some (.int .i64 ((p : Int) + 1)) ∧ w'.cell? ⟨w.heap.size + 1, 2, none⟩ = some (.int .i64 d))
                (first
                 | exact ⟨(HX.out.step (Below.refl _ w0).drew).c0, (HX.out.step (Below.refl _ w0).drew).c1, (HX.out.step (Below.refl _ w0).drew).c2⟩
                 | exact ⟨HX_1.out.c0, HX_1.out.c1, HX_1.out.c2⟩)
                (first
                 | (go_at_call 153; (with_reducible refine (HL.out w0.drew).mono ?_); rintro e v1 ⟨rfl, hb⟩; have HZ1 := Lib.hid (below_trans (Below.refl _ w0).drew hb); have HX_1 := Lib.hid (HX.out.step HZ1.out); have HB_1 := Lib.hid (below_trans HB.out HZ1.out); have HT_1 := Lib.hid (HT.out.step HZ1.out); have HI_1 := Lib.hid (HI.out.step HZ1.out); clear hb))
              all_goals
                clear HX HB HT HI HZ1
                have h0 := HX_1.out.c0
                have h1 := HX_1.out.c1
                have h2 := HX_1.out.c2
                have h3 := HT_1.out.c0
                go_wp2_with (go_at_call 131; (with_reducible refine (HQ.out _).mono ?_); rintro e wX ⟨rfl, hw⟩; have hw := hw.symm; subst hw)
                with_reducible refine (H1.out _ HI_1.out).mono ?_
                rintro e w2 ⟨rfl, hb⟩
                have HB_2 := Lib.hid (below_trans HB_1.out hb)
                clear hb
                go_wp2
                go_ret2
                rw [HEq.out]
                exact ⟨rfl, HB_2.out⟩
            | some e1 =>
              rw [hr] at H1 HEq
              rw [Option.bind_some] at HEq
              clear hr
              have hea : endA (some e1) = (e1 : Int) := rfl
              rw [hea] at H1
              clear hea
              by_cases hd : d = (e1 : Int)
              · rw [if_pos hd] at HEq
                subst hd
                have H2 := Lib.hid (fun W h => IH.out e1 (D + 1) W HD.out h)
                clear IH
                generalize end9 n ns k e1 = r2 at H2 HEq
                go_enter Try.func121, Try.ntmps121
                go_wp2_with fail
                generalize (w.alloc (.cells #[.slice (some ⟨b, o, none⟩) ns.length c] 33)).alloc (.cells #[.int .i64 a, .int .i64 ((p : Int) + 1), .int .i64 (e1 : Int)] 125) = w0 at HT HB HX HI ⊢
                clear hc0 hc1 hc2
                go_region_held3 (fun w' => w'.cell? ⟨w.heap.size + 1, 0, none⟩ = some (.int .i64 a) ∧ w'.cell? ⟨w.heap.size + 1, 1, none⟩ = some (.int .i64 ((p : Int) + 1)) ∧ w'.cell? ⟨w.heap.size + 1, 2, none⟩ = some (.int .i64 (e1 : Int)))
                  (first
                   | exact ⟨(HX.out.step (Below.refl _ w0).drew).c0, (HX.out.step (Below.refl _ w0).drew).c1, (HX.out.step (Below.refl _ w0).drew).c2⟩
                   | exact ⟨HX_1.out.c0, HX_1.out.c1, HX_1.out.c2⟩)
                  (first
                   | (go_at_call 153; (with_reducible refine (HL.out w0.drew).mono ?_); rintro e v1 ⟨rfl, hb⟩; have HZ1 := Lib.hid (below_trans (Below.refl _ w0).drew hb); have HX_1 := Lib.hid (HX.out.step HZ1.out); have HB_1 := Lib.hid (below_trans HB.out HZ1.out); have HT_1 := Lib.hid (HT.out.step HZ1.out); have HI_1 := Lib.hid (HI.out.step HZ1.out); clear hb))
                all_goals
                  clear HX HB HT HI HZ1
                  have h0 := HX_1.out.c0
                  have h1 := HX_1.out.c1
                  have h2 := HX_1.out.c2
                  have h3 := HT_1.out.c0
                  go_wp2_with (go_at_call 131; (with_reducible refine (HQ.out _).mono ?_); rintro e wX ⟨rfl, hw⟩; have hw := hw.symm; subst hw)
                  with_reducible refine (H1.out _ HI_1.out).mono ?_
                  rintro e w2 ⟨rfl, hb⟩
                  have HB_2 := Lib.hid (below_trans HB_1.out hb)
                  have HI_2 := Lib.hid (HI_1.out.step hb)
                  replace h0 := (HX_1.out.step hb).c0
                  replace h1 := (HX_1.out.step hb).c1
                  replace h2 := (HX_1.out.step hb).c2
                  replace h3 := (HT_1.out.step hb).c0
                  clear hb
                  go_wp2_with fail
                  with_reducible refine (H2.out _ HI_2.out).mono ?_
                  rintro e w3 ⟨rfl, hb⟩
                  have HB_3 := Lib.hid (below_trans HB_2.out hb)
                  clear hb
                  go_wp2
                  go_ret2
                  rw [HEq.out]
                  exact ⟨rfl, HB_3.out⟩
              · rw [if_neg hd] at HEq
                clear IH
                have hd2 : ¬ (e1 : Int) = d := fun h => hd h.symm
                go_enter Try.func121, Try.ntmps121
                go_wp2_with fail
                generalize (w.alloc (.cells #[.slice (some ⟨b, o, none⟩) ns.length c] 33)).alloc (.cells #[.int .i64 a, .int .i64 ((p : Int) + 1), .int .i64 d] 125) = w0 at HT HB HX HI ⊢
                clear hc0 hc1 hc2
                go_region_held3 (fun w' => w'.cell? ⟨w.heap.size + 1, 0, none⟩ = some (.int .i64 a) ∧ w'.cell? ⟨w.heap.size + 1, 1, none⟩ = some (.int .i64 ((p : Int) + 1)) ∧ w'.cell? ⟨w.heap.size + 1, 2, none⟩ = some (.int .i64 d))
                  (first
                   | exact ⟨(HX.out.step (Below.refl _ w0).drew).c0, (HX.out.step (Below.refl _ w0).drew).c1, (HX.out.step (Below.refl _ w0).drew).c2⟩
                   | exact ⟨HX_1.out.c0, HX_1.out.c1, HX_1.out.c2⟩)
                  (first
                   | (go_at_call 153; (with_reducible refine (HL.out w0.drew).mono ?_); rintro e v1 ⟨rfl, hb⟩; have HZ1 := Lib.hid (below_trans (Below.refl _ w0).drew hb); have HX_1 := Lib.hid (HX.out.step HZ1.out); have HB_1 := Lib.hid (below_trans HB.out HZ1.out); have HT_1 := Lib.hid (HT.out.step HZ1.out); have HI_1 := Lib.hid (HI.out.step HZ1.out); clear hb))
                all_goals
                  clear HX HB HT HI HZ1
                  have h0 := HX_1.out.c0
                  have h1 := HX_1.out.c1
                  have h2 := HX_1.out.c2
                  have h3 := HT_1.out.c0
                  go_wp2_with (go_at_call 131; (with_reducible refine (HQ.out _).mono ?_); rintro e wX ⟨rfl, hw⟩; have hw := hw.symm; subst hw)
                  with_reducible refine (H1.out _ HI_1.out).mono ?_
                  rintro e w2 ⟨rfl, hb⟩
                  have HB_2 := Lib.hid (below_trans HB_1.out hb)
                  replace h0 := (HX_1.out.step hb).c0
                  replace h1 := (HX_1.out.step hb).c1
                  replace h2 := (HX_1.out.step hb).c2
                  replace h3 := (HT_1.out.step hb).c0
                  clear hb
                  go_wp2
                  go_ret2
                  rw [HEq.out]
                  exact ⟨rfl, HB_2.out⟩
          · rw [if_neg (fun h => hy h.2)] at HEq
            clear IH
            go_enter Try.func121, Try.ntmps121
            go_wp2_with fail
            generalize (w.alloc (.cells #[.slice (some ⟨b, o, none⟩) ns.length c] 33)).alloc (.cells #[.int .i64 a, .int .i64 y, .int .i64 d] 125) = w0 at HT HB HX HI ⊢
            clear hc0 hc1 hc2
            go_region_held3 (fun w' => w'.cell? ⟨w.heap.size + 1, 0, none⟩ = some (.int .i64 a) ∧ w'.cell? ⟨w.heap.size + 1, 1, none⟩ = some (.int .i64 y) ∧ w'.cell? ⟨w.heap.size + 1, 2, none⟩ = some (.int .i64 d))
              (first
               | exact ⟨(HX.out.step (Below.refl _ w0).drew).c0, (HX.out.step (Below.refl _ w0).drew).c1, (HX.out.step (Below.refl _ w0).drew).c2⟩
               | exact ⟨HX_1.out.c0, HX_1.out.c1, HX_1.out.c2⟩)
              (first
               | (go_at_call 153; (with_reducible refine (HL.out w0.drew).mono ?_); rintro e v1 ⟨rfl, hb⟩; have HZ1 := Lib.hid (below_trans (Below.refl _ w0).drew hb); have HX_1 := Lib.hid (HX.out.step HZ1.out); have HB_1 := Lib.hid (below_trans HB.out HZ1.out); have HT_1 := Lib.hid (HT.out.step HZ1.out); have HI_1 := Lib.hid (HI.out.step HZ1.out); clear hb))
            all_goals
              clear HX HB HT HI HZ1
              have h0 := HX_1.out.c0
              have h1 := HX_1.out.c1
              have h2 := HX_1.out.c2
              go_wp2_with (go_at_call 131; (with_reducible refine (HQ.out _).mono ?_); rintro e wX ⟨rfl, hw⟩; have hw := hw.symm; subst hw)
              go_ret2
              rw [HEq.out]
              exact ⟨rfl, HB_1.out⟩
    · have HB := Lib.hid ((Below.refl w.heap.size w).alloc (Nat.le_refl _) (.cells #[.slice A ns.length c] 33))
      have HE := Lib.hid (end9_none (n := n) (ns := ns) (k := k + 1) (p := p) (.inr (by omega)))
      clear hS
      rw [HE.out]
      have hpl : (ns.length : Int) ≤ (p : Int) := by omega
      go_enter Try.func121, Try.ntmps121
      go_wp2
      go_ret2
      exact ⟨rfl, HB.out⟩
end Go.Proofs.Ytdkffkgoalgjmac
