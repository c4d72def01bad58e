/- The draws of the law FnOneWays. -/
import Derived.Test.YtdkffkgoalgjmacAskD
import Derived.Test.YtdkffkgoalgjmacDrawQ
namespace Go.Proofs.Ytdkffkgoalgjmac
open Go.RowKit Go.ChangeShapes Go.WideShapes Go.Maps
set_option linter.unusedVariables false
set_option linter.unusedSimpArgs false

/-- Two numbers and a list of answers. -/
def DrewNML (w : World) (e : Ending) (w' : World) : Prop :=
  ∃ (k : Nat) (m : Int) (l : List (Int × Bool)) (B : Option Addr) (c' : Nat), e = .returned (.tuple #[.int .i64 (k : Int), .int .i64 m, .slice B l.length c']) ∧ k ≤ 13 ∧ l.length ≤ 31 ∧ (∃ lo, AMade w' lo w'.heap.size B l) ∧ Below w.heap.size w w'
set_option maxRecDepth 100000 in
set_option maxHeartbeats 4000000 in
theorem drawAA_any (A : Option Addr) (n c : Nat) (w : World) (h : Code w w.heap.size A n) (hn : n ≤ 65536) :
    Calls Try.prog 74 #[.slice A n c] w (DrewNML w) := by
  have HC := Lib.hid (Cur.new (c := c) h)
  have HB := Lib.hid ((Below.refl w.heap.size w).alloc (Nat.le_refl _) (.cells #[.slice A n c, .int .i64 0, .int .u64 0] 99))
  clear h
  go_enter Try.func74, Try.ntmps74
  go_wp2_with fail
  generalize w.alloc (.cells #[.slice A n c, .int .i64 0, .int .u64 0] 99) = wa at HC HB ⊢
  refine (many_any w.heap.size A n c 0 wa HC.out (by omega) hn).mono ?_
  rintro e w1 ⟨x, rfl, hx, k1, hk1, hc1, hg1⟩
  have hx13 : 0 ≤ x ∧ x ≤ 13 := by simpa [manyP] using hx
  obtain ⟨N, rfl⟩ : ∃ N : Nat, x = (N : Int) := ⟨x.toNat, by omega⟩
  have HC1 := Lib.hid hc1
  have HB1 := Lib.hid (HB.out.trans (grownQ_below hg1 (Nat.le_refl _) HB.out.size))
  clear hc1 hg1 hx HC
  go_wp2_with fail
  refine (lies_any w.heap.size A n c k1 w1 HC1.out (by omega) hn).mono ?_
  rintro e w2 ⟨m, rfl, hm, k2, hk2, hc2, hg2⟩
  have HC2 := Lib.hid hc2
  have HB2 := Lib.hid (HB1.out.trans (grownQ_below hg2 (Nat.le_refl _) HB1.out.size))
  clear hc2 hg2 hm HC1
  go_wp2_with fail
  refine (asked_any w.heap.size A n c k2 N w2 HC2.out (by omega) hn (by omega)).mono ?_
  rintro e w3 ⟨l, B, c3, rfl, hl, hr, k3, hk3, hc3, hg3⟩
  have HR := Lib.hid hr
  have HB3 := Lib.hid (HB2.out.trans (grownQ_below hg3 (Nat.le_refl _) HB2.out.size))
  clear hr hc3 hg3 HC2
  go_wp2
  go_ret3
  exact ⟨N, m, l, B, c3, rfl, by omega, hl, ⟨_, HR.out⟩, HB3.out⟩
set_option maxRecDepth 100000 in
theorem drawOWA_any (A : Option Addr) (n c : Nat) (w : World) (h : Code w w.heap.size A n) (hn : n ≤ 65536) :
    Calls Try.prog 22 #[.slice A n c] w (DrewNML w) := by
  have HD := Lib.hid (drawAA_any A n c w h hn)
  clear h
  go_enter Try.func22, Try.ntmps22
  go_wp2_with fail
  refine (HD.out).mono ?_
  rintro e w1 ⟨k, m, l, B, c1, rfl, hk, hl, hr, hb⟩
  have HR := Lib.hid hr
  have HB := Lib.hid hb
  clear hr hb HD
  go_wp2
  go_ret3
  exact ⟨k, m, l, B, c1, rfl, hk, hl, HR.out, HB.out⟩
/-- Answers whose first i are no. -/
def noTo (l : List (Int × Bool)) : Nat → List (Int × Bool)
  | 0 => l
  | i + 1 => (noTo l i).set i ((l.getD i (0, false)).1, false)
theorem noTo_len (l : List (Int × Bool)) : ∀ i, (noTo l i).length = l.length
  | 0 => rfl
  | i + 1 => by rw [noTo, List.length_set, noTo_len l i]
theorem noTo_at (l : List (Int × Bool)) : ∀ i j, i ≤ j → (noTo l i)[j]? = l[j]?
  | 0, j, _ => rfl
  | i + 1, j, h => by rw [noTo, List.getElem?_set_ne (by omega), noTo_at l i j (by omega)]
theorem made_no {w : World} {lo hi : Nat} {A : Option Addr} {l : List (Int × Bool)} (h : AMade w lo hi A l) {i : Nat} (hi' : i < l.length) :
    ∃ g, A = some ⟨g, 0, none⟩ ∧ lo ≤ g ∧ g < w.heap.size ∧ w.cell? ⟨g, i * 2 + 1, none⟩ = some (.bool l[i].2) ∧ w.frozen? ⟨g, i * 2 + 1, none⟩ = false ∧ AMade (w.setCell ⟨g, i * 2 + 1, none⟩ (.bool false)) lo hi A (l.set i (l[i].1, false)) := by
  obtain ⟨ho, ht⟩ := h
  rcases ho with ⟨_, rfl⟩ | ⟨g, cur, rfl, h1, h2, hr, h3, h4⟩
  · simp at hi'
  · have h5 := h4 i _ (List.getElem?_eq_getElem hi')
    refine ⟨g, rfl, h1, by omega, ?_, row_freeI hr _, ⟨.inr ⟨g, cur.setIfInBounds (i * 2 + 1) (.bool false), rfl, h1, h2, row_setI hr _ _, by simpa using h3, ?_⟩, by simpa [World.setCell] using ht⟩⟩
    · rw [row_cellI hr]; exact h5.2
    · intro j x hx
      rw [List.getElem?_set] at hx
      by_cases e : i = j
      · subst e
        simp only [hi', if_true] at hx
        obtain rfl := Option.some.inj hx
        constructor
        · rw [Array.getElem?_setIfInBounds_ne (by omega)]; exact h5.1
        · rw [Array.getElem?_setIfInBounds_self_of_lt (by omega)]
      · simp only [e, if_false] at hx
        have h6 := h4 j x hx
        constructor
        · rw [Array.getElem?_setIfInBounds_ne (by omega)]; exact h6.1
        · rw [Array.getElem?_setIfInBounds_ne (by omega)]; exact h6.2
set_option maxRecDepth 100000 in
set_option maxHeartbeats 4000000 in
theorem drawSOW_any (A : Option Addr) (n c : Nat) (w : World) (h : Code w w.heap.size A n) (hn : n ≤ 65536) :
    Calls Try.prog 29 #[.slice A n c] w (DrewNML w) := by
  have HC := Lib.hid (Cur.new (c := c) h)
  have HB := Lib.hid ((Below.refl w.heap.size w).alloc (Nat.le_refl _) (.cells #[.slice A n c, .int .i64 0, .int .u64 0] 99))
  clear h
  go_enter Try.func29, Try.ntmps29
  go_wp2_with fail
  generalize w.alloc (.cells #[.slice A n c, .int .i64 0, .int .u64 0] 99) = wa at HC HB ⊢
  refine (many_any w.heap.size A n c 0 wa HC.out (by omega) hn).mono ?_
  rintro e w1 ⟨x, rfl, hx, k1, hk1, hc1, hg1⟩
  have hx13 : 0 ≤ x ∧ x ≤ 13 := by simpa [manyP] using hx
  obtain ⟨N, rfl⟩ : ∃ N : Nat, x = (N : Int) := ⟨x.toNat, by omega⟩
  have HC1 := Lib.hid hc1
  have HB1 := Lib.hid (HB.out.trans (grownQ_below hg1 (Nat.le_refl _) HB.out.size))
  clear hc1 hg1 hx HC
  go_wp2_with fail
  refine (lies_any w.heap.size A n c k1 w1 HC1.out (by omega) hn).mono ?_
  rintro e w2 ⟨m, rfl, hm, k2, hk2, hc2, hg2⟩
  have HC2 := Lib.hid hc2
  have HB2 := Lib.hid (HB1.out.trans (grownQ_below hg2 (Nat.le_refl _) HB1.out.size))
  clear hc2 hg2 hm HC1
  have hbl : w.heap.size < w2.heap.size := HC2.out.lt
  go_wp2_with fail
  refine (asked_any w.heap.size A n c k2 N w2 HC2.out (by omega) hn (by omega)).mono ?_
  rintro e w3 ⟨l, B, c3, rfl, hl, hr, k3, hk3, hc3, hg3⟩
  have HR := Lib.hid hr
  have HC3 := Lib.hid hc3
  have HB3 := Lib.hid (HB2.out.trans (grownQ_below hg3 (Nat.le_refl _) HB2.out.size))
  have hs3 := hg3.size
  clear hr hc3 hg3 HC2
  go_wp2_with fail
  refine (one_any w.heap.size A n c k3 3 w3 HC3.out (by omega) hn (by omega) (by omega)).mono ?_
  rintro e w4 ⟨y, rfl, k4, hk4, hc4, hg4⟩
  have HB4 := Lib.hid (HB3.out.trans (grownQ_below hg4 (Nat.le_refl _) HB3.out.size))
  have HR4 : Hid (AMade w4 w2.heap.size w3.heap.size B l) := Lib.hid (by
    obtain ⟨ho, ht⟩ := HR.out
    refine ⟨?_, Nat.le_trans ht hg4.size⟩
    rcases ho with ⟨h1, h2⟩ | ⟨g, cur, h0, h1, h2, hr, h3, h4⟩
    · exact .inl ⟨h1, h2⟩
    · exact .inr ⟨g, cur, h0, h1, h2, (hg4.block g (row_ltI hr) (fun e => by injection e; omega)).trans hr, h3, h4⟩)
  clear hc4 hg4 HC3 HR
  cases y with
  | false =>
    go_wp2
    go_ret3
    exact ⟨N, m, l, B, c3, rfl, by omega, hl, ⟨_, by
      obtain ⟨ho, ht⟩ := HR4.out
      exact ⟨ho.imp id fun ⟨g, cur, h0, h1, h2, r⟩ => ⟨g, cur, h0, h1, Nat.lt_of_lt_of_le h2 ht, r⟩, Nat.le_refl _⟩⟩, HB4.out⟩
  | true =>
    go_wp2_with fail
    go_loopw [9] (fun i wr => ∃ j : Nat, j ≤ l.length ∧ i = .int .i64 (j : Int) ∧ Hid (AMade wr w2.heap.size w3.heap.size B (noTo l j)) ∧ Hid (Below w.heap.size w wr)) (fun i _ => l.length - (intOf i).toNat)
    case atStart => exact ⟨0, Nat.zero_le _, rfl, HR4, HB4⟩
    case round =>
      clear HR4 HB4
      obtain ⟨j, hj, rfl, HR, HB⟩ := hrel
      rename World => w5
      by_cases hlt : j < l.length
      · obtain ⟨g, hBg, hlo, hgl, hc, hf, hm5⟩ := made_no HR.out (i := j) (by rw [noTo_len]; exact hlt)
        subst hBg
        have hset : (noTo l j).set j (((noTo l j)[j]'(by rw [noTo_len]; exact hlt)).1, false) = noTo l (j + 1) := by
          have e1 := noTo_at l j j (Nat.le_refl _)
          rw [List.getElem?_eq_getElem (by rw [noTo_len]; exact hlt), List.getElem?_eq_getElem hlt] at e1
          injection e1 with e1
          rw [noTo, e1, List.getD, List.getElem?_eq_getElem hlt]
          rfl
        rw [hset] at hm5
        have HR5 := Lib.hid hm5
        have HB5 := Lib.hid (HB.out.trans ((within_set (Within.refl g (g + 1) w5) (Nat.le_refl _) (Nat.lt_succ_self _) (j * 2 + 1) (.bool false)).below (show w.heap.size ≤ g by omega) HB.out.size))
        generalize ((noTo l j)[j]'(by rw [noTo_len]; exact hlt)).2 = z at hc
        have hjI : (j : Int) < (l.length : Int) := by omega
        clear hm5 hset
        go_wp2
        go_roundw
        case rel => exact ⟨j + 1, by omega, by go_num, HR5, HB5⟩
        case measure => simp [intOf]; omega
      · obtain rfl : j = l.length := by omega
        have hll := noTo_len l l.length
        go_wp2
        go_ret3
        exact ⟨N, m, noTo l l.length, B, c3, by rw [hll]; rfl, by omega, by omega, ⟨_, by
          obtain ⟨ho, ht⟩ := HR.out
          exact ⟨ho.imp id fun ⟨g, cur, h0, h1, h2, r⟩ => ⟨g, cur, h0, h1, Nat.lt_of_lt_of_le h2 ht, r⟩, Nat.le_refl _⟩⟩, HB.out⟩
set_option maxRecDepth 100000 in
set_option maxHeartbeats 2000000 in
theorem drawOWS_any (A : Option Addr) (n c : Nat) (w : World) (h : Code w w.heap.size A n) (hn : n ≤ 65536) :
    Calls Try.prog 26 #[.slice A n c] w (DrewSA w) := by
  have B1 := (Below.refl w.heap.size w).alloc (Nat.le_refl _) (.cells #[.slice none 0 0, .int .i64 0] 28)
  have h1 := codeQ_below h B1
  have hR := TwoS.new w (.slice none 0 0) (.int .i64 0) w.heap.size rfl
  have hsz : (w.alloc (.cells #[.slice none 0 0, .int .i64 0] 28)).heap.size = w.heap.size + 1 := by simp
  generalize hwA : w.alloc (.cells #[.slice none 0 0, .int .i64 0] 28) = wA at B1 h1 hR hsz
  have B2 := (Below.refl wA.heap.size wA).alloc (Nat.le_refl _) (.cells #[.int .i64 0, .bool false] 52)
  have h2 := codeQ_below h1 B2
  have hR2 := hR.step B2
  have hA2 := Two.new wA (.int .i64 0) (.bool false) 52 (w.heap.size + 1) hsz.symm
  have hB2 := below_trans B1 B2
  have hsz2 : (wA.alloc (.cells #[.int .i64 0, .bool false] 52)).heap.size = w.heap.size + 2 := by simp [hsz]
  have HC := Lib.hid h2
  have HR := Lib.hid hR2
  have HA := Lib.hid hA2
  have HB := Lib.hid hB2
  have HZ := Lib.hid hsz2
  subst hwA
  clear h h1 h2 B1 B2 hR hR2 hA2 hB2 hsz hsz2
  go_enter Try.func26, Try.ntmps26
  go_wp2_with fail
  generalize (w.alloc (.cells #[.slice none 0 0, .int .i64 0] 28)).alloc (.cells #[.int .i64 0, .bool false] 52) = wa at HC HR HA HB HZ ⊢
  refine (drawAS_any A n c wa HC.out hn).mono ?_
  rintro e wb ⟨zs, B, c', m, q, y, rfl, hzl, hres, hb⟩
  have hz := HZ.out
  have HR2 := Lib.hid (HR.out.step hb)
  have HA2 := Lib.hid (HA.out.step hb)
  have HS2 := Lib.hid hres
  have HB2 := Lib.hid (below_trans HB.out hb)
  have hs2 := hb.size
  clear hres hb HC HR HA HB
  have q0 := HR2.out.c0
  have q1 := HR2.out.c1
  have q2 := HR2.out.f0
  have q3 := HR2.out.f1
  have hw1 := stored2 HR2.out.row (.slice B zs.length c') (.int .i64 m)
  have HA3 := Lib.hid ((HA2.out.fs (g := w.heap.size) (i := 0) (u := .slice B zs.length c') (Nat.ne_of_lt (Nat.lt_succ_self _))).fs (g := w.heap.size) (i := 1) (u := .int .i64 m) (Nat.ne_of_lt (Nat.lt_succ_self _)))
  have a0 := HA3.out.c0
  have a1 := HA3.out.c1
  have a2 := HA3.out.f0
  have a3 := HA3.out.f1
  go_wp2
  obtain ⟨hs, hw⟩ := hw1
  generalize ((wb.setCell ⟨w.heap.size, 0, none⟩ (.slice B zs.length c')).setCell ⟨w.heap.size, 1, none⟩ (.int .i64 m)) = wf at hs hw HA3 ⊢
  have hR3 : TwoS wf w.heap.size (.slice B zs.length c') (.int .i64 m) := ⟨hs⟩
  obtain ⟨ht, hv⟩ := stored2 HA3.out.row (.int .i64 q) (.bool y)
  have hR4 := (hR3.fs (g := w.heap.size + 1) (i := 0) (u := .int .i64 q) (by omega)).fs (g := w.heap.size + 1) (i := 1) (u := .bool y) (by omega)
  generalize ((wf.setCell ⟨w.heap.size + 1, 0, none⟩ (.int .i64 q)).setCell ⟨w.heap.size + 1, 1, none⟩ (.bool y)) = wg at ht hv hR4 ⊢
  have e0 := hR4.c0
  have e1 := hR4.c1
  have e2 := two0 ht
  have e3 := two1 ht
  refine bodyPost_ret (v := .tuple #[.agg #[.slice B zs.length c', .int .i64 m], .agg #[.int .i64 q, .bool y]]) (by simp [results, go_sem, e0, e1, e2, e3]) rfl ?_
  exact ⟨zs, B, c', m, q, y, rfl, hzl, res_wide ⟨(HS2.out.own.within hw (.inr (by omega))).within hv (.inr (by omega)), Nat.le_trans HS2.out.top (Nat.le_trans hw.size hv.size)⟩ (by omega) (Nat.le_trans HS2.out.top (Nat.le_trans hw.size hv.size)), (HB2.out.trans (hw.below (Nat.le_refl _) HB2.out.size)).trans (hv.below (by omega) (Nat.le_trans HB2.out.size hw.size))⟩
end Go.Proofs.Ytdkffkgoalgjmac
