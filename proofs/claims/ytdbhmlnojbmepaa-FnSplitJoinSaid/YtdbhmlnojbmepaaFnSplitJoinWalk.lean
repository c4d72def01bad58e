/- The law on splitting and joining: its walk over the draws and the functions' contracts. -/
import Derived.Test.YtdbhmlnojbmepaaDraw
import Derived.Test.YtdbhmlnojbmepaaBack
import Derived.Test.YtdbhmlnojbmepaaSplitImpl
import Derived.Test.YtdbhmlnojbmepaaJoinSpec
import Derived.Test.YtdbhmlnojbmepaaLess
namespace Go.Proofs.Ytdbhmlnojbmepaa
open Go.RowKit
set_option linter.unusedVariables false

theorem belowT {a b c : World} (h : Below a.heap.size a b) (k : Below b.heap.size b c) : Below a.heap.size a c := h.trans (k.mono h.size)
theorem rowLt {w : World} {b : Nat} {o : Obj} (h : w.heap[b]? = some o) : b < w.heap.size := by
  rcases Nat.lt_or_ge b w.heap.size with hl | hg
  · exact hl
  · rw [Array.getElem?_eq_none hg] at h; cases h
theorem strsRow {w : World} {g : Nat} {cur : Array Value} {t : TypeId} {ss : List ByteArray} (h : w.heap[g]? = some (.cells cur t (0, 0))) (hc : ∀ (j : Nat) x, ss[j]? = some x → cur[j]? = some (.string x)) : Strs w (some ⟨g, 0, none⟩) ss := fun _ =>
  ⟨g, 0, rfl, rowLt h, fun j x hx => by rw [Nat.zero_add, cell_of_row w g j cur t (0, 0) h]; exact hc j x hx⟩
/-- The bytes that came in are there still. -/
theorem Code.below {w w' : World} {B n : Nat} {A : Option Addr} (h : Code w B A n) (hb : Below w.heap.size w w') (hB : B ≤ w.heap.size) : Code w' w'.heap.size A n := fun h0 => by
  obtain ⟨b, o, e, hl, hc⟩ := h h0
  refine ⟨b, o, e, Nat.lt_of_lt_of_le hl (Nat.le_trans hB hb.size), fun j hj => ?_⟩
  obtain ⟨z, hz⟩ := hc j hj
  exact ⟨z, (World.cell?_of_block (a := ⟨b, o + j, none⟩) (hb.block b (by omega))).trans hz⟩
/-- What the program's SplitString answers, for texts that are drawn. -/
theorem split_ans (s sep : ByteArray) (hs : s.size ≤ 4000) (hsep : sep.size ≤ 4000) : ∃ ss ok, ss.length ≤ 4001 ∧ letters ss ≤ 4000 ∧
    (∀ w, Calls Try.prog 10 #[.string s, .string sep] w (SplitRet w ss ok)) ∧
    ((sep.size = 1 ∧ ok = true ∧ joinAns ss sep = some s.data.toList) ∨ (sep.size ≠ 1 ∧ ok = false ∧ ss = [])) := by
  by_cases h : sep.size = 1
  · have hp := parts_len s (sep[0]'(by omega))
    have hl := parts_letters s sep h
    exact ⟨parts s (sep[0]'(by omega)), true, by omega, by omega, fun w => (split_impl s sep hs h (by omega) w).mono fun e w' h => splitRet_own hp.1 h, .inl ⟨h, rfl, parts_join s sep h hs⟩⟩
  · exact ⟨[], false, by simp, by simp [letters], fun w => (split_impl_no2 s sep hs h (by omega) w).mono fun e w' h => splitRet_empty h, .inr ⟨h, rfl, rfl⟩⟩

set_option maxHeartbeats 4000000 in
theorem fnSplitJoin_walk (A : Option Addr) (n c : Nat) (W : World) (hC : Code W W.heap.size A n) (hnc : n ≤ c) (hcm : c ≤ maxLen) (hsh : W.ShapedOpen Try.prog) :
    Calls Try.prog 3 #[.slice A n c] W fun e w' => e = .returned (.bool true) ∧ Below W.heap.size W w' := by
  clear hsh
  have V := Lib.hid (vBig_any A n c W (Nat.le_trans hnc hcm))
  clear hcm
  by_cases hbig : 65536 < n
  · rw [decide_eq_true hbig] at V
    clear hC hnc hbig
    go_enter Try.func3, Try.ntmps3
    go_wp2_with fail
    refine V.out.mono ?_
    rintro e w' ⟨rfl, rfl⟩
    go_wp2_with fail
    go_ret
    exact ⟨rfl, Below.refl _ _⟩
  · rw [decide_eq_false hbig] at V
    have hn : n ≤ 65536 := by omega
    have C0 := Lib.hid hC
    clear hC hnc hbig
    go_enter Try.func3, Try.ntmps3
    go_wp2_with fail
    refine V.out.mono ?_
    rintro e w' ⟨rfl, rfl⟩
    clear V
    go_wp2_with fail
    refine (drawSplit_any A n c W C0.out hn).mono ?_
    rintro e w1 ⟨s, sep, rfl, hs, hsep, hb1⟩
    have B1 := Lib.hid hb1
    have C1 := Lib.hid (C0.out.below hb1 (Nat.le_refl _))
    obtain ⟨ss, ok, hss, hls, hcall, hcase⟩ := split_ans s sep hs hsep
    have CALL := Lib.hid hcall
    have CASE := Lib.hid hcase
    clear hb1 hcall hcase C0 hs
    go_wp2_with fail
    refine (CALL.out w1).mono ?_
    rintro e w2 ⟨g, cp, cur, rfl, hg, hrow, hcz, hcp, hread, hb⟩
    have B2 := Lib.hid (belowT B1.out hb)
    have C2 := Lib.hid (C1.out.below hb (Nat.le_refl _))
    have S2 := Lib.hid (strsRow hrow hread)
    clear hb CALL C1 B1 hrow hread hcz hg
    go_wp2_with fail
    refine (drawJoin_any A n c w2 C2.out hn).mono ?_
    rintro e w3 ⟨A3, c3, kk, mark, rfl, hk, hk1, hk2, hk3, hm, hb⟩
    have B3 := Lib.hid (belowT B2.out hb)
    have C3 := Lib.hid (C2.out.below hb (Nat.le_refl _))
    have S3 := Lib.hid (S2.out.below hb (Nat.le_refl _))
    have K3 := Lib.hid hk
    clear hk hb C2 S2 B2
    go_wp2_with fail
    refine (join_impl A3 c3 kk mark w3 K3.out hk1 (by omega) (by omega) (by omega)).mono ?_
    rintro e w4 ⟨rfl, hb⟩
    have B4 := Lib.hid (belowT B3.out hb)
    have C4 := Lib.hid (C3.out.below hb (Nat.le_refl _))
    have S4 := Lib.hid (S3.out.below hb (Nat.le_refl _))
    have K4 := Lib.hid (K3.out.below hb (Nat.le_refl _))
    clear K3 hb C3 S3 B3
    have JS := Lib.hid (join_spec A3 c3 kk mark w4 K4.out (by omega) (by omega) (by omega))
    generalize joinAns kk mark = jr at JS ⊢
    go_wp2_with fail
    refine JS.out.mono ?_
    rintro e w5 ⟨rfl, hb⟩
    have B5 := Lib.hid (belowT B4.out hb)
    have C5 := Lib.hid (C4.out.below hb (Nat.le_refl _))
    have S5 := Lib.hid (S4.out.below hb (Nat.le_refl _))
    clear K4 JS hb C4 S4 B4
    generalize (⟨(jr.getD []).toArray⟩ : ByteArray) = jt
    generalize jr.isSome = jb
    go_wp2_with fail
    refine (drawLess_any A n c w5 C5.out hn).mono ?_
    rintro e w6 ⟨a, b, rfl, ha, hbz, hb⟩
    have B6 := Lib.hid (belowT B5.out hb)
    have S6 := Lib.hid (S5.out.below hb (Nat.le_refl _))
    clear hb C5 S5 B5
    have L1 := less_impl a b w6
    have L2 := less_spec a b w6
    have L3 := less_impl b a w6
    have hxy := less_asymm a.toList b.toList
    generalize Op.bytesLess a.toList b.toList = x at L1 L2 hxy
    generalize Op.bytesLess b.toList a.toList = y at L3 hxy
    have L1 := Lib.hid L1
    have L2 := Lib.hid L2
    have L3 := Lib.hid L3
    rcases CASE.out with ⟨h1, rfl, heq⟩ | ⟨h1, rfl, rfl⟩
    · have hse : ((sep.size : Int) != 1) = false := by simp; omega
      have H1 := Lib.hid h1
      have EQ := Lib.hid heq
      clear h1 heq CASE
      cases x with
      | true =>
        obtain rfl : y = false := hxy rfl
        go_wp2_with (first | (go_at_call 16; refine L2.out.mono ?_; rintro e w' ⟨rfl, rfl⟩) | (go_at_call 15; refine L1.out.mono ?_; rintro e w' ⟨rfl, rfl⟩) | (go_at_call 15; refine L3.out.mono ?_; rintro e w' ⟨rfl, rfl⟩) | fail)
        refine (join_impl _ cp ss sep w6 S6.out hcp (by omega) (by omega) (by omega)).mono ?_
        rintro e w7 ⟨rfl, hb⟩
        rw [EQ.out]
        have B7 := Lib.hid (belowT B6.out hb)
        clear hb B6 S6
        go_wp2_with fail
        go_ret
        exact ⟨by simp, B7.out⟩
      | false =>
        clear hxy
        go_wp2_with (first | (go_at_call 16; refine L2.out.mono ?_; rintro e w' ⟨rfl, rfl⟩) | (go_at_call 15; refine L1.out.mono ?_; rintro e w' ⟨rfl, rfl⟩) | (go_at_call 15; refine L3.out.mono ?_; rintro e w' ⟨rfl, rfl⟩) | fail)
        refine (join_impl _ cp ss sep w6 S6.out hcp (by omega) (by omega) (by omega)).mono ?_
        rintro e w7 ⟨rfl, hb⟩
        rw [EQ.out]
        have B7 := Lib.hid (belowT B6.out hb)
        clear hb B6 S6
        go_wp2_with fail
        go_ret
        exact ⟨by simp, B7.out⟩
    · have hse : ((sep.size : Int) != 1) = true := by simp; omega
      have H1 := Lib.hid h1
      clear h1 CASE
      cases x with
      | true =>
        obtain rfl : y = false := hxy rfl
        go_wp2_with (first | (go_at_call 16; refine L2.out.mono ?_; rintro e w' ⟨rfl, rfl⟩) | (go_at_call 15; refine L1.out.mono ?_; rintro e w' ⟨rfl, rfl⟩) | (go_at_call 15; refine L3.out.mono ?_; rintro e w' ⟨rfl, rfl⟩) | fail)
        go_ret
        exact ⟨rfl, B6.out⟩
      | false =>
        clear hxy
        go_wp2_with (first | (go_at_call 16; refine L2.out.mono ?_; rintro e w' ⟨rfl, rfl⟩) | (go_at_call 15; refine L1.out.mono ?_; rintro e w' ⟨rfl, rfl⟩) | (go_at_call 15; refine L3.out.mono ?_; rintro e w' ⟨rfl, rfl⟩) | fail)
        go_ret
        exact ⟨rfl, B6.out⟩
end Go.Proofs.Ytdbhmlnojbmepaa
