/- The law FnBalanced: its walk. -/
import Derived.Test.YtdolonmjhlhkeabBalH
namespace Go.Proofs.Ytdolonmjhlhkeab
open Go.RowKit Go.ChangeShapes Go.WideShapes
set_option linter.unusedVariables false
set_option linter.unusedSimpArgs false

set_option maxRecDepth 100000 in
set_option maxHeartbeats 40000000 in
theorem fnBalanced_run (A : Option Addr) (n c : Nat) (W : World) (hC : Code W W.heap.size A n) (hcm : n ≤ maxLen) (h : n ≤ 65536)
    (hCut : ∀ (w : World), Below W.heap.size W w → Calls Try.prog 17 #[.slice A n c, .int .i64 1] w fun e w' => ∃ A' n' c', e = .returned (.slice A' n' c') ∧ n' ≤ 65536 ∧ Code w' w'.heap.size A' n' ∧ Below w.heap.size w w') :
    Calls Try.prog 4 #[.slice A n c] W fun e w' => e = .returned (.bool true) ∧ Below W.heap.size W w' := by
  have HB := Lib.hid (Below.refl W.heap.size W)
  have HCut := Lib.hid hCut
  have HV := Lib.hid (fun w => vBig_any2 A n c w hcm h)
  have HD := Lib.hid (drawAW_any A n c W hC h)
  clear hCut hC
  go_enter Try.func4, Try.ntmps4
  go_wp2_with fail
  refine (HV.out W).mono ?_
  rintro e w0 ⟨rfl, hw⟩
  have hw := hw.symm
  subst hw
  go_wp2_with fail
  refine (HD.out).mono ?_
  rintro e w1 ⟨zs, B, c', m, kq, q, rfl, hzl, hres, hb⟩
  obtain ⟨lo1, hi1, HI⟩ : ∃ lo hi, Hid (Ins w1 lo hi B zs) := ⟨_, _, Lib.hid hres.ins⟩
  replace HB := Lib.hid (below_trans HB.out hb)
  have hzs : zs.length ≤ 1048576 := by omega
  clear hb hres HD HV
  have hb : Below w1.heap.size w1 (w1.alloc (.cells #[.slice B zs.length c', .int .i64 m] 26)) := (Below.refl _ _).alloc (Nat.le_refl _) _
  have HS := Lib.hid (TwoS.new w1 (.slice B zs.length c') (.int .i64 m) w1.heap.size rfl)
  have g0HS := HS.out.c0
  have g1HS := HS.out.c1
  go_wp2_with fail
  clear g0HS g1HS
  replace HI := Lib.hid (HI.out.step hb)
  replace HB := Lib.hid (below_trans HB.out hb)
  clear hb
  generalize (w1.alloc (.cells #[.slice B zs.length c', .int .i64 m] 26)) = w2 at HB HI HS ⊢
  cases hok : (asks zs m q && qOK zs.length kq) with
  | true =>
    rw [Bool.and_eq_true] at hok
    obtain ⟨M, q0, rfl, rfl, hq0, hst⟩ := asks_nats hok.1
    have hqk := hok.2
    have hzl2 := isSt_len hst
    have hkk : 0 ≤ kq ∧ kq < 2 ^ zs.length := by have := qOK_iff.1 hqk; rw [Int.toNat_natCast] at this; omega
    have HA1 := Lib.hid (fun W h => answerWeights_impl B c' lo1 hi1 zs M q0 kq W h hst hq0 hqk)
    have HA2 := Lib.hid (fun W h => answerWeights_spec B c' lo1 hi1 zs M q0 kq W h hst hq0 hqk)
    have HA3 := Lib.hid (fun W h => answerWeights_impl B c' lo1 hi1 zs M q0 (2 ^ zs.length - 1 - kq) W h hst hq0 (other_qOK hqk))
    rw [behW_other hzl2.2.1 hkk, behW_other hzl2.2.1 hkk, Bool.not_true, Bool.not_false] at HA3
    have HI1 := Lib.hid (fun W h => isBalanced_impl B c' lo1 hi1 zs M q0 kq W h hst hq0 hqk)
    have HI2 := Lib.hid (fun W h => isBalanced_spec B c' lo1 hi1 zs M q0 kq W h hst hq0 hqk)
    have HSW := Lib.hid (fun W h => stateWeight_impl B c' lo1 hi1 zs M (q0 + 1) W h hst (by omega))
    rw [show (((q0 + 1 : Nat)) : Int) = (q0 : Int) + 1 from rfl] at HSW
    have HO := Lib.hid (fun W => otherQuestion_yes zs.length kq W hqk)
    have HAS := Lib.hid (fun W h => answerState_ins B c' lo1 hi1 zs (M : Int) kq true W h hst hqk)
    have HS2 := Lib.hid (fun A' c2 lo' hi' W h => behind_sW A' c2 lo' hi' zs M q0 kq W h hst (by omega))
    have hxy := behW_both (q := q0) kq hq0 hst
    have hxb := behW_bd (q := q0) (M := M) (zs := zs) kq true (by omega) hzl2.2.1
    have hyb := behW_bd (q := q0) (M := M) (zs := zs) kq false (by omega) hzl2.2.1
    rw [isBal_both] at HI1 HI2
    have hpq := pow_le30 q0 (by omega)
    have hpz := pow_le zs.length (by omega)
    generalize stW (q0 + 1) M zs = tt at HSW hxy
    generalize behW q0 M zs kq true = x at HA1 HA2 HA3 HI1 HI2 HS2 hxy hxb
    generalize behW q0 M zs kq false = y at HA1 HA2 HA3 HI1 HI2 hxy hyb
    have hxt : ((tt : Nat) : Int) = (x : Int) + (y : Int) := by omega
    rw [hxt] at HSW
    clear hxt hxy
    generalize hr : decide ((x : Int) ≤ 2 ^ q0 ∧ (y : Int) ≤ 2 ^ q0) = r at HI1 HI2
    clear hst hok hqk hzl2
    refine (HA1.out _ HI.out).mono ?_
    rintro e w3 ⟨rfl, hb⟩
    replace HI := Lib.hid (HI.out.step hb)
    replace HS := Lib.hid (HS.out.step hb)
    replace HB := Lib.hid (below_trans HB.out hb)
    clear hb
    have hb : Below w3.heap.size w3 (w3.alloc (.cells #[.int .i64 (x : Int), .int .i64 (y : Int)] 42)) := (Below.refl _ _).alloc (Nat.le_refl _) _
    have H6 := Lib.hid (Two.new w3 (.int .i64 (x : Int)) (.int .i64 (y : Int)) 42 w3.heap.size rfl)
    have g0HS := (HS.out.step hb).c0
    have g1HS := (HS.out.step hb).c1
    have g0H6 := H6.out.c0
    have g1H6 := H6.out.c1
    go_wp2_with fail
    clear g0HS g1HS g0H6 g1H6
    replace HI := Lib.hid (HI.out.step hb)
    replace HS := Lib.hid (HS.out.step hb)
    replace HB := Lib.hid (below_trans HB.out hb)
    clear hb
    generalize (w3.alloc (.cells #[.int .i64 (x : Int), .int .i64 (y : Int)] 42)) = w4 at HB HI HS H6 ⊢
    refine (HA2.out _ HI.out).mono ?_
    rintro e w5 ⟨rfl, hb⟩
    replace HI := Lib.hid (HI.out.step hb)
    replace HS := Lib.hid (HS.out.step hb)
    replace H6 := Lib.hid (H6.out.step hb)
    replace HB := Lib.hid (below_trans HB.out hb)
    clear hb
    have hb : Below w5.heap.size w5 (w5.alloc (.cells #[.int .i64 (x : Int), .int .i64 (y : Int)] 42)) := (Below.refl _ _).alloc (Nat.le_refl _) _
    have H8 := Lib.hid (Two.new w5 (.int .i64 (x : Int)) (.int .i64 (y : Int)) 42 w5.heap.size rfl)
    have g0HS := (HS.out.step hb).c0
    have g1HS := (HS.out.step hb).c1
    have g0H6 := (H6.out.step hb).c0
    have g1H6 := (H6.out.step hb).c1
    have g0H8 := H8.out.c0
    have g1H8 := H8.out.c1
    go_wp2_with fail
    clear g0HS g1HS g0H6 g1H6 g0H8 g1H8
    replace HI := Lib.hid (HI.out.step hb)
    replace HS := Lib.hid (HS.out.step hb)
    replace H6 := Lib.hid (H6.out.step hb)
    replace HB := Lib.hid (below_trans HB.out hb)
    clear hb
    generalize (w5.alloc (.cells #[.int .i64 (x : Int), .int .i64 (y : Int)] 42)) = w6 at HB HI HS H6 H8 ⊢
    refine (HI1.out _ HI.out).mono ?_
    rintro e w7 ⟨rfl, hb⟩
    replace HI := Lib.hid (HI.out.step hb)
    replace HS := Lib.hid (HS.out.step hb)
    replace H6 := Lib.hid (H6.out.step hb)
    replace H8 := Lib.hid (H8.out.step hb)
    replace HB := Lib.hid (below_trans HB.out hb)
    clear hb
    have c0HS := HS.out.c0
    have c1HS := HS.out.c1
    have c0H6 := H6.out.c0
    have c1H6 := H6.out.c1
    have c0H8 := H8.out.c0
    have c1H8 := H8.out.c1
    go_wp2_with fail
    refine (HI2.out _ HI.out).mono ?_
    rintro e w8 ⟨rfl, hb⟩
    clear c0HS c1HS c0H6 c1H6 c0H8 c1H8
    replace HI := Lib.hid (HI.out.step hb)
    replace HS := Lib.hid (HS.out.step hb)
    replace H6 := Lib.hid (H6.out.step hb)
    replace H8 := Lib.hid (H8.out.step hb)
    replace HB := Lib.hid (below_trans HB.out hb)
    clear hb
    have c0HS := HS.out.c0
    have c1HS := HS.out.c1
    have c0H6 := H6.out.c0
    have c1H6 := H6.out.c1
    have c0H8 := H8.out.c0
    have c1H8 := H8.out.c1
    go_wp2_with fail
    refine (HCut.out _ HB.out).mono ?_
    rintro e w9 ⟨A2, n2, c2, rfl, hn2, hcode, hb⟩
    clear c0HS c1HS c0H6 c1H6 c0H8 c1H8
    replace HI := Lib.hid (HI.out.step hb)
    replace HS := Lib.hid (HS.out.step hb)
    replace H6 := Lib.hid (H6.out.step hb)
    replace H8 := Lib.hid (H8.out.step hb)
    replace HB := Lib.hid (below_trans HB.out hb)
    clear hb
    have HK := Lib.hid hcode
    clear hcode
    have c0HS := HS.out.c0
    have c1HS := HS.out.c1
    have c0H6 := H6.out.c0
    have c1H6 := H6.out.c1
    have c0H8 := H8.out.c0
    have c1H8 := H8.out.c1
    go_wp2_with fail
    refine (drawEQ_any A2 n2 c2 _ HK.out hn2).mono ?_
    rintro e w10 ⟨ys, D, d', l, v, rfl, hyl, hres, hb⟩
    clear c0HS c1HS c0H6 c1H6 c0H8 c1H8
    replace HI := Lib.hid (HI.out.step hb)
    replace HS := Lib.hid (HS.out.step hb)
    replace H6 := Lib.hid (H6.out.step hb)
    replace H8 := Lib.hid (H8.out.step hb)
    replace HB := Lib.hid (below_trans HB.out hb)
    clear hb
    obtain ⟨lo2, hi2, HJ⟩ : ∃ lo hi, Hid (Ins w10 lo hi D ys) := ⟨_, _, Lib.hid hres.ins⟩
    have hys : ys.length ≤ 1048576 := by omega
    clear hres HK
    have hb : Below w10.heap.size w10 (w10.alloc (.cells #[.slice D ys.length d', .int .i64 l] 26)) := (Below.refl _ _).alloc (Nat.le_refl _) _
    have HU := Lib.hid (TwoS.new w10 (.slice D ys.length d') (.int .i64 l) w10.heap.size rfl)
    have g0HS := (HS.out.step hb).c0
    have g1HS := (HS.out.step hb).c1
    have g0H6 := (H6.out.step hb).c0
    have g1H6 := (H6.out.step hb).c1
    have g0H8 := (H8.out.step hb).c0
    have g1H8 := (H8.out.step hb).c1
    have g0HU := HU.out.c0
    have g1HU := HU.out.c1
    go_wp2_with fail
    clear g0HS g1HS g0H6 g1H6 g0H8 g1H8 g0HU g1HU
    replace HI := Lib.hid (HI.out.step hb)
    replace HS := Lib.hid (HS.out.step hb)
    replace H6 := Lib.hid (H6.out.step hb)
    replace H8 := Lib.hid (H8.out.step hb)
    replace HJ := Lib.hid (HJ.out.step hb)
    replace HB := Lib.hid (below_trans HB.out hb)
    clear hb
    generalize (w10.alloc (.cells #[.slice D ys.length d', .int .i64 l] 26)) = w11 at HB HI HS H6 H8 HJ HU ⊢
    cases hth : asks ys l v with
    | true =>
      obtain ⟨M2, a2, rfl, rfl, ha2, hst2⟩ := asks_nats hth
      have hyl2 := (isSt_len hst2)
      have HEI := Lib.hid (fun W h => evenQuestion_impl D d' lo2 hi2 ys M2 a2 W h hst2 ha2)
      have HES := Lib.hid (fun W h => evenQuestion_spec D d' lo2 hi2 ys M2 a2 W h hst2 ha2)
      have HCI := Lib.hid (fun W h => countBalanced_impl D d' lo2 hi2 ys M2 a2 W h hst2 ha2)
      have HCS := Lib.hid (fun W h => countBalanced_spec D d' lo2 hi2 ys M2 a2 W h hst2 ha2)
      have HEQ := Lib.hid (bestTo_qOK (q := a2) (M := M2) hst2)
      have HBI := Lib.hid (fun W h => isBalanced_impl D d' lo2 hi2 ys M2 a2 _ W h hst2 ha2 HEQ.out)
      rw [even_bal] at HBI
      have hev := cntB_even (q := a2) hst2
      have hcb := cntB_bd a2 M2 ys (2 ^ ys.length)
      have hpn := pow_nat ys.length hyl2.2.1
      clear hst2 hth HEQ hyl2
      generalize cntB a2 M2 ys (2 ^ ys.length) = cn at HCI HCS HBI hev hcb
      generalize ((bestTo (wsN a2 M2 ys) (2 ^ ys.length) : Nat) : Int) = ev at HEI HES HBI
      refine (HEI.out _ HJ.out).mono ?_
      rintro e w12 ⟨rfl, hb⟩
      replace HI := Lib.hid (HI.out.step hb)
      replace HS := Lib.hid (HS.out.step hb)
      replace H6 := Lib.hid (H6.out.step hb)
      replace H8 := Lib.hid (H8.out.step hb)
      replace HJ := Lib.hid (HJ.out.step hb)
      replace HU := Lib.hid (HU.out.step hb)
      replace HB := Lib.hid (below_trans HB.out hb)
      clear hb
      have c0HS := HS.out.c0
      have c1HS := HS.out.c1
      have c0H6 := H6.out.c0
      have c1H6 := H6.out.c1
      have c0H8 := H8.out.c0
      have c1H8 := H8.out.c1
      have c0HU := HU.out.c0
      have c1HU := HU.out.c1
      go_wp2_with fail
      refine (HES.out _ HJ.out).mono ?_
      rintro e w13 ⟨rfl, hb⟩
      clear c0HS c1HS c0H6 c1H6 c0H8 c1H8 c0HU c1HU
      replace HI := Lib.hid (HI.out.step hb)
      replace HS := Lib.hid (HS.out.step hb)
      replace H6 := Lib.hid (H6.out.step hb)
      replace H8 := Lib.hid (H8.out.step hb)
      replace HJ := Lib.hid (HJ.out.step hb)
      replace HU := Lib.hid (HU.out.step hb)
      replace HB := Lib.hid (below_trans HB.out hb)
      clear hb
      have c0HS := HS.out.c0
      have c1HS := HS.out.c1
      have c0H6 := H6.out.c0
      have c1H6 := H6.out.c1
      have c0H8 := H8.out.c0
      have c1H8 := H8.out.c1
      have c0HU := HU.out.c0
      have c1HU := HU.out.c1
      go_wp2_with fail
      refine (HCI.out _ HJ.out).mono ?_
      rintro e w14 ⟨rfl, hb⟩
      clear c0HS c1HS c0H6 c1H6 c0H8 c1H8 c0HU c1HU
      replace HI := Lib.hid (HI.out.step hb)
      replace HS := Lib.hid (HS.out.step hb)
      replace H6 := Lib.hid (H6.out.step hb)
      replace H8 := Lib.hid (H8.out.step hb)
      replace HJ := Lib.hid (HJ.out.step hb)
      replace HU := Lib.hid (HU.out.step hb)
      replace HB := Lib.hid (below_trans HB.out hb)
      clear hb
      have c0HS := HS.out.c0
      have c1HS := HS.out.c1
      have c0H6 := H6.out.c0
      have c1H6 := H6.out.c1
      have c0H8 := H8.out.c0
      have c1H8 := H8.out.c1
      have c0HU := HU.out.c0
      have c1HU := HU.out.c1
      go_wp2_with fail
      refine (HCS.out _ HJ.out).mono ?_
      rintro e w15 ⟨rfl, hb⟩
      clear c0HS c1HS c0H6 c1H6 c0H8 c1H8 c0HU c1HU
      replace HI := Lib.hid (HI.out.step hb)
      replace HS := Lib.hid (HS.out.step hb)
      replace H6 := Lib.hid (H6.out.step hb)
      replace H8 := Lib.hid (H8.out.step hb)
      replace HJ := Lib.hid (HJ.out.step hb)
      replace HU := Lib.hid (HU.out.step hb)
      replace HB := Lib.hid (below_trans HB.out hb)
      clear hb
      have heq := eq_arr2
      by_cases hx2 : (x : Int) ≤ 2 ^ q0 <;> by_cases hy2 : (y : Int) ≤ 2 ^ q0
      all_goals
        simp only [hx2, hy2, and_self, and_true, and_false, decide_true, decide_false] at hr
        subst hr
        have c0HS := HS.out.c0
        have c1HS := HS.out.c1
        have c0H6 := H6.out.c0
        have c1H6 := H6.out.c1
        have c0H8 := H8.out.c0
        have c1H8 := H8.out.c1
        have c0HU := HU.out.c0
        have c1HU := HU.out.c1
        go_wp2_with fail
        refine (HSW.out _ HI.out).mono ?_
        rintro e w16 ⟨rfl, hb⟩
        clear c0HS c1HS c0H6 c1H6 c0H8 c1H8 c0HU c1HU
        replace HI := Lib.hid (HI.out.step hb)
        replace HS := Lib.hid (HS.out.step hb)
        replace H6 := Lib.hid (H6.out.step hb)
        replace H8 := Lib.hid (H8.out.step hb)
        replace HJ := Lib.hid (HJ.out.step hb)
        replace HU := Lib.hid (HU.out.step hb)
        replace HB := Lib.hid (below_trans HB.out hb)
        clear hb
        have c0HS := HS.out.c0
        have c1HS := HS.out.c1
        have c0H6 := H6.out.c0
        have c1H6 := H6.out.c1
        have c0H8 := H8.out.c0
        have c1H8 := H8.out.c1
        have c0HU := HU.out.c0
        have c1HU := HU.out.c1
        go_wp2_with fail
        refine (HO.out _).mono ?_
        rintro e w17 ⟨rfl, hb⟩
        clear c0HS c1HS c0H6 c1H6 c0H8 c1H8 c0HU c1HU
        replace HI := Lib.hid (HI.out.step hb)
        replace HS := Lib.hid (HS.out.step hb)
        replace H6 := Lib.hid (H6.out.step hb)
        replace H8 := Lib.hid (H8.out.step hb)
        replace HJ := Lib.hid (HJ.out.step hb)
        replace HU := Lib.hid (HU.out.step hb)
        replace HB := Lib.hid (below_trans HB.out hb)
        clear hb
        have c0HS := HS.out.c0
        have c1HS := HS.out.c1
        have c0H6 := H6.out.c0
        have c1H6 := H6.out.c1
        have c0H8 := H8.out.c0
        have c1H8 := H8.out.c1
        have c0HU := HU.out.c0
        have c1HU := HU.out.c1
        go_wp2_with fail
        refine (HA3.out _ HI.out).mono ?_
        rintro e w18 ⟨rfl, hb⟩
        clear c0HS c1HS c0H6 c1H6 c0H8 c1H8 c0HU c1HU
        replace HI := Lib.hid (HI.out.step hb)
        replace HS := Lib.hid (HS.out.step hb)
        replace H6 := Lib.hid (H6.out.step hb)
        replace H8 := Lib.hid (H8.out.step hb)
        replace HJ := Lib.hid (HJ.out.step hb)
        replace HU := Lib.hid (HU.out.step hb)
        replace HB := Lib.hid (below_trans HB.out hb)
        clear hb
        have hb : Below w18.heap.size w18 (w18.alloc (.cells #[.int .i64 (y : Int), .int .i64 (x : Int)] 42)) := (Below.refl _ _).alloc (Nat.le_refl _) _
        have H9 := Lib.hid (Two.new w18 (.int .i64 (y : Int)) (.int .i64 (x : Int)) 42 w18.heap.size rfl)
        have g0HS := (HS.out.step hb).c0
        have g1HS := (HS.out.step hb).c1
        have g0H6 := (H6.out.step hb).c0
        have g1H6 := (H6.out.step hb).c1
        have g0H8 := (H8.out.step hb).c0
        have g1H8 := (H8.out.step hb).c1
        have g0HU := (HU.out.step hb).c0
        have g1HU := (HU.out.step hb).c1
        have g0H9 := H9.out.c0
        have g1H9 := H9.out.c1
        go_wp2_with fail
        clear g0HS g1HS g0H6 g1H6 g0H8 g1H8 g0HU g1HU g0H9 g1H9
        replace HI := Lib.hid (HI.out.step hb)
        replace HS := Lib.hid (HS.out.step hb)
        replace H6 := Lib.hid (H6.out.step hb)
        replace H8 := Lib.hid (H8.out.step hb)
        replace HJ := Lib.hid (HJ.out.step hb)
        replace HU := Lib.hid (HU.out.step hb)
        replace HB := Lib.hid (below_trans HB.out hb)
        clear hb
        generalize (w18.alloc (.cells #[.int .i64 (y : Int), .int .i64 (x : Int)] 42)) = w19 at HB HI HS H6 H8 HJ HU H9 ⊢
        have c0HS := HS.out.c0
        have c1HS := HS.out.c1
        have c0H6 := H6.out.c0
        have c1H6 := H6.out.c1
        have c0H8 := H8.out.c0
        have c1H8 := H8.out.c1
        have c0HU := HU.out.c0
        have c1HU := HU.out.c1
        have c0H9 := H9.out.c0
        have c1H9 := H9.out.c1
        have hwxy : IntKind.i64.wrap ((x : Int) + (y : Int)) = (x : Int) + y := IntWalk.i64_in _ (by omega)
        have hwq : IntKind.i64.wrap ((q0 : Int) + 1 - 1) = (q0 : Int) := by rw [show (q0 : Int) + 1 - 1 = q0 by omega]; exact IntWalk.i64_in _ (by omega)
        try have hx5 : ((x : Int) ≤ 2 ^ q0) = False := eq_false (by omega)
        try have hx6 : decide ((x : Int) ≤ 2 ^ q0) = false := decide_eq_false (by omega)
        try have hy5 : ((y : Int) ≤ 2 ^ q0) = False := eq_false (by omega)
        try have hy6 : decide ((y : Int) ≤ 2 ^ q0) = false := decide_eq_false (by omega)
        go_quiet (fail)
        clear hwxy hwq
        have hb : Below w19.heap.size w19 (w19.drewN nq) := below_drewN (Below.refl _ _) _
        generalize w19.drewN nq = w20 at hb ⊢
        clear c0HS c1HS c0H6 c1H6 c0H8 c1H8 c0HU c1HU c0H9 c1H9
        replace HI := Lib.hid (HI.out.step hb)
        replace HS := Lib.hid (HS.out.step hb)
        replace H6 := Lib.hid (H6.out.step hb)
        replace H8 := Lib.hid (H8.out.step hb)
        replace HJ := Lib.hid (HJ.out.step hb)
        replace HU := Lib.hid (HU.out.step hb)
        replace H9 := Lib.hid (H9.out.step hb)
        replace HB := Lib.hid (below_trans HB.out hb)
        clear hb
        have c0HS := HS.out.c0
        have c1HS := HS.out.c1
        have c0H6 := H6.out.c0
        have c1H6 := H6.out.c1
        have c0H8 := H8.out.c0
        have c1H8 := H8.out.c1
        have c0HU := HU.out.c0
        have c1HU := HU.out.c1
        have c0H9 := H9.out.c0
        have c1H9 := H9.out.c1
        go_wp2_with fail
        refine (HAS.out _ HI.out).mono ?_
        rintro e w21 ⟨g, rfl, hins, hb⟩
        clear c0HS c1HS c0H6 c1H6 c0H8 c1H8 c0HU c1HU c0H9 c1H9
        replace HI := Lib.hid (HI.out.step hb)
        replace HS := Lib.hid (HS.out.step hb)
        replace H6 := Lib.hid (H6.out.step hb)
        replace H8 := Lib.hid (H8.out.step hb)
        replace HJ := Lib.hid (HJ.out.step hb)
        replace HU := Lib.hid (HU.out.step hb)
        replace H9 := Lib.hid (H9.out.step hb)
        replace HB := Lib.hid (below_trans HB.out hb)
        clear hb
        have HG := Lib.hid hins
        clear hins
        have hb : Below w21.heap.size w21 (w21.alloc (.cells #[.slice (some ⟨g, 0, none⟩) zs.length zs.length, .int .i64 (M : Int)] 26)) := (Below.refl _ _).alloc (Nat.le_refl _) _
        have HY := Lib.hid (TwoS.new w21 (.slice (some ⟨g, 0, none⟩) zs.length zs.length) (.int .i64 (M : Int)) w21.heap.size rfl)
        have g0HS := (HS.out.step hb).c0
        have g1HS := (HS.out.step hb).c1
        have g0H6 := (H6.out.step hb).c0
        have g1H6 := (H6.out.step hb).c1
        have g0H8 := (H8.out.step hb).c0
        have g1H8 := (H8.out.step hb).c1
        have g0HU := (HU.out.step hb).c0
        have g1HU := (HU.out.step hb).c1
        have g0H9 := (H9.out.step hb).c0
        have g1H9 := (H9.out.step hb).c1
        have g0HY := HY.out.c0
        have g1HY := HY.out.c1
        go_wp2_with fail
        clear g0HS g1HS g0H6 g1H6 g0H8 g1H8 g0HU g1HU g0H9 g1H9 g0HY g1HY
        replace HI := Lib.hid (HI.out.step hb)
        replace HS := Lib.hid (HS.out.step hb)
        replace H6 := Lib.hid (H6.out.step hb)
        replace H8 := Lib.hid (H8.out.step hb)
        replace HJ := Lib.hid (HJ.out.step hb)
        replace HU := Lib.hid (HU.out.step hb)
        replace H9 := Lib.hid (H9.out.step hb)
        replace HG := Lib.hid (HG.out.step hb)
        replace HB := Lib.hid (below_trans HB.out hb)
        clear hb
        generalize (w21.alloc (.cells #[.slice (some ⟨g, 0, none⟩) zs.length zs.length, .int .i64 (M : Int)] 26)) = w22 at HB HI HS H6 H8 HJ HU H9 HG HY ⊢
        try rw [show (q0 : Int) + 1 - 1 = q0 by omega]
        refine (HS2.out _ _ _ _ _ HG.out).mono ?_
        rintro e w23 ⟨rfl, hb⟩
        replace HI := Lib.hid (HI.out.step hb)
        replace HS := Lib.hid (HS.out.step hb)
        replace H6 := Lib.hid (H6.out.step hb)
        replace H8 := Lib.hid (H8.out.step hb)
        replace HJ := Lib.hid (HJ.out.step hb)
        replace HU := Lib.hid (HU.out.step hb)
        replace H9 := Lib.hid (H9.out.step hb)
        replace HG := Lib.hid (HG.out.step hb)
        replace HY := Lib.hid (HY.out.step hb)
        replace HB := Lib.hid (below_trans HB.out hb)
        clear hb
        have c0HS := HS.out.c0
        have c1HS := HS.out.c1
        have c0H6 := H6.out.c0
        have c1H6 := H6.out.c1
        have c0H8 := H8.out.c0
        have c1H8 := H8.out.c1
        have c0HU := HU.out.c0
        have c1HU := HU.out.c1
        have c0H9 := H9.out.c0
        have c1H9 := H9.out.c1
        have c0HY := HY.out.c0
        have c1HY := HY.out.c1
        go_wp2_with fail
        clear c0HS c1HS c0H6 c1H6 c0H8 c1H8 c0HU c1HU c0H9 c1H9 c0HY c1HY
        by_cases hcn : 0 < cn
        · rw [decide_eq_true hcn] at HBI
          have hevI : (cn : Int) % 2 = 0 := by omega
          refine (HBI.out _ HJ.out).mono ?_
          rintro e w24 ⟨rfl, hb⟩
          replace HB := Lib.hid (below_trans HB.out hb)
          clear hb
          go_wp2
          all_goals
            go_ret
            exact ⟨rfl, HB.out⟩
        · rw [decide_eq_false hcn] at HBI
          have hevI : (cn : Int) % 2 = 0 := by omega
          refine (HBI.out _ HJ.out).mono ?_
          rintro e w24 ⟨rfl, hb⟩
          replace HB := Lib.hid (below_trans HB.out hb)
          clear hb
          go_wp2
          all_goals
            go_ret
            exact ⟨rfl, HB.out⟩
    | false =>
      refine (evenQuestion_no D d' _ _ ys l v _ HJ.out hys hth).mono ?_
      rintro e w12 ⟨rfl, hb⟩
      replace HI := Lib.hid (HI.out.step hb)
      replace HS := Lib.hid (HS.out.step hb)
      replace H6 := Lib.hid (H6.out.step hb)
      replace H8 := Lib.hid (H8.out.step hb)
      replace HJ := Lib.hid (HJ.out.step hb)
      replace HU := Lib.hid (HU.out.step hb)
      replace HB := Lib.hid (below_trans HB.out hb)
      clear hb
      have c0HS := HS.out.c0
      have c1HS := HS.out.c1
      have c0H6 := H6.out.c0
      have c1H6 := H6.out.c1
      have c0H8 := H8.out.c0
      have c1H8 := H8.out.c1
      have c0HU := HU.out.c0
      have c1HU := HU.out.c1
      go_wp2_with fail
      refine (evenQuestion_spec_no D d' _ _ ys l v _ HJ.out hys hth).mono ?_
      rintro e w13 ⟨rfl, hb⟩
      clear c0HS c1HS c0H6 c1H6 c0H8 c1H8 c0HU c1HU
      replace HI := Lib.hid (HI.out.step hb)
      replace HS := Lib.hid (HS.out.step hb)
      replace H6 := Lib.hid (H6.out.step hb)
      replace H8 := Lib.hid (H8.out.step hb)
      replace HJ := Lib.hid (HJ.out.step hb)
      replace HU := Lib.hid (HU.out.step hb)
      replace HB := Lib.hid (below_trans HB.out hb)
      clear hb
      have c0HS := HS.out.c0
      have c1HS := HS.out.c1
      have c0H6 := H6.out.c0
      have c1H6 := H6.out.c1
      have c0H8 := H8.out.c0
      have c1H8 := H8.out.c1
      have c0HU := HU.out.c0
      have c1HU := HU.out.c1
      go_wp2_with fail
      refine (countBalanced_no D d' _ _ ys l v _ HJ.out hys hth).mono ?_
      rintro e w14 ⟨rfl, hb⟩
      clear c0HS c1HS c0H6 c1H6 c0H8 c1H8 c0HU c1HU
      replace HI := Lib.hid (HI.out.step hb)
      replace HS := Lib.hid (HS.out.step hb)
      replace H6 := Lib.hid (H6.out.step hb)
      replace H8 := Lib.hid (H8.out.step hb)
      replace HJ := Lib.hid (HJ.out.step hb)
      replace HU := Lib.hid (HU.out.step hb)
      replace HB := Lib.hid (below_trans HB.out hb)
      clear hb
      have c0HS := HS.out.c0
      have c1HS := HS.out.c1
      have c0H6 := H6.out.c0
      have c1H6 := H6.out.c1
      have c0H8 := H8.out.c0
      have c1H8 := H8.out.c1
      have c0HU := HU.out.c0
      have c1HU := HU.out.c1
      go_wp2_with fail
      refine (countBalanced_spec_no D d' _ _ ys l v _ HJ.out hys hth).mono ?_
      rintro e w15 ⟨rfl, hb⟩
      clear c0HS c1HS c0H6 c1H6 c0H8 c1H8 c0HU c1HU
      replace HI := Lib.hid (HI.out.step hb)
      replace HS := Lib.hid (HS.out.step hb)
      replace H6 := Lib.hid (H6.out.step hb)
      replace H8 := Lib.hid (H8.out.step hb)
      replace HJ := Lib.hid (HJ.out.step hb)
      replace HU := Lib.hid (HU.out.step hb)
      replace HB := Lib.hid (below_trans HB.out hb)
      clear hb
      have heq := eq_arr2
      by_cases hx2 : (x : Int) ≤ 2 ^ q0 <;> by_cases hy2 : (y : Int) ≤ 2 ^ q0
      all_goals
        simp only [hx2, hy2, and_self, and_true, and_false, decide_true, decide_false] at hr
        subst hr
        have c0HS := HS.out.c0
        have c1HS := HS.out.c1
        have c0H6 := H6.out.c0
        have c1H6 := H6.out.c1
        have c0H8 := H8.out.c0
        have c1H8 := H8.out.c1
        have c0HU := HU.out.c0
        have c1HU := HU.out.c1
        go_wp2_with fail
        refine (HSW.out _ HI.out).mono ?_
        rintro e w16 ⟨rfl, hb⟩
        clear c0HS c1HS c0H6 c1H6 c0H8 c1H8 c0HU c1HU
        replace HI := Lib.hid (HI.out.step hb)
        replace HS := Lib.hid (HS.out.step hb)
        replace H6 := Lib.hid (H6.out.step hb)
        replace H8 := Lib.hid (H8.out.step hb)
        replace HJ := Lib.hid (HJ.out.step hb)
        replace HU := Lib.hid (HU.out.step hb)
        replace HB := Lib.hid (below_trans HB.out hb)
        clear hb
        have c0HS := HS.out.c0
        have c1HS := HS.out.c1
        have c0H6 := H6.out.c0
        have c1H6 := H6.out.c1
        have c0H8 := H8.out.c0
        have c1H8 := H8.out.c1
        have c0HU := HU.out.c0
        have c1HU := HU.out.c1
        go_wp2_with fail
        refine (HO.out _).mono ?_
        rintro e w17 ⟨rfl, hb⟩
        clear c0HS c1HS c0H6 c1H6 c0H8 c1H8 c0HU c1HU
        replace HI := Lib.hid (HI.out.step hb)
        replace HS := Lib.hid (HS.out.step hb)
        replace H6 := Lib.hid (H6.out.step hb)
        replace H8 := Lib.hid (H8.out.step hb)
        replace HJ := Lib.hid (HJ.out.step hb)
        replace HU := Lib.hid (HU.out.step hb)
        replace HB := Lib.hid (below_trans HB.out hb)
        clear hb
        have c0HS := HS.out.c0
        have c1HS := HS.out.c1
        have c0H6 := H6.out.c0
        have c1H6 := H6.out.c1
        have c0H8 := H8.out.c0
        have c1H8 := H8.out.c1
        have c0HU := HU.out.c0
        have c1HU := HU.out.c1
        go_wp2_with fail
        refine (HA3.out _ HI.out).mono ?_
        rintro e w18 ⟨rfl, hb⟩
        clear c0HS c1HS c0H6 c1H6 c0H8 c1H8 c0HU c1HU
        replace HI := Lib.hid (HI.out.step hb)
        replace HS := Lib.hid (HS.out.step hb)
        replace H6 := Lib.hid (H6.out.step hb)
        replace H8 := Lib.hid (H8.out.step hb)
        replace HJ := Lib.hid (HJ.out.step hb)
        replace HU := Lib.hid (HU.out.step hb)
        replace HB := Lib.hid (below_trans HB.out hb)
        clear hb
        have hb : Below w18.heap.size w18 (w18.alloc (.cells #[.int .i64 (y : Int), .int .i64 (x : Int)] 42)) := (Below.refl _ _).alloc (Nat.le_refl _) _
        have H9 := Lib.hid (Two.new w18 (.int .i64 (y : Int)) (.int .i64 (x : Int)) 42 w18.heap.size rfl)
        have g0HS := (HS.out.step hb).c0
        have g1HS := (HS.out.step hb).c1
        have g0H6 := (H6.out.step hb).c0
        have g1H6 := (H6.out.step hb).c1
        have g0H8 := (H8.out.step hb).c0
        have g1H8 := (H8.out.step hb).c1
        have g0HU := (HU.out.step hb).c0
        have g1HU := (HU.out.step hb).c1
        have g0H9 := H9.out.c0
        have g1H9 := H9.out.c1
        go_wp2_with fail
        clear g0HS g1HS g0H6 g1H6 g0H8 g1H8 g0HU g1HU g0H9 g1H9
        replace HI := Lib.hid (HI.out.step hb)
        replace HS := Lib.hid (HS.out.step hb)
        replace H6 := Lib.hid (H6.out.step hb)
        replace H8 := Lib.hid (H8.out.step hb)
        replace HJ := Lib.hid (HJ.out.step hb)
        replace HU := Lib.hid (HU.out.step hb)
        replace HB := Lib.hid (below_trans HB.out hb)
        clear hb
        generalize (w18.alloc (.cells #[.int .i64 (y : Int), .int .i64 (x : Int)] 42)) = w19 at HB HI HS H6 H8 HJ HU H9 ⊢
        have c0HS := HS.out.c0
        have c1HS := HS.out.c1
        have c0H6 := H6.out.c0
        have c1H6 := H6.out.c1
        have c0H8 := H8.out.c0
        have c1H8 := H8.out.c1
        have c0HU := HU.out.c0
        have c1HU := HU.out.c1
        have c0H9 := H9.out.c0
        have c1H9 := H9.out.c1
        have hwxy : IntKind.i64.wrap ((x : Int) + (y : Int)) = (x : Int) + y := IntWalk.i64_in _ (by omega)
        have hwq : IntKind.i64.wrap ((q0 : Int) + 1 - 1) = (q0 : Int) := by rw [show (q0 : Int) + 1 - 1 = q0 by omega]; exact IntWalk.i64_in _ (by omega)
        try have hx5 : ((x : Int) ≤ 2 ^ q0) = False := eq_false (by omega)
        try have hx6 : decide ((x : Int) ≤ 2 ^ q0) = false := decide_eq_false (by omega)
        try have hy5 : ((y : Int) ≤ 2 ^ q0) = False := eq_false (by omega)
        try have hy6 : decide ((y : Int) ≤ 2 ^ q0) = false := decide_eq_false (by omega)
        go_quiet (fail)
        clear hwxy hwq
        have hb : Below w19.heap.size w19 (w19.drewN nq) := below_drewN (Below.refl _ _) _
        generalize w19.drewN nq = w20 at hb ⊢
        clear c0HS c1HS c0H6 c1H6 c0H8 c1H8 c0HU c1HU c0H9 c1H9
        replace HI := Lib.hid (HI.out.step hb)
        replace HS := Lib.hid (HS.out.step hb)
        replace H6 := Lib.hid (H6.out.step hb)
        replace H8 := Lib.hid (H8.out.step hb)
        replace HJ := Lib.hid (HJ.out.step hb)
        replace HU := Lib.hid (HU.out.step hb)
        replace H9 := Lib.hid (H9.out.step hb)
        replace HB := Lib.hid (below_trans HB.out hb)
        clear hb
        have c0HS := HS.out.c0
        have c1HS := HS.out.c1
        have c0H6 := H6.out.c0
        have c1H6 := H6.out.c1
        have c0H8 := H8.out.c0
        have c1H8 := H8.out.c1
        have c0HU := HU.out.c0
        have c1HU := HU.out.c1
        have c0H9 := H9.out.c0
        have c1H9 := H9.out.c1
        go_wp2_with fail
        refine (HAS.out _ HI.out).mono ?_
        rintro e w21 ⟨g, rfl, hins, hb⟩
        clear c0HS c1HS c0H6 c1H6 c0H8 c1H8 c0HU c1HU c0H9 c1H9
        replace HI := Lib.hid (HI.out.step hb)
        replace HS := Lib.hid (HS.out.step hb)
        replace H6 := Lib.hid (H6.out.step hb)
        replace H8 := Lib.hid (H8.out.step hb)
        replace HJ := Lib.hid (HJ.out.step hb)
        replace HU := Lib.hid (HU.out.step hb)
        replace H9 := Lib.hid (H9.out.step hb)
        replace HB := Lib.hid (below_trans HB.out hb)
        clear hb
        have HG := Lib.hid hins
        clear hins
        have hb : Below w21.heap.size w21 (w21.alloc (.cells #[.slice (some ⟨g, 0, none⟩) zs.length zs.length, .int .i64 (M : Int)] 26)) := (Below.refl _ _).alloc (Nat.le_refl _) _
        have HY := Lib.hid (TwoS.new w21 (.slice (some ⟨g, 0, none⟩) zs.length zs.length) (.int .i64 (M : Int)) w21.heap.size rfl)
        have g0HS := (HS.out.step hb).c0
        have g1HS := (HS.out.step hb).c1
        have g0H6 := (H6.out.step hb).c0
        have g1H6 := (H6.out.step hb).c1
        have g0H8 := (H8.out.step hb).c0
        have g1H8 := (H8.out.step hb).c1
        have g0HU := (HU.out.step hb).c0
        have g1HU := (HU.out.step hb).c1
        have g0H9 := (H9.out.step hb).c0
        have g1H9 := (H9.out.step hb).c1
        have g0HY := HY.out.c0
        have g1HY := HY.out.c1
        go_wp2_with fail
        clear g0HS g1HS g0H6 g1H6 g0H8 g1H8 g0HU g1HU g0H9 g1H9 g0HY g1HY
        replace HI := Lib.hid (HI.out.step hb)
        replace HS := Lib.hid (HS.out.step hb)
        replace H6 := Lib.hid (H6.out.step hb)
        replace H8 := Lib.hid (H8.out.step hb)
        replace HJ := Lib.hid (HJ.out.step hb)
        replace HU := Lib.hid (HU.out.step hb)
        replace H9 := Lib.hid (H9.out.step hb)
        replace HG := Lib.hid (HG.out.step hb)
        replace HB := Lib.hid (below_trans HB.out hb)
        clear hb
        generalize (w21.alloc (.cells #[.slice (some ⟨g, 0, none⟩) zs.length zs.length, .int .i64 (M : Int)] 26)) = w22 at HB HI HS H6 H8 HJ HU H9 HG HY ⊢
        try rw [show (q0 : Int) + 1 - 1 = q0 by omega]
        refine (HS2.out _ _ _ _ _ HG.out).mono ?_
        rintro e w23 ⟨rfl, hb⟩
        replace HI := Lib.hid (HI.out.step hb)
        replace HS := Lib.hid (HS.out.step hb)
        replace H6 := Lib.hid (H6.out.step hb)
        replace H8 := Lib.hid (H8.out.step hb)
        replace HJ := Lib.hid (HJ.out.step hb)
        replace HU := Lib.hid (HU.out.step hb)
        replace H9 := Lib.hid (H9.out.step hb)
        replace HG := Lib.hid (HG.out.step hb)
        replace HY := Lib.hid (HY.out.step hb)
        replace HB := Lib.hid (below_trans HB.out hb)
        clear hb
        have c0HS := HS.out.c0
        have c1HS := HS.out.c1
        have c0H6 := H6.out.c0
        have c1H6 := H6.out.c1
        have c0H8 := H8.out.c0
        have c1H8 := H8.out.c1
        have c0HU := HU.out.c0
        have c1HU := HU.out.c1
        have c0H9 := H9.out.c0
        have c1H9 := H9.out.c1
        have c0HY := HY.out.c0
        have c1HY := HY.out.c1
        go_wp2
        all_goals
          go_ret
          exact ⟨rfl, HB.out⟩
  | false =>
    refine (answerWeights_no B c' _ _ zs m kq q _ HI.out hzs hok).mono ?_
    rintro e w3 ⟨rfl, hb⟩
    replace HI := Lib.hid (HI.out.step hb)
    replace HS := Lib.hid (HS.out.step hb)
    replace HB := Lib.hid (below_trans HB.out hb)
    clear hb
    have hb : Below w3.heap.size w3 (w3.alloc (.cells #[.int .i64 0, .int .i64 0] 42)) := (Below.refl _ _).alloc (Nat.le_refl _) _
    have H6 := Lib.hid (Two.new w3 (.int .i64 0) (.int .i64 0) 42 w3.heap.size rfl)
    have g0HS := (HS.out.step hb).c0
    have g1HS := (HS.out.step hb).c1
    have g0H6 := H6.out.c0
    have g1H6 := H6.out.c1
    go_wp2_with fail
    clear g0HS g1HS g0H6 g1H6
    replace HI := Lib.hid (HI.out.step hb)
    replace HS := Lib.hid (HS.out.step hb)
    replace HB := Lib.hid (below_trans HB.out hb)
    clear hb
    generalize (w3.alloc (.cells #[.int .i64 0, .int .i64 0] 42)) = w4 at HB HI HS H6 ⊢
    refine (answerWeights_spec_no B c' _ _ zs m kq q _ HI.out hzs hok).mono ?_
    rintro e w5 ⟨rfl, hb⟩
    replace HI := Lib.hid (HI.out.step hb)
    replace HS := Lib.hid (HS.out.step hb)
    replace H6 := Lib.hid (H6.out.step hb)
    replace HB := Lib.hid (below_trans HB.out hb)
    clear hb
    have hb : Below w5.heap.size w5 (w5.alloc (.cells #[.int .i64 0, .int .i64 0] 42)) := (Below.refl _ _).alloc (Nat.le_refl _) _
    have H8 := Lib.hid (Two.new w5 (.int .i64 0) (.int .i64 0) 42 w5.heap.size rfl)
    have g0HS := (HS.out.step hb).c0
    have g1HS := (HS.out.step hb).c1
    have g0H6 := (H6.out.step hb).c0
    have g1H6 := (H6.out.step hb).c1
    have g0H8 := H8.out.c0
    have g1H8 := H8.out.c1
    go_wp2_with fail
    clear g0HS g1HS g0H6 g1H6 g0H8 g1H8
    replace HI := Lib.hid (HI.out.step hb)
    replace HS := Lib.hid (HS.out.step hb)
    replace H6 := Lib.hid (H6.out.step hb)
    replace HB := Lib.hid (below_trans HB.out hb)
    clear hb
    generalize (w5.alloc (.cells #[.int .i64 0, .int .i64 0] 42)) = w6 at HB HI HS H6 H8 ⊢
    refine (isBalanced_no B c' _ _ zs m kq q _ HI.out hzs hok).mono ?_
    rintro e w7 ⟨rfl, hb⟩
    replace HI := Lib.hid (HI.out.step hb)
    replace HS := Lib.hid (HS.out.step hb)
    replace H6 := Lib.hid (H6.out.step hb)
    replace H8 := Lib.hid (H8.out.step hb)
    replace HB := Lib.hid (below_trans HB.out hb)
    clear hb
    have c0HS := HS.out.c0
    have c1HS := HS.out.c1
    have c0H6 := H6.out.c0
    have c1H6 := H6.out.c1
    have c0H8 := H8.out.c0
    have c1H8 := H8.out.c1
    go_wp2_with fail
    refine (isBalanced_spec_no B c' _ _ zs m kq q _ HI.out hzs hok).mono ?_
    rintro e w8 ⟨rfl, hb⟩
    clear c0HS c1HS c0H6 c1H6 c0H8 c1H8
    replace HI := Lib.hid (HI.out.step hb)
    replace HS := Lib.hid (HS.out.step hb)
    replace H6 := Lib.hid (H6.out.step hb)
    replace H8 := Lib.hid (H8.out.step hb)
    replace HB := Lib.hid (below_trans HB.out hb)
    clear hb
    have c0HS := HS.out.c0
    have c1HS := HS.out.c1
    have c0H6 := H6.out.c0
    have c1H6 := H6.out.c1
    have c0H8 := H8.out.c0
    have c1H8 := H8.out.c1
    go_wp2_with fail
    refine (HCut.out _ HB.out).mono ?_
    rintro e w9 ⟨A2, n2, c2, rfl, hn2, hcode, hb⟩
    clear c0HS c1HS c0H6 c1H6 c0H8 c1H8
    replace HI := Lib.hid (HI.out.step hb)
    replace HS := Lib.hid (HS.out.step hb)
    replace H6 := Lib.hid (H6.out.step hb)
    replace H8 := Lib.hid (H8.out.step hb)
    replace HB := Lib.hid (below_trans HB.out hb)
    clear hb
    have HK := Lib.hid hcode
    clear hcode
    have c0HS := HS.out.c0
    have c1HS := HS.out.c1
    have c0H6 := H6.out.c0
    have c1H6 := H6.out.c1
    have c0H8 := H8.out.c0
    have c1H8 := H8.out.c1
    go_wp2_with fail
    refine (drawEQ_any A2 n2 c2 _ HK.out hn2).mono ?_
    rintro e w10 ⟨ys, D, d', l, v, rfl, hyl, hres, hb⟩
    clear c0HS c1HS c0H6 c1H6 c0H8 c1H8
    replace HI := Lib.hid (HI.out.step hb)
    replace HS := Lib.hid (HS.out.step hb)
    replace H6 := Lib.hid (H6.out.step hb)
    replace H8 := Lib.hid (H8.out.step hb)
    replace HB := Lib.hid (below_trans HB.out hb)
    clear hb
    obtain ⟨lo2, hi2, HJ⟩ : ∃ lo hi, Hid (Ins w10 lo hi D ys) := ⟨_, _, Lib.hid hres.ins⟩
    have hys : ys.length ≤ 1048576 := by omega
    clear hres HK
    have hb : Below w10.heap.size w10 (w10.alloc (.cells #[.slice D ys.length d', .int .i64 l] 26)) := (Below.refl _ _).alloc (Nat.le_refl _) _
    have HU := Lib.hid (TwoS.new w10 (.slice D ys.length d') (.int .i64 l) w10.heap.size rfl)
    have g0HS := (HS.out.step hb).c0
    have g1HS := (HS.out.step hb).c1
    have g0H6 := (H6.out.step hb).c0
    have g1H6 := (H6.out.step hb).c1
    have g0H8 := (H8.out.step hb).c0
    have g1H8 := (H8.out.step hb).c1
    have g0HU := HU.out.c0
    have g1HU := HU.out.c1
    go_wp2_with fail
    clear g0HS g1HS g0H6 g1H6 g0H8 g1H8 g0HU g1HU
    replace HI := Lib.hid (HI.out.step hb)
    replace HS := Lib.hid (HS.out.step hb)
    replace H6 := Lib.hid (H6.out.step hb)
    replace H8 := Lib.hid (H8.out.step hb)
    replace HJ := Lib.hid (HJ.out.step hb)
    replace HB := Lib.hid (below_trans HB.out hb)
    clear hb
    generalize (w10.alloc (.cells #[.slice D ys.length d', .int .i64 l] 26)) = w11 at HB HI HS H6 H8 HJ HU ⊢
    cases hth : asks ys l v with
    | true =>
      obtain ⟨M2, a2, rfl, rfl, ha2, hst2⟩ := asks_nats hth
      have hyl2 := (isSt_len hst2)
      have HEI := Lib.hid (fun W h => evenQuestion_impl D d' lo2 hi2 ys M2 a2 W h hst2 ha2)
      have HES := Lib.hid (fun W h => evenQuestion_spec D d' lo2 hi2 ys M2 a2 W h hst2 ha2)
      have HCI := Lib.hid (fun W h => countBalanced_impl D d' lo2 hi2 ys M2 a2 W h hst2 ha2)
      have HCS := Lib.hid (fun W h => countBalanced_spec D d' lo2 hi2 ys M2 a2 W h hst2 ha2)
      have HEQ := Lib.hid (bestTo_qOK (q := a2) (M := M2) hst2)
      have HBI := Lib.hid (fun W h => isBalanced_impl D d' lo2 hi2 ys M2 a2 _ W h hst2 ha2 HEQ.out)
      rw [even_bal] at HBI
      have hev := cntB_even (q := a2) hst2
      have hcb := cntB_bd a2 M2 ys (2 ^ ys.length)
      have hpn := pow_nat ys.length hyl2.2.1
      clear hst2 hth HEQ hyl2
      generalize cntB a2 M2 ys (2 ^ ys.length) = cn at HCI HCS HBI hev hcb
      generalize ((bestTo (wsN a2 M2 ys) (2 ^ ys.length) : Nat) : Int) = ev at HEI HES HBI
      refine (HEI.out _ HJ.out).mono ?_
      rintro e w12 ⟨rfl, hb⟩
      replace HI := Lib.hid (HI.out.step hb)
      replace HS := Lib.hid (HS.out.step hb)
      replace H6 := Lib.hid (H6.out.step hb)
      replace H8 := Lib.hid (H8.out.step hb)
      replace HJ := Lib.hid (HJ.out.step hb)
      replace HU := Lib.hid (HU.out.step hb)
      replace HB := Lib.hid (below_trans HB.out hb)
      clear hb
      have c0HS := HS.out.c0
      have c1HS := HS.out.c1
      have c0H6 := H6.out.c0
      have c1H6 := H6.out.c1
      have c0H8 := H8.out.c0
      have c1H8 := H8.out.c1
      have c0HU := HU.out.c0
      have c1HU := HU.out.c1
      go_wp2_with fail
      refine (HES.out _ HJ.out).mono ?_
      rintro e w13 ⟨rfl, hb⟩
      clear c0HS c1HS c0H6 c1H6 c0H8 c1H8 c0HU c1HU
      replace HI := Lib.hid (HI.out.step hb)
      replace HS := Lib.hid (HS.out.step hb)
      replace H6 := Lib.hid (H6.out.step hb)
      replace H8 := Lib.hid (H8.out.step hb)
      replace HJ := Lib.hid (HJ.out.step hb)
      replace HU := Lib.hid (HU.out.step hb)
      replace HB := Lib.hid (below_trans HB.out hb)
      clear hb
      have c0HS := HS.out.c0
      have c1HS := HS.out.c1
      have c0H6 := H6.out.c0
      have c1H6 := H6.out.c1
      have c0H8 := H8.out.c0
      have c1H8 := H8.out.c1
      have c0HU := HU.out.c0
      have c1HU := HU.out.c1
      go_wp2_with fail
      refine (HCI.out _ HJ.out).mono ?_
      rintro e w14 ⟨rfl, hb⟩
      clear c0HS c1HS c0H6 c1H6 c0H8 c1H8 c0HU c1HU
      replace HI := Lib.hid (HI.out.step hb)
      replace HS := Lib.hid (HS.out.step hb)
      replace H6 := Lib.hid (H6.out.step hb)
      replace H8 := Lib.hid (H8.out.step hb)
      replace HJ := Lib.hid (HJ.out.step hb)
      replace HU := Lib.hid (HU.out.step hb)
      replace HB := Lib.hid (below_trans HB.out hb)
      clear hb
      have c0HS := HS.out.c0
      have c1HS := HS.out.c1
      have c0H6 := H6.out.c0
      have c1H6 := H6.out.c1
      have c0H8 := H8.out.c0
      have c1H8 := H8.out.c1
      have c0HU := HU.out.c0
      have c1HU := HU.out.c1
      go_wp2_with fail
      refine (HCS.out _ HJ.out).mono ?_
      rintro e w15 ⟨rfl, hb⟩
      clear c0HS c1HS c0H6 c1H6 c0H8 c1H8 c0HU c1HU
      replace HI := Lib.hid (HI.out.step hb)
      replace HS := Lib.hid (HS.out.step hb)
      replace H6 := Lib.hid (H6.out.step hb)
      replace H8 := Lib.hid (H8.out.step hb)
      replace HJ := Lib.hid (HJ.out.step hb)
      replace HU := Lib.hid (HU.out.step hb)
      replace HB := Lib.hid (below_trans HB.out hb)
      clear hb
      have heq := eq_arr2
      have c0HS := HS.out.c0
      have c1HS := HS.out.c1
      have c0H6 := H6.out.c0
      have c1H6 := H6.out.c1
      have c0H8 := H8.out.c0
      have c1H8 := H8.out.c1
      have c0HU := HU.out.c0
      have c1HU := HU.out.c1
      by_cases hcn : 0 < cn
      · rw [decide_eq_true hcn] at HBI
        have hevI : (cn : Int) % 2 = 0 := by omega
        have c0HS := HS.out.c0
        have c1HS := HS.out.c1
        have c0H6 := H6.out.c0
        have c1H6 := H6.out.c1
        have c0H8 := H8.out.c0
        have c1H8 := H8.out.c1
        have c0HU := HU.out.c0
        have c1HU := HU.out.c1
        go_wp2_with fail
        refine (HBI.out _ HJ.out).mono ?_
        rintro e w16 ⟨rfl, hb⟩
        clear c0HS c1HS c0H6 c1H6 c0H8 c1H8 c0HU c1HU
        replace HI := Lib.hid (HI.out.step hb)
        replace HS := Lib.hid (HS.out.step hb)
        replace H6 := Lib.hid (H6.out.step hb)
        replace H8 := Lib.hid (H8.out.step hb)
        replace HJ := Lib.hid (HJ.out.step hb)
        replace HU := Lib.hid (HU.out.step hb)
        replace HB := Lib.hid (below_trans HB.out hb)
        clear hb
        go_wp2
        all_goals
          go_ret
          exact ⟨rfl, HB.out⟩
      · rw [decide_eq_false hcn] at HBI
        have hevI : (cn : Int) % 2 = 0 := by omega
        have c0HS := HS.out.c0
        have c1HS := HS.out.c1
        have c0H6 := H6.out.c0
        have c1H6 := H6.out.c1
        have c0H8 := H8.out.c0
        have c1H8 := H8.out.c1
        have c0HU := HU.out.c0
        have c1HU := HU.out.c1
        go_wp2_with fail
        refine (HBI.out _ HJ.out).mono ?_
        rintro e w16 ⟨rfl, hb⟩
        clear c0HS c1HS c0H6 c1H6 c0H8 c1H8 c0HU c1HU
        replace HI := Lib.hid (HI.out.step hb)
        replace HS := Lib.hid (HS.out.step hb)
        replace H6 := Lib.hid (H6.out.step hb)
        replace H8 := Lib.hid (H8.out.step hb)
        replace HJ := Lib.hid (HJ.out.step hb)
        replace HU := Lib.hid (HU.out.step hb)
        replace HB := Lib.hid (below_trans HB.out hb)
        clear hb
        go_wp2
        all_goals
          go_ret
          exact ⟨rfl, HB.out⟩
    | false =>
      refine (evenQuestion_no D d' _ _ ys l v _ HJ.out hys hth).mono ?_
      rintro e w12 ⟨rfl, hb⟩
      replace HI := Lib.hid (HI.out.step hb)
      replace HS := Lib.hid (HS.out.step hb)
      replace H6 := Lib.hid (H6.out.step hb)
      replace H8 := Lib.hid (H8.out.step hb)
      replace HJ := Lib.hid (HJ.out.step hb)
      replace HU := Lib.hid (HU.out.step hb)
      replace HB := Lib.hid (below_trans HB.out hb)
      clear hb
      have c0HS := HS.out.c0
      have c1HS := HS.out.c1
      have c0H6 := H6.out.c0
      have c1H6 := H6.out.c1
      have c0H8 := H8.out.c0
      have c1H8 := H8.out.c1
      have c0HU := HU.out.c0
      have c1HU := HU.out.c1
      go_wp2_with fail
      refine (evenQuestion_spec_no D d' _ _ ys l v _ HJ.out hys hth).mono ?_
      rintro e w13 ⟨rfl, hb⟩
      clear c0HS c1HS c0H6 c1H6 c0H8 c1H8 c0HU c1HU
      replace HI := Lib.hid (HI.out.step hb)
      replace HS := Lib.hid (HS.out.step hb)
      replace H6 := Lib.hid (H6.out.step hb)
      replace H8 := Lib.hid (H8.out.step hb)
      replace HJ := Lib.hid (HJ.out.step hb)
      replace HU := Lib.hid (HU.out.step hb)
      replace HB := Lib.hid (below_trans HB.out hb)
      clear hb
      have c0HS := HS.out.c0
      have c1HS := HS.out.c1
      have c0H6 := H6.out.c0
      have c1H6 := H6.out.c1
      have c0H8 := H8.out.c0
      have c1H8 := H8.out.c1
      have c0HU := HU.out.c0
      have c1HU := HU.out.c1
      go_wp2_with fail
      refine (countBalanced_no D d' _ _ ys l v _ HJ.out hys hth).mono ?_
      rintro e w14 ⟨rfl, hb⟩
      clear c0HS c1HS c0H6 c1H6 c0H8 c1H8 c0HU c1HU
      replace HI := Lib.hid (HI.out.step hb)
      replace HS := Lib.hid (HS.out.step hb)
      replace H6 := Lib.hid (H6.out.step hb)
      replace H8 := Lib.hid (H8.out.step hb)
      replace HJ := Lib.hid (HJ.out.step hb)
      replace HU := Lib.hid (HU.out.step hb)
      replace HB := Lib.hid (below_trans HB.out hb)
      clear hb
      have c0HS := HS.out.c0
      have c1HS := HS.out.c1
      have c0H6 := H6.out.c0
      have c1H6 := H6.out.c1
      have c0H8 := H8.out.c0
      have c1H8 := H8.out.c1
      have c0HU := HU.out.c0
      have c1HU := HU.out.c1
      go_wp2_with fail
      refine (countBalanced_spec_no D d' _ _ ys l v _ HJ.out hys hth).mono ?_
      rintro e w15 ⟨rfl, hb⟩
      clear c0HS c1HS c0H6 c1H6 c0H8 c1H8 c0HU c1HU
      replace HI := Lib.hid (HI.out.step hb)
      replace HS := Lib.hid (HS.out.step hb)
      replace H6 := Lib.hid (H6.out.step hb)
      replace H8 := Lib.hid (H8.out.step hb)
      replace HJ := Lib.hid (HJ.out.step hb)
      replace HU := Lib.hid (HU.out.step hb)
      replace HB := Lib.hid (below_trans HB.out hb)
      clear hb
      have heq := eq_arr2
      have c0HS := HS.out.c0
      have c1HS := HS.out.c1
      have c0H6 := H6.out.c0
      have c1H6 := H6.out.c1
      have c0H8 := H8.out.c0
      have c1H8 := H8.out.c1
      have c0HU := HU.out.c0
      have c1HU := HU.out.c1
      go_wp2
      all_goals
        go_ret
        exact ⟨rfl, HB.out⟩
end Go.Proofs.Ytdolonmjhlhkeab
