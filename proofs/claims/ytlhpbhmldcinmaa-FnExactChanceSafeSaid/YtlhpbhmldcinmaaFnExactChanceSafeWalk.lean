/- The law FnExactChanceSafe: its walk over the two functions' contracts. -/
import Derived.Test.YtlhpbhmldcinmaaL7s
import Derived.Test.YtlhpbhmldcinmaaOpenD
import Derived.Test.YtlhpbhmldcinmaaPair
import Derived.Deep.CutRange
namespace Go.Proofs.Ytlhpbhmldcinmaa
open Go.RowKit
set_option linter.unusedVariables false

set_option maxRecDepth 100000 in
set_option maxHeartbeats 4000000 in
theorem fnExactChanceSafe_walk (n : Int) (A : Option Addr) (c : Nat) (l : List Int) (a b : Int) (W : World) (wfn : (Lit.int .i64 n).wf = true) (hS : Ints W 0 W.heap.size A l) (hc : l.length ≤ c) (hcm : c ≤ maxLen) (wfa : (Lit.int .i64 a).wf = true) (wfb : (Lit.int .i64 b).wf = true) (hsh : W.ShapedOpen Try.prog) :
    Calls Try.prog 14 #[.int .i64 n, .slice A l.length c, .agg #[.int .i64 a, .int .i64 b]] W fun e w' => e = .returned (.bool true) ∧ Below W.heap.size W w' := by
  clear hsh
  unfold maxLen at hcm
  by_cases hl : l.length ≤ 1048576
  · skip
    obtain ⟨r0, u0, r1, hI, hC⟩ := chanceSafe_both n l hl a b
    have CI := Lib.hid hI
    have CS := Lib.hid hC
    have HD := Lib.hid (fun V => toDoubt_any a b V)
    clear hI hC
    have HI := Lib.hid (Ins.mk hS (Nat.le_refl _))
    have HT := Lib.hid (Two.new W (.int .i64 a) (.int .i64 b) 23 (W.heap.size) rfl)
    have HB := Lib.hid ((Below.refl W.heap.size W).alloc (Nat.le_refl _) (.cells #[.int .i64 a, .int .i64 b] 23))
    replace HI := Lib.hid (HI.out.step HB.out)
    have HC := Lib.hid (fun (V : World) (h : Ins V 0 W.heap.size A l) => toInts_any A c 0 W.heap.size l V h hl)
    clear hS hc hcm
    go_enter Try.func14, Try.ntmps14
    go_wp2_with fail
    generalize W.alloc (.cells #[.int .i64 a, .int .i64 b] 23) = w0 at HT HB HI ⊢
    go_upto_region 3 with fail
    go_cut [7, 8] from 15 to 23 (fun p7 p8 wx => ∃ nb, p7 = .pointer (some ⟨nb, 0, none⟩) ∧ p8 = .bool r1 ∧ w0.heap.size ≤ nb ∧ Hid (Two wx nb (.int .i64 r0) (.int .i64 u0) 28) ∧ Hid (Below w0.heap.size w0 wx))
    case first =>
      have HTd := Lib.hid (HT.out.step (Below.refl _ w0).drew)
      have HTa := Lib.hid (HT.out.step ((Below.refl _ w0).alloc (Nat.le_refl _) (.cells #[.int .i64 0, .int .i64 0] 28)).drew)
      have d0 := HTd.out.c0
      have d1 := HTd.out.c1
      have d2 := HTa.out.c0
      have d3 := HTa.out.c1
      have HNa := Lib.hid ((Two.new w0 (.int .i64 0) (.int .i64 0) 28 w0.heap.size rfl).step (Below.refl _ _).drew)
      go_region_with (first
        | (go_at_call 48; (with_reducible refine (CS.out v2 _ _ _ _ HR_v2.out.ins).mono ?_); rintro e v3 ⟨rfl, hb⟩; have HN_v3 := Lib.hid (HN_v2.out.step hb); have HL_v3 := HL_v2; have q0 := HN_v3.out.c0; have q1 := HN_v3.out.c1; have q2 := HN_v3.out.f0; have q3 := HN_v3.out.f1; have HB_v3 := Lib.hid (below_trans HB_v2.out hb); clear hb)
        | (go_at_call 48; (with_reducible refine (CS.out v2 _ _ _ _ HR_v2.out.ins).mono ?_); rintro e v3 ⟨rfl, hb⟩; have HB_v3 := Lib.hid (below_trans HB_v2.out hb); clear hb)
        | (go_at_call 48; (with_reducible refine (CS.out (v2.alloc (.cells #[.int .i64 0, .int .i64 0] 28)) _ _ _ _ (HR_v2.out.step ((Below.refl _ v2).alloc (Nat.le_refl _) (.cells #[.int .i64 0, .int .i64 0] 28))).ins).mono ?_); rintro e v3 ⟨rfl, hb⟩; have HN_v3 := Lib.hid ((Two.new v2 (.int .i64 0) (.int .i64 0) 28 v2.heap.size rfl).step hb); have HL_v3 := HB_v2.out.size; have q0 := HN_v3.out.c0; have q1 := HN_v3.out.c1; have q2 := HN_v3.out.f0; have q3 := HN_v3.out.f1; have HB_v3 := Lib.hid (below_trans (below_trans HB_v2.out ((Below.refl _ v2).alloc (Nat.le_refl _) (.cells #[.int .i64 0, .int .i64 0] 28))) hb); clear hb)
        | (go_at_call 16; (with_reducible refine (HD.out v1).mono ?_); rintro e v2 ⟨rfl, hb⟩; have HN_v2 := Lib.hid (HN_v1.out.step hb); have HL_v2 := HL_v1; have HB_v2 := Lib.hid (below_trans HB_v1.out hb); have HT_v2 := Lib.hid (HT.out.step HB_v2.out); have x0 := HT_v2.out.c0; have x1 := HT_v2.out.c1; have HTb_v2 := Lib.hid (HT_v2.out.step ((Below.refl _ v2).alloc (Nat.le_refl _) (.cells #[.int .i64 0, .int .i64 0] 28))); have y0 := HTb_v2.out.c0; have y1 := HTb_v2.out.c1; have HR_v2 := Lib.hid (HR_v1.out.step hb); clear hb)
        | (go_at_call 16; (with_reducible refine (HD.out v1).mono ?_); rintro e v2 ⟨rfl, hb⟩; have HB_v2 := Lib.hid (below_trans HB_v1.out hb); have HT_v2 := Lib.hid (HT.out.step HB_v2.out); have x0 := HT_v2.out.c0; have x1 := HT_v2.out.c1; have HTb_v2 := Lib.hid (HT_v2.out.step ((Below.refl _ v2).alloc (Nat.le_refl _) (.cells #[.int .i64 0, .int .i64 0] 28))); have y0 := HTb_v2.out.c0; have y1 := HTb_v2.out.c1; have HR_v2 := Lib.hid (HR_v1.out.step hb); clear hb)
        | (go_at_call 16; (with_reducible refine (HD.out (v1.alloc (.cells #[.int .i64 0, .int .i64 0] 28))).mono ?_); rintro e v2 ⟨rfl, hb⟩; have HB_v2 := Lib.hid (below_trans (below_trans HB_v1.out ((Below.refl _ v1).alloc (Nat.le_refl _) (.cells #[.int .i64 0, .int .i64 0] 28))) hb); have HT_v2 := Lib.hid (HT.out.step HB_v2.out); have x0 := HT_v2.out.c0; have x1 := HT_v2.out.c1; have HTb_v2 := Lib.hid (HT_v2.out.step ((Below.refl _ v2).alloc (Nat.le_refl _) (.cells #[.int .i64 0, .int .i64 0] 28))); have y0 := HTb_v2.out.c0; have y1 := HTb_v2.out.c1; have HN_v2 := Lib.hid ((Two.new v1 (.int .i64 0) (.int .i64 0) 28 v1.heap.size rfl).step hb); have HL_v2 := HB_v1.out.size; have HR_v2 := Lib.hid (HR_v1.out.step (below_trans ((Below.refl _ v1).alloc (Nat.le_refl _) (.cells #[.int .i64 0, .int .i64 0] 28)) hb)); clear hb)
        | (go_at_call 45; (with_reducible refine (HC.out _ (HI.out.step (Below.refl _ w0).drew)).mono ?_); rintro e v1 ⟨Bw, rfl, hr, hb⟩; have HB_v1 := Lib.hid (below_trans (Below.refl _ w0).drew hb); have HT_v1 := Lib.hid (HT.out.step HB_v1.out); have x0 := HT_v1.out.c0; have x1 := HT_v1.out.c1; have HTb_v1 := Lib.hid (HT_v1.out.step ((Below.refl _ v1).alloc (Nat.le_refl _) (.cells #[.int .i64 0, .int .i64 0] 28))); have y0 := HTb_v1.out.c0; have y1 := HTb_v1.out.c1; have HR_v1 := Lib.hid hr; clear hr hb)
        | (go_at_call 45; (with_reducible refine (HC.out _ (HI.out.step ((Below.refl _ w0).alloc (Nat.le_refl _) (.cells #[.int .i64 0, .int .i64 0] 28)).drew)).mono ?_); rintro e v1 ⟨Bw, rfl, hr, hb⟩; have HB_v1 := Lib.hid (below_trans ((Below.refl _ w0).alloc (Nat.le_refl _) (.cells #[.int .i64 0, .int .i64 0] 28)).drew hb); have HT_v1 := Lib.hid (HT.out.step HB_v1.out); have x0 := HT_v1.out.c0; have x1 := HT_v1.out.c1; have HTb_v1 := Lib.hid (HT_v1.out.step ((Below.refl _ v1).alloc (Nat.le_refl _) (.cells #[.int .i64 0, .int .i64 0] 28))); have y0 := HTb_v1.out.c0; have y1 := HTb_v1.out.c1; have HN_v1 := Lib.hid (HNa.out.step hb); have HL_v1 := Nat.le_refl w0.heap.size; have HR_v1 := Lib.hid hr; clear hr hb))
      all_goals
        go_wp2_with fail
        go_meet
        first
          | exact ⟨_, rfl, rfl, HL_v3, Lib.hid ⟨(stored2 HN_v3.out.row (.int .i64 r0) (.int .i64 u0)).1⟩, Lib.hid (HB_v3.out.trans ((stored2 HN_v3.out.row (.int .i64 r0) (.int .i64 u0)).2.below HL_v3 HB_v3.out.size))⟩
          | exact ⟨_, rfl, rfl, HB_v3.out.size, Lib.hid (Two.new v3 (.int .i64 r0) (.int .i64 u0) 28 _ rfl), Lib.hid (HB_v3.out.alloc HB_v3.out.size _)⟩
    case rest =>
      obtain ⟨nb, rfl, rfl, hnb, HN, HBx⟩ := hcut
      rename World => w20
      replace HT := Lib.hid (HT.out.step HBx.out)
      replace HI := Lib.hid (HI.out.step HBx.out)
      replace HB := Lib.hid (below_trans HB.out HBx.out)
      clear HBx CS
      go_wp2_with fail
      with_reducible refine (HC.out _ HI.out).mono ?_
      rintro e w21 ⟨Bx, rfl, hr, hb⟩
      replace HT := Lib.hid (HT.out.step hb)
      replace HB := Lib.hid (below_trans HB.out hb)
      replace HI := Lib.hid (HI.out.step hb)
      replace HN := Lib.hid (HN.out.step hb)
      have HR := Lib.hid hr
      clear hr
      clear hb
      have h0 := HT.out.c0
      have h1 := HT.out.c1
      go_wp2_with fail
      with_reducible refine (HD.out _).mono ?_
      rintro e w22 ⟨rfl, hb⟩
      replace HT := Lib.hid (HT.out.step hb)
      replace HB := Lib.hid (below_trans HB.out hb)
      replace HI := Lib.hid (HI.out.step hb)
      replace HN := Lib.hid (HN.out.step hb)
      replace HR := Lib.hid (HR.out.step hb)
      replace h0 := HT.out.c0
      replace h1 := HT.out.c1
      clear hb
      go_wp2_with fail
      with_reducible refine (CI.out _ _ _ _ _ HR.out.ins).mono ?_
      rintro e w23 ⟨rfl, hb⟩
      replace HT := Lib.hid (HT.out.step hb)
      replace HB := Lib.hid (below_trans HB.out hb)
      replace HI := Lib.hid (HI.out.step hb)
      replace HN := Lib.hid (HN.out.step hb)
      replace HR := Lib.hid (HR.out.step hb)
      replace h0 := HT.out.c0
      replace h1 := HT.out.c1
      clear hb
      clear h0 h1
      have hb2 := (Below.refl _ w23).alloc (Nat.le_refl _) (.cells #[.int .i64 r0, .int .i64 u0] 28)
      have HM := Lib.hid (Two.new w23 (.int .i64 r0) (.int .i64 u0) 28 w23.heap.size rfl)
      replace HT := Lib.hid (HT.out.step hb2)
      replace HB := Lib.hid (below_trans HB.out hb2)
      replace HI := Lib.hid (HI.out.step hb2)
      replace HN := Lib.hid (HN.out.step hb2)
      replace HR := Lib.hid (HR.out.step hb2)
      have m0 := HN.out.c0
      have m1 := HN.out.c1
      have k0 := HM.out.c0
      have k1 := HM.out.c1
      clear hb2
      go_wp2_with fail
      generalize w23.alloc (.cells #[.int .i64 r0, .int .i64 u0] 28) = w40 at HM HT HB HI HN HR m0 m1 k0 k1 ⊢
      with_reducible refine (eqIntA2_same7 r0 u0 _).mono ?_
      rintro e w41 ⟨rfl, hb⟩
      replace HT := Lib.hid (HT.out.step hb)
      replace HB := Lib.hid (below_trans HB.out hb)
      replace HI := Lib.hid (HI.out.step hb)
      replace HN := Lib.hid (HN.out.step hb)
      replace HR := Lib.hid (HR.out.step hb)
      clear hb
      clear m0 m1 k0 k1 HM HN
      go_wp2_with fail
      with_reducible refine (HC.out _ HI.out).mono ?_
      rintro e w42 ⟨By, rfl, hr, hb⟩
      replace HT := Lib.hid (HT.out.step hb)
      replace HB := Lib.hid (below_trans HB.out hb)
      replace HI := Lib.hid (HI.out.step hb)
      replace HR := Lib.hid (HR.out.step hb)
      have HR2 := Lib.hid hr
      clear hr
      clear hb
      go_wp2_with fail
      with_reducible refine (eqInts_same Bx By l.length l.length _ _ _ _ l _ HR.out.ins HR2.out.ins hl).mono ?_
      rintro e w43 ⟨rfl, hb⟩
      replace HT := Lib.hid (HT.out.step hb)
      replace HB := Lib.hid (below_trans HB.out hb)
      replace HI := Lib.hid (HI.out.step hb)
      replace HR := Lib.hid (HR.out.step hb)
      replace HR2 := Lib.hid (HR2.out.step hb)
      clear hb
      go_wp2
      go_ret
      exact ⟨rfl, HB.out⟩
  · skip
    have HT := Lib.hid (Two.new W (.int .i64 a) (.int .i64 b) 23 (W.heap.size) rfl)
    have HB := Lib.hid ((Below.refl W.heap.size W).alloc (Nat.le_refl _) (.cells #[.int .i64 a, .int .i64 b] 23))
    clear hS
    go_enter Try.func14, Try.ntmps14
    go_wp2
    go_ret
    exact ⟨rfl, HB.out⟩

end Go.Proofs.Ytlhpbhmldcinmaa
