/- The law FnExactLikeliestAfter: its walk over the two functions' contracts. -/
import Derived.Test.YtbgdnidbdfhgjabL7x
import Derived.Test.YtbgdnidbdfhgjabOpenD
import Derived.Test.YtbgdnidbdfhgjabOpenA
namespace Go.Proofs.Ytbgdnidbdfhgjab
open Go.RowKit
set_option linter.unusedVariables false

set_option maxRecDepth 100000 in
set_option maxHeartbeats 4000000 in
theorem fnExactLikeliestAfter_walk (n : Int) (A : Option Addr) (c : Nat) (l : List (Int × Bool)) (a b : Int) (W : World) (wfn : (Lit.int .i64 n).wf = true) (hS : Asks W 0 W.heap.size A l) (hc : l.length ≤ c) (hcm : c ≤ maxLen) (wfa : (Lit.int .i64 a).wf = true) (wfb : (Lit.int .i64 b).wf = true) (hsh : W.ShapedOpen Try.prog) :
    Calls Try.prog 4 #[.int .i64 n, .slice A l.length c, .agg #[.int .i64 a, .int .i64 b]] W fun e w' => e = .returned (.bool true) ∧ Below W.heap.size W w' := by
  clear hsh
  unfold maxLen at hcm
  by_cases hl : l.length ≤ 1048576
  · skip
    obtain ⟨r0, r1, hI, hC⟩ := likeliestAfter_both n l hl a b
    have CI := Lib.hid hI
    have CS := Lib.hid hC
    have HD := Lib.hid (fun W => toDoubt_any a b W)
    clear hI hC
    have HI := Lib.hid (AIns.mk hS (Nat.le_refl _))
    have HT := Lib.hid (Two.new W (.int .i64 a) (.int .i64 b) 24 (W.heap.size) rfl)
    have HB := Lib.hid ((Below.refl W.heap.size W).alloc (Nat.le_refl _) (.cells #[.int .i64 a, .int .i64 b] 24))
    replace HI := Lib.hid (HI.out.step HB.out)
    have HC := Lib.hid (fun (w : World) (h : AIns w 0 W.heap.size A l) => toAskedS_any A c 0 W.heap.size l w h hl)
    have C0 := Lib.hid (fun V => szAskedS_any A c l.length 1048576 V (by unfold maxLen; omega) (by omega))
    rw [szI_yes hl] at C0
    clear hS hc hcm
    go_enter Try.func4, Try.ntmps4
    go_wp2_with fail
    generalize W.alloc (.cells #[.int .i64 a, .int .i64 b] 24) = w0 at HT HB HI ⊢
    refine (C0.out _).mono ?_
    rintro e w1 ⟨rfl, hb⟩
    replace HT := Lib.hid (HT.out.step hb)
    replace HB := Lib.hid (below_trans HB.out hb)
    replace HI := Lib.hid (HI.out.step hb)
    clear hb
    clear C0
    go_wp2_with fail
    go_region_held3 (fun w' => w'.cell? ⟨W.heap.size, 0, none⟩ = some (.int .i64 a) ∧ w'.cell? ⟨W.heap.size, 1, none⟩ = some (.int .i64 b))
      (first
       | exact ⟨(HT.out.step (Below.refl _ w1).drew).c0, (HT.out.step (Below.refl _ w1).drew).c1⟩
       | exact ⟨(HT_1.out).c0, (HT_1.out).c1⟩
       | exact ⟨(HT_2.out).c0, (HT_2.out).c1⟩
       | exact ⟨(HT_3.out).c0, (HT_3.out).c1⟩)
      (first
       | (go_at_call 18; (with_reducible refine (CS.out v2 _ _ _ _ HR_2.out.ins).mono ?_); rintro e v3 ⟨rfl, hb⟩; have HZ3 := Lib.hid (below_trans HZ2.out hb); have HT_3 := Lib.hid (HT.out.step HZ3.out); have HB_3 := Lib.hid (below_trans HB.out HZ3.out); have HI_3 := Lib.hid (HI.out.step HZ3.out); clear hb)
       | (go_at_call 11; (with_reducible refine (HD.out v1).mono ?_); rintro e v2 ⟨rfl, hb⟩; have HZ2 := Lib.hid (below_trans HZ1.out hb); have HT_2 := Lib.hid (HT.out.step HZ2.out); have HB_2 := Lib.hid (below_trans HB.out HZ2.out); have HI_2 := Lib.hid (HI.out.step HZ2.out); have HR_2 := Lib.hid (HR_1.out.step hb); clear hb)
       | (go_at_call 10; (with_reducible refine (HC.out w1.drew (HI.out.step (Below.refl _ w1).drew)).mono ?_); rintro e v1 ⟨Bw, rfl, hr, hb⟩; have HZ1 := Lib.hid (below_trans (Below.refl _ w1).drew hb); have HT_1 := Lib.hid (HT.out.step HZ1.out); have HB_1 := Lib.hid (below_trans HB.out HZ1.out); have HI_1 := Lib.hid (HI.out.step HZ1.out); have HR_1 := Lib.hid hr; clear hr; clear hb))
    all_goals
      clear HT HI HB HT_1 HI_1 HB_1 HZ1 HT_2 HI_2 HB_2 HZ2 HZ3 HR_1 HR_2 CS
      have HT := HT_3
      have HI := HI_3
      have HB := HB_3
      clear HT_3 HI_3 HB_3
      generalize v3 = w20 at HT HI HB ⊢
      go_wp2_with fail
      with_reducible refine (HC.out _ HI.out).mono ?_
      rintro e w21 ⟨Bx, rfl, hr, hb⟩
      replace HT := Lib.hid (HT.out.step hb)
      replace HB := Lib.hid (below_trans HB.out hb)
      replace HI := Lib.hid (HI.out.step hb)
      have HR := Lib.hid hr
      clear hr
      clear hb
      have h0 := HT.out.c0
      have h1 := HT.out.c1
      go_wp2_with fail
      with_reducible refine (HD.out _).mono ?_
      rintro e w22 ⟨rfl, hb⟩
      replace HT := Lib.hid (HT.out.step hb)
      replace HB := Lib.hid (below_trans HB.out hb)
      replace HI := Lib.hid (HI.out.step hb)
      replace HR := Lib.hid (HR.out.step hb)
      replace h0 := HT.out.c0
      replace h1 := HT.out.c1
      clear hb
      go_wp2_with fail
      with_reducible refine (CI.out _ _ _ _ _ HR.out.ins).mono ?_
      rintro e w23 ⟨rfl, hb⟩
      replace HT := Lib.hid (HT.out.step hb)
      replace HB := Lib.hid (below_trans HB.out hb)
      replace HI := Lib.hid (HI.out.step hb)
      replace HR := Lib.hid (HR.out.step hb)
      replace h0 := HT.out.c0
      replace h1 := HT.out.c1
      clear hb
      clear h0 h1
      go_wp2_with fail
      with_reducible refine (HC.out _ HI.out).mono ?_
      rintro e w24 ⟨By, rfl, hr, hb⟩
      replace HT := Lib.hid (HT.out.step hb)
      replace HB := Lib.hid (below_trans HB.out hb)
      replace HI := Lib.hid (HI.out.step hb)
      replace HR := Lib.hid (HR.out.step hb)
      have HR2 := Lib.hid hr
      clear hr
      clear hb
      go_wp2_with fail
      with_reducible refine (eqAskedS_same Bx By l.length l.length _ _ _ _ l _ HR.out.ins HR2.out.ins hl).mono ?_
      rintro e w25 ⟨rfl, hb⟩
      replace HT := Lib.hid (HT.out.step hb)
      replace HB := Lib.hid (below_trans HB.out hb)
      replace HI := Lib.hid (HI.out.step hb)
      replace HR := Lib.hid (HR.out.step hb)
      replace HR2 := Lib.hid (HR2.out.step hb)
      clear hb
      go_wp2
      go_ret
      exact ⟨rfl, HB.out⟩
  · skip
    have C0 := Lib.hid (fun V => szAskedS_any A c l.length 1048576 V (by unfold maxLen; omega) (by omega))
    rw [szI_no (by omega)] at C0
    have HT := Lib.hid (Two.new W (.int .i64 a) (.int .i64 b) 24 (W.heap.size) rfl)
    have HB := Lib.hid ((Below.refl W.heap.size W).alloc (Nat.le_refl _) (.cells #[.int .i64 a, .int .i64 b] 24))
    go_enter Try.func4, Try.ntmps4
    go_wp2_with fail
    generalize W.alloc (.cells #[.int .i64 a, .int .i64 b] 24) = w0 at HT HB ⊢
    refine (C0.out _).mono ?_
    rintro e w1 ⟨rfl, hb⟩
    replace HT := Lib.hid (HT.out.step hb)
    replace HB := Lib.hid (below_trans HB.out hb)
    clear hb
    go_wp2
    go_ret
    exact ⟨rfl, HB.out⟩

end Go.Proofs.Ytbgdnidbdfhgjab
