/- The law FnExactChancesAfter: its walk over the two functions' contracts. -/
import Derived.Test.YtbgdnidbdfhgjabL7q
import Derived.Test.YtbgdnidbdfhgjabOpenD
import Derived.Test.YtbgdnidbdfhgjabOpenA
import Derived.Test.YtbgdnidbdfhgjabFewB
namespace Go.Proofs.Ytbgdnidbdfhgjab
open Go.RowKit
set_option linter.unusedVariables false

set_option maxRecDepth 100000 in
set_option maxHeartbeats 4000000 in
theorem fnExactChancesAfter_walk (n : Int) (A : Option Addr) (c : Nat) (l : List (Int × Bool)) (a b : Int) (W : World) (wfn : (Lit.int .i64 n).wf = true) (hS : Asks W 0 W.heap.size A l) (hc : l.length ≤ c) (hcm : c ≤ maxLen) (wfa : (Lit.int .i64 a).wf = true) (wfb : (Lit.int .i64 b).wf = true) (hsh : W.ShapedOpen Try.prog) :
    Calls Try.prog 3 #[.int .i64 n, .slice A l.length c, .agg #[.int .i64 a, .int .i64 b]] W fun e w' => e = .returned (.bool true) ∧ Below W.heap.size W w' := by
  clear hsh
  unfold maxLen at hcm
  by_cases hl : l.length ≤ 1048576
  · skip
    obtain ⟨hI, hC⟩ := chancesAfter_both n l hl a b
    have hL := chL_le n l a b
    generalize chL n l a b = L at hI hC hL
    generalize chB n l a b = y at hI hC
    have CI := Lib.hid (fun w A c lo hi h => hI A c lo hi w h)
    have CS := Lib.hid (fun w A c lo hi h => hC A c lo hi w h)
    have HL : Hid (L.length ≤ 1048576) := Lib.hid (by omega)
    have HD := Lib.hid (fun W => toDoubt_any a b W)
    clear hI hC hL
    have HI := Lib.hid (AIns.mk hS (Nat.le_refl _))
    have HT := Lib.hid (Two.new W (.int .i64 a) (.int .i64 b) 24 (W.heap.size) rfl)
    have HB := Lib.hid ((Below.refl W.heap.size W).alloc (Nat.le_refl _) (.cells #[.int .i64 a, .int .i64 b] 24))
    replace HI := Lib.hid (HI.out.step HB.out)
    have HC := Lib.hid (fun (w : World) (h : AIns w 0 W.heap.size A l) => toAskedS_any A c 0 W.heap.size l w h hl)
    have C0 := Lib.hid (fun V => szAskedS_any A c l.length 1048576 V (by unfold maxLen; omega) (by omega))
    rw [szI_yes hl] at C0
    clear hS hc hcm
    go_enter Try.func3, Try.ntmps3
    go_wp2_with fail
    generalize W.alloc (.cells #[.int .i64 a, .int .i64 b] 24) = w0 at HT HB HI ⊢
    refine (C0.out _).mono ?_
    rintro e w1 ⟨rfl, hb⟩
    replace HT := Lib.hid (HT.out.step hb)
    replace HB := Lib.hid (below_trans HB.out hb)
    replace HI := Lib.hid (HI.out.step hb)
    clear hb
    clear C0
    go_wp2_with fail
    go_region_held3 (fun w' => w'.cell? ⟨W.heap.size, 0, none⟩ = some (.int .i64 a) ∧ w'.cell? ⟨W.heap.size, 1, none⟩ = some (.int .i64 b))
      (first
       | exact ⟨(HT.out.step (Below.refl _ w1).drew).c0, (HT.out.step (Below.refl _ w1).drew).c1⟩
       | exact ⟨(HT_1.out).c0, (HT_1.out).c1⟩
       | exact ⟨(HT_2.out).c0, (HT_2.out).c1⟩
       | exact ⟨(HT_3.out).c0, (HT_3.out).c1⟩)
      (first
       | (go_at_call 9; (with_reducible refine (CS.out v2 _ _ _ _ HR_2.out.ins).mono ?_); rintro e v3 ⟨Bs, ds, rfl, hp, hb⟩; have HZ3 := Lib.hid (below_trans HZ2.out hb); have HT_3 := Lib.hid (HT.out.step HZ3.out); have HB_3 := Lib.hid (below_trans HB.out HZ3.out); have HI_3 := Lib.hid (HI.out.step HZ3.out); have HS_3 := Lib.hid (hp.wide HB_2.out.size); clear hp; clear hb)
       | (go_at_call 11; (with_reducible refine (HD.out v1).mono ?_); rintro e v2 ⟨rfl, hb⟩; have HZ2 := Lib.hid (below_trans HZ1.out hb); have HT_2 := Lib.hid (HT.out.step HZ2.out); have HB_2 := Lib.hid (below_trans HB.out HZ2.out); have HI_2 := Lib.hid (HI.out.step HZ2.out); have HR_2 := Lib.hid (HR_1.out.step hb); clear hb)
       | (go_at_call 10; (with_reducible refine (HC.out w1.drew (HI.out.step (Below.refl _ w1).drew)).mono ?_); rintro e v1 ⟨Bw, rfl, hr, hb⟩; have HZ1 := Lib.hid (below_trans (Below.refl _ w1).drew hb); have HT_1 := Lib.hid (HT.out.step HZ1.out); have HB_1 := Lib.hid (below_trans HB.out HZ1.out); have HI_1 := Lib.hid (HI.out.step HZ1.out); have HR_1 := Lib.hid hr; clear hr; clear hb))
    all_goals
      clear HT HI HB HT_1 HI_1 HB_1 HZ1 HT_2 HI_2 HB_2 HZ2 HZ3 HR_1 HR_2 CS
      have HT := HT_3
      have HI := HI_3
      have HB := HB_3
      have HS := HS_3
      clear HT_3 HI_3 HB_3 HS_3
      generalize v3 = w20 at HT HI HB HS ⊢
      have Z0 := Lib.hid HT.out.lt
      go_wp2_with fail
      with_reducible refine (HC.out _ HI.out).mono ?_
      rintro e w21 ⟨Bx, rfl, hr, hb⟩
      replace HT := Lib.hid (HT.out.step hb)
      replace HB := Lib.hid (below_trans HB.out hb)
      replace HI := Lib.hid (HI.out.step hb)
      replace HS := Lib.hid (HS.out.step hb)
      have HR := Lib.hid hr
      clear hr
      have Z1 := Lib.hid hb.size
      clear hb
      have h0 := HT.out.c0
      have h1 := HT.out.c1
      go_wp2_with fail
      with_reducible refine (HD.out _).mono ?_
      rintro e w22 ⟨rfl, hb⟩
      replace HT := Lib.hid (HT.out.step hb)
      replace HB := Lib.hid (below_trans HB.out hb)
      replace HI := Lib.hid (HI.out.step hb)
      replace HS := Lib.hid (HS.out.step hb)
      replace HR := Lib.hid (HR.out.step hb)
      replace h0 := HT.out.c0
      replace h1 := HT.out.c1
      have Z2 := Lib.hid hb.size
      clear hb
      go_wp2_with fail
      with_reducible refine (CI.out _ _ _ _ _ HR.out.ins).mono ?_
      rintro e w23 ⟨Bi, di, rfl, hp, hb⟩
      replace HT := Lib.hid (HT.out.step hb)
      replace HB := Lib.hid (below_trans HB.out hb)
      replace HI := Lib.hid (HI.out.step hb)
      replace HS := Lib.hid (HS.out.step hb)
      replace HR := Lib.hid (HR.out.step hb)
      replace h0 := HT.out.c0
      replace h1 := HT.out.c1
      have HP := Lib.hid hp
      clear hp
      have Z3 := Lib.hid hb.size
      clear hb
      clear h0 h1
      go_wp2_with fail
      with_reducible refine (eqPrs_same Bi Bs di ds _ _ _ _ L _ HP.out.ins HS.out.ins HL.out).mono ?_
      rintro e w24 ⟨rfl, hb⟩
      replace HT := Lib.hid (HT.out.step hb)
      replace HB := Lib.hid (below_trans HB.out hb)
      replace HI := Lib.hid (HI.out.step hb)
      replace HS := Lib.hid (HS.out.step hb)
      replace HR := Lib.hid (HR.out.step hb)
      replace HP := Lib.hid (HP.out.step hb)
      clear hb
      go_wp2_with fail
      with_reducible refine (HC.out _ HI.out).mono ?_
      rintro e w25 ⟨By, rfl, hr, hb⟩
      replace HT := Lib.hid (HT.out.step hb)
      replace HB := Lib.hid (below_trans HB.out hb)
      replace HI := Lib.hid (HI.out.step hb)
      replace HS := Lib.hid (HS.out.step hb)
      replace HR := Lib.hid (HR.out.step hb)
      replace HP := Lib.hid (HP.out.step hb)
      have HR2 := Lib.hid hr
      clear hr
      clear hb
      go_wp2_with fail
      with_reducible refine (eqAskedS_same Bx By l.length l.length _ _ _ _ l _ HR.out.ins HR2.out.ins hl).mono ?_
      rintro e w26 ⟨rfl, hb⟩
      replace HT := Lib.hid (HT.out.step hb)
      replace HB := Lib.hid (below_trans HB.out hb)
      replace HI := Lib.hid (HI.out.step hb)
      replace HS := Lib.hid (HS.out.step hb)
      replace HR := Lib.hid (HR.out.step hb)
      replace HP := Lib.hid (HP.out.step hb)
      replace HR2 := Lib.hid (HR2.out.step hb)
      clear hb
      clear HR2
      go_wp2_with fail
      with_reducible refine (markAskedS_any Bx l.length _ _ l _ HR.out hl).mono ?_
      rintro e w27 ⟨rfl, hm, hw⟩
      have ZZ : W.heap.size < w20.heap.size ∧ w20.heap.size ≤ w21.heap.size ∧ w21.heap.size ≤ w22.heap.size ∧ w22.heap.size ≤ w23.heap.size := ⟨Z0.out, Z1.out, Z2.out, Z3.out⟩
      replace HT := Lib.hid (HT.out.within hw (by omega))
      replace HI := Lib.hid (HI.out.within hw (by omega))
      replace HS := Lib.hid (HS.out.within hw (by omega))
      replace HP := Lib.hid (HP.out.within hw (by omega))
      replace HB := Lib.hid (HB.out.trans (hw.below (by omega) HB.out.size))
      clear hm hw ZZ
      clear HR
      go_wp2_with fail
      with_reducible refine (eqPrs_same Bi Bs di ds _ _ _ _ L _ HP.out.ins HS.out.ins HL.out).mono ?_
      rintro e w28 ⟨rfl, hb⟩
      replace HT := Lib.hid (HT.out.step hb)
      replace HB := Lib.hid (below_trans HB.out hb)
      replace HI := Lib.hid (HI.out.step hb)
      replace HS := Lib.hid (HS.out.step hb)
      replace HP := Lib.hid (HP.out.step hb)
      clear hb
      go_wp2_with fail
      with_reducible refine (markPMade_any Bi di _ _ L _ HP.out HL.out).mono ?_
      rintro e w29 ⟨rfl, hm, hw⟩
      have ZZ : W.heap.size < w20.heap.size ∧ w20.heap.size ≤ w21.heap.size ∧ w21.heap.size ≤ w22.heap.size ∧ w22.heap.size ≤ w23.heap.size := ⟨Z0.out, Z1.out, Z2.out, Z3.out⟩
      replace HT := Lib.hid (HT.out.within hw (by omega))
      replace HI := Lib.hid (HI.out.within hw (by omega))
      replace HS := Lib.hid (HS.out.within hw (by omega))
      replace HB := Lib.hid (HB.out.trans (hw.below (by omega) HB.out.size))
      have HM := Lib.hid hm
      clear hm hw ZZ
      clear HP
      go_wp2_with fail
      with_reducible refine (heldPMade_any Bi di _ _ L.length _ HM.out HL.out).mono ?_
      rintro e w30 ⟨rfl, hb⟩
      replace HT := Lib.hid (HT.out.step hb)
      replace HB := Lib.hid (below_trans HB.out hb)
      replace HI := Lib.hid (HI.out.step hb)
      replace HS := Lib.hid (HS.out.step hb)
      replace HM := Lib.hid (HM.out.step hb)
      clear hb
      clear Z0 Z1 Z2 Z3
      go_wp2_with fail
      go_region_held3 (fun w' => w'.cell? ⟨W.heap.size, 0, none⟩ = some (.int .i64 a) ∧ w'.cell? ⟨W.heap.size, 1, none⟩ = some (.int .i64 b))
        (first
         | exact ⟨(HT.out.step (Below.refl _ w30).drew).c0, (HT.out.step (Below.refl _ w30).drew).c1⟩
         | exact ⟨(HT_1.out).c0, (HT_1.out).c1⟩
         | exact ⟨(HT_2.out).c0, (HT_2.out).c1⟩
         | exact ⟨(HT_3.out).c0, (HT_3.out).c1⟩)
        (first
         | (go_at_call 12; (with_reducible refine (CI.out v2 _ _ _ _ HR_2.out.ins).mono ?_); rintro e v3 ⟨Bh, dh, rfl, hp, hb⟩; have HZ3 := Lib.hid (below_trans HZ2.out hb); have HT_3 := Lib.hid (HT.out.step HZ3.out); have HB_3 := Lib.hid (below_trans HB.out HZ3.out); have HI_3 := Lib.hid (HI.out.step HZ3.out); have HS_3 := Lib.hid (HS.out.step HZ3.out); have HM_3 := Lib.hid (HM.out.step HZ3.out); have HP_3 := Lib.hid hp; clear hp; clear hb)
         | (go_at_call 11; (with_reducible refine (HD.out v1).mono ?_); rintro e v2 ⟨rfl, hb⟩; have HZ2 := Lib.hid (below_trans HZ1.out hb); have HT_2 := Lib.hid (HT.out.step HZ2.out); have HB_2 := Lib.hid (below_trans HB.out HZ2.out); have HI_2 := Lib.hid (HI.out.step HZ2.out); have HS_2 := Lib.hid (HS.out.step HZ2.out); have HM_2 := Lib.hid (HM.out.step HZ2.out); have HR_2 := Lib.hid (HR_1.out.step hb); clear hb)
         | (go_at_call 10; (with_reducible refine (HC.out w30.drew (HI.out.step (Below.refl _ w30).drew)).mono ?_); rintro e v1 ⟨Bw2, rfl, hr, hb⟩; have HZ1 := Lib.hid (below_trans (Below.refl _ w30).drew hb); have HT_1 := Lib.hid (HT.out.step HZ1.out); have HB_1 := Lib.hid (below_trans HB.out HZ1.out); have HI_1 := Lib.hid (HI.out.step HZ1.out); have HS_1 := Lib.hid (HS.out.step HZ1.out); have HM_1 := Lib.hid (HM.out.step HZ1.out); have HR_1 := Lib.hid hr; clear hr; clear hb))
      all_goals
        clear HT HI HB HS HM HT_1 HI_1 HB_1 HS_1 HM_1 HZ1 HT_2 HI_2 HB_2 HS_2 HM_2 HZ2 HZ3 HR_1 HR_2 CI
        have HB := HB_3
        have HS := HS_3
        have HM := HM_3
        have HP := HP_3
        clear HT_3 HI_3 HB_3 HS_3 HM_3 HP_3
        generalize v3 = w60 at HB HS HM HP ⊢
        go_wp2_with fail
        with_reducible refine (eqPrs_same Bh Bs dh ds _ _ _ _ L _ HP.out.ins HS.out.ins HL.out).mono ?_
        rintro e w61 ⟨rfl, hb⟩
        replace HB := Lib.hid (below_trans HB.out hb)
        replace HS := Lib.hid (HS.out.step hb)
        replace HM := Lib.hid (HM.out.step hb)
        replace HP := Lib.hid (HP.out.step hb)
        clear hb
        clear HP HS
        go_wp2_with fail
        with_reducible refine (heldPMade_any Bi di _ _ L.length _ HM.out HL.out).mono ?_
        rintro e w62 ⟨rfl, hb⟩
        replace HB := Lib.hid (below_trans HB.out hb)
        replace HM := Lib.hid (HM.out.step hb)
        clear hb
        go_wp2
        go_ret
        exact ⟨rfl, HB.out⟩
  · skip
    have C0 := Lib.hid (fun V => szAskedS_any A c l.length 1048576 V (by unfold maxLen; omega) (by omega))
    rw [szI_no (by omega)] at C0
    have HT := Lib.hid (Two.new W (.int .i64 a) (.int .i64 b) 24 (W.heap.size) rfl)
    have HB := Lib.hid ((Below.refl W.heap.size W).alloc (Nat.le_refl _) (.cells #[.int .i64 a, .int .i64 b] 24))
    go_enter Try.func3, Try.ntmps3
    go_wp2_with fail
    generalize W.alloc (.cells #[.int .i64 a, .int .i64 b] 24) = w0 at HT HB ⊢
    refine (C0.out _).mono ?_
    rintro e w1 ⟨rfl, hb⟩
    replace HT := Lib.hid (HT.out.step hb)
    replace HB := Lib.hid (below_trans HB.out hb)
    clear hb
    go_wp2
    go_ret
    exact ⟨rfl, HB.out⟩

end Go.Proofs.Ytbgdnidbdfhgjab
