/- The law FnOneWayNeeds is proved: called with any arguments it returns true, and what was there is as it was. Its condition: none beyond the row's own form.
-/
import Derived.Test.YtdkffkgoalgjmacMone1
import Derived.Test.YtdkffkgoalgjmacMone2
import Derived.Test.YtdkffkgoalgjmacRows
import Derived.WalkKit
import Derived.ProofKit
import Derived.OpenShut
import Derived.ShutString
import Derived.ChangeOld
import Derived.Below
import Derived.Carry
import Derived.Deep.DeepHandedRow
namespace Go.Proofs.Ytdkffkgoalgjmac
open Go.RowKit Go.ChangeShapes Go.WideShapes
set_option linter.unusedVariables false
set_option linter.unusedSimpArgs false

set_option maxRecDepth 100000 in
set_option maxHeartbeats 40000000 in
theorem fnOneWayNeeds_run (A : Option Addr) (n c : Nat) (W : World) (hC : Code W W.heap.size A n) (hcm : n ≤ maxLen) (h : n ≤ 65536) :
    Calls Try.prog 7 #[.slice A n c] W fun e w' => e = .returned (.bool true) ∧ Below W.heap.size W w' := by
  have HBW := Lib.hid (Below.refl W.heap.size W)
  have HV := Lib.hid (rBig_any A n c W hcm)
  rw [decide_eq_false (by omega)] at HV
  have HD := Lib.hid (drawON_any A n c W hC h)
  have HCo := Lib.hid hC
  clear hC
  go_enter Try.func7, Try.ntmps7
  go_wp2_with fail
  refine HV.out.mono ?_
  rintro e w0 ⟨rfl, hw⟩
  have hw := hw.symm
  subst hw
  go_wp2_with fail
  refine (HD.out).mono ?_
  rintro e w2 ⟨zs, B, c1, rfl, hzl8, ⟨lo1, hi1, hI⟩, hb⟩
  have HI := Lib.hid hI
  replace HBW := Lib.hid (below_trans HBW.out hb)
  replace HCo := Lib.hid (codeO_below HCo.out hb)
  clear hb hI HD HV
  obtain ⟨nd, sv, fw, nb, ok, one, sp, hF⟩ := onw_facts zs hzl8
  have F := Lib.hid hF
  obtain ⟨hb0, hb1, hb2, hb3, hb4, hb5, hb6, hb7⟩ := hF.bd
  clear hF hzl8
  go_wp2_with fail
  refine (F.out.ni _ _ _ _ _ HI.out).mono ?_
  rintro e w3 ⟨rfl, hb⟩
  replace HI := Lib.hid (HI.out.step hb)
  replace HBW := Lib.hid (below_trans HBW.out hb)
  replace HCo := Lib.hid (codeO_below HCo.out hb)
  clear hb
  go_wp2_with fail
  refine (F.out.ns _ _ _ _ _ HI.out).mono ?_
  rintro e w4 ⟨rfl, hb⟩
  replace HI := Lib.hid (HI.out.step hb)
  replace HBW := Lib.hid (below_trans HBW.out hb)
  replace HCo := Lib.hid (codeO_below HCo.out hb)
  clear hb
  go_wp2_with fail
  refine (F.out.ac _ _ _ _ _ HI.out).mono ?_
  rintro e w5 ⟨rfl, hb⟩
  replace HI := Lib.hid (HI.out.step hb)
  replace HBW := Lib.hid (below_trans HBW.out hb)
  replace HCo := Lib.hid (codeO_below HCo.out hb)
  clear hb
  go_wp2_with fail
  refine (F.out.pi _ _ _ _ _ HI.out).mono ?_
  rintro e w6 ⟨BP1, cP1, rfl, hres, hb⟩
  replace HI := Lib.hid (HI.out.step hb)
  replace HBW := Lib.hid (below_trans HBW.out hb)
  replace HCo := Lib.hid (codeO_below HCo.out hb)
  obtain ⟨loP1, hiP1, P1⟩ : ∃ lo hi, Hid (Ins w6 lo hi BP1 sp) := ⟨_, _, Lib.hid hres.ins⟩
  clear hb hres
  go_wp2_with fail
  refine (F.out.ps _ _ _ _ _ HI.out).mono ?_
  rintro e w7 ⟨BP2, cP2, rfl, hres, hb⟩
  replace HI := Lib.hid (HI.out.step hb)
  replace P1 := Lib.hid (P1.out.step hb)
  replace HBW := Lib.hid (below_trans HBW.out hb)
  replace HCo := Lib.hid (codeO_below HCo.out hb)
  obtain ⟨loP2, hiP2, P2⟩ : ∃ lo hi, Hid (Ins w7 lo hi BP2 sp) := ⟨_, _, Lib.hid hres.ins⟩
  clear hb hres
  go_wp2_with fail
  refine (rInts_same _ _ _ _ _ _ _ _ sp _ P1.out P2.out F.out.hsp).mono ?_
  rintro e w8 ⟨rfl, hb⟩
  replace HI := Lib.hid (HI.out.step hb)
  replace P1 := Lib.hid (P1.out.step hb)
  replace P2 := Lib.hid (P2.out.step hb)
  replace HBW := Lib.hid (below_trans HBW.out hb)
  replace HCo := Lib.hid (codeO_below HCo.out hb)
  clear hb
  go_wp2_with fail
  refine (F.out.si _ _ _ _ _ HI.out).mono ?_
  rintro e w9 ⟨rfl, hb⟩
  replace HI := Lib.hid (HI.out.step hb)
  replace P1 := Lib.hid (P1.out.step hb)
  replace HBW := Lib.hid (below_trans HBW.out hb)
  replace HCo := Lib.hid (codeO_below HCo.out hb)
  clear hb
  go_wp2_with fail
  refine (F.out.ss _ _ _ _ _ HI.out).mono ?_
  rintro e w10 ⟨rfl, hb⟩
  replace HI := Lib.hid (HI.out.step hb)
  replace P1 := Lib.hid (P1.out.step hb)
  replace HBW := Lib.hid (below_trans HBW.out hb)
  replace HCo := Lib.hid (codeO_below HCo.out hb)
  clear hb
  go_wp2_with fail
  refine (F.out.qi _ _ _ _ _ HI.out).mono ?_
  rintro e w11 ⟨rfl, hb⟩
  replace HI := Lib.hid (HI.out.step hb)
  replace P1 := Lib.hid (P1.out.step hb)
  replace HBW := Lib.hid (below_trans HBW.out hb)
  replace HCo := Lib.hid (codeO_below HCo.out hb)
  clear hb
  go_wp2_with fail
  refine (F.out.qs _ _ _ _ _ HI.out).mono ?_
  rintro e w12 ⟨rfl, hb⟩
  replace HI := Lib.hid (HI.out.step hb)
  replace P1 := Lib.hid (P1.out.step hb)
  replace HBW := Lib.hid (below_trans HBW.out hb)
  replace HCo := Lib.hid (codeO_below HCo.out hb)
  clear hb
  have hnn : ¬ nd < fw := by omega
  have hsv0 : ¬ sv < 0 := by omega
  rcases hok : ok with _ | _
  ·
    subst hok
    go_wp2_with fail
    refine (drawOY_any A n c w12 HCo.out h).mono ?_
    rintro e w13 ⟨xs, ys, BX, BY, cX, cY, rfl, hxl8, hyl8, ⟨loX, hiX, hIX⟩, ⟨loY, hiY, hIY⟩, hb⟩
    replace HI := Lib.hid (HI.out.step hb)
    replace P1 := Lib.hid (P1.out.step hb)
    replace HBW := Lib.hid (below_trans HBW.out hb)
    replace HCo := Lib.hid (codeO_below HCo.out hb)
    have HX := Lib.hid hIX
    have HY := Lib.hid hIY
    clear hb hIX hIY
    obtain ⟨four, la, lb, hT⟩ := two_facts xs ys hxl8 hyl8
    have T2 := Lib.hid hT
    clear hT hxl8 hyl8
    go_wp2_with fail
    refine (T2.out.yi _ _ _ _ _ _ _ _ _ HX.out HY.out).mono ?_
    rintro e w14 ⟨BY1, cY1, rfl, hres, hb⟩
    replace HI := Lib.hid (HI.out.step hb)
    replace P1 := Lib.hid (P1.out.step hb)
    replace HX := Lib.hid (HX.out.step hb)
    replace HY := Lib.hid (HY.out.step hb)
    replace HBW := Lib.hid (below_trans HBW.out hb)
    replace HCo := Lib.hid (codeO_below HCo.out hb)
    obtain ⟨loY1, hiY1, Y1⟩ : ∃ lo hi, Hid (Ins w14 lo hi BY1 la) := ⟨_, _, Lib.hid hres.ins⟩
    clear hb hres
    go_wp2_with fail
    refine (T2.out.ys_ _ _ _ _ _ _ _ _ _ HX.out HY.out).mono ?_
    rintro e w15 ⟨BY2, cY2, rfl, hres, hb⟩
    replace HI := Lib.hid (HI.out.step hb)
    replace P1 := Lib.hid (P1.out.step hb)
    replace HX := Lib.hid (HX.out.step hb)
    replace HY := Lib.hid (HY.out.step hb)
    replace Y1 := Lib.hid (Y1.out.step hb)
    replace HBW := Lib.hid (below_trans HBW.out hb)
    replace HCo := Lib.hid (codeO_below HCo.out hb)
    obtain ⟨loY2, hiY2, Y2⟩ : ∃ lo hi, Hid (Ins w15 lo hi BY2 la) := ⟨_, _, Lib.hid hres.ins⟩
    clear hb hres
    go_wp2_with fail
    refine (rInts_same _ _ _ _ _ _ _ _ la _ Y1.out Y2.out T2.out.ha).mono ?_
    rintro e w16 ⟨rfl, hb⟩
    replace HI := Lib.hid (HI.out.step hb)
    replace P1 := Lib.hid (P1.out.step hb)
    replace HX := Lib.hid (HX.out.step hb)
    replace HY := Lib.hid (HY.out.step hb)
    replace Y1 := Lib.hid (Y1.out.step hb)
    replace Y2 := Lib.hid (Y2.out.step hb)
    replace HBW := Lib.hid (below_trans HBW.out hb)
    replace HCo := Lib.hid (codeO_below HCo.out hb)
    clear hb
    go_wp2_with fail
    refine (T2.out.ni _ _ _ _ _ _ _ _ _ HX.out HY.out).mono ?_
    rintro e w17 ⟨BN1, cN1, rfl, hres, hb⟩
    replace HI := Lib.hid (HI.out.step hb)
    replace P1 := Lib.hid (P1.out.step hb)
    replace HX := Lib.hid (HX.out.step hb)
    replace HY := Lib.hid (HY.out.step hb)
    replace HBW := Lib.hid (below_trans HBW.out hb)
    replace HCo := Lib.hid (codeO_below HCo.out hb)
    obtain ⟨loN1, hiN1, N1⟩ : ∃ lo hi, Hid (Ins w17 lo hi BN1 lb) := ⟨_, _, Lib.hid hres.ins⟩
    clear hb hres
    go_wp2_with fail
    refine (T2.out.ns _ _ _ _ _ _ _ _ _ HX.out HY.out).mono ?_
    rintro e w18 ⟨BN2, cN2, rfl, hres, hb⟩
    replace HI := Lib.hid (HI.out.step hb)
    replace P1 := Lib.hid (P1.out.step hb)
    replace HX := Lib.hid (HX.out.step hb)
    replace HY := Lib.hid (HY.out.step hb)
    replace N1 := Lib.hid (N1.out.step hb)
    replace HBW := Lib.hid (below_trans HBW.out hb)
    replace HCo := Lib.hid (codeO_below HCo.out hb)
    obtain ⟨loN2, hiN2, N2⟩ : ∃ lo hi, Hid (Ins w18 lo hi BN2 lb) := ⟨_, _, Lib.hid hres.ins⟩
    clear hb hres
    go_wp2_with fail
    refine (rInts_same _ _ _ _ _ _ _ _ lb _ N1.out N2.out T2.out.hb).mono ?_
    rintro e w19 ⟨rfl, hb⟩
    replace HI := Lib.hid (HI.out.step hb)
    replace P1 := Lib.hid (P1.out.step hb)
    replace HX := Lib.hid (HX.out.step hb)
    replace HY := Lib.hid (HY.out.step hb)
    replace N1 := Lib.hid (N1.out.step hb)
    replace N2 := Lib.hid (N2.out.step hb)
    replace HBW := Lib.hid (below_trans HBW.out hb)
    replace HCo := Lib.hid (codeO_below HCo.out hb)
    clear hb
    go_wp2_with fail
    refine (drawOT_any A n c w19 HCo.out h).mono ?_
    rintro e w20 ⟨mo, rfl, hb⟩
    replace HI := Lib.hid (HI.out.step hb)
    replace P1 := Lib.hid (P1.out.step hb)
    replace HBW := Lib.hid (below_trans HBW.out hb)
    replace HCo := Lib.hid (codeO_below HCo.out hb)
    clear hb
    obtain ⟨tl, six, htl, htt, hti, hts⟩ := oneWayTable_both2 mo
    have HTt := Lib.hid htt
    have HTi := Lib.hid hti
    have HTs := Lib.hid hts
    clear htt hti hts
    go_wp2_with fail
    refine (HTi.out _).mono ?_
    rintro e w21 ⟨BT1, cT1, rfl, hres, hb⟩
    replace HI := Lib.hid (HI.out.step hb)
    replace P1 := Lib.hid (P1.out.step hb)
    replace HBW := Lib.hid (below_trans HBW.out hb)
    replace HCo := Lib.hid (codeO_below HCo.out hb)
    obtain ⟨loT1, hiT1, T1⟩ : ∃ lo hi, Hid (Ins w21 lo hi BT1 tl) := ⟨_, _, Lib.hid hres.ins⟩
    clear hb hres
    go_wp2_with fail
    refine (HTs.out _).mono ?_
    rintro e w22 ⟨BT2b, cT2b, rfl, hres, hb⟩
    replace HI := Lib.hid (HI.out.step hb)
    replace P1 := Lib.hid (P1.out.step hb)
    replace T1 := Lib.hid (T1.out.step hb)
    replace HBW := Lib.hid (below_trans HBW.out hb)
    replace HCo := Lib.hid (codeO_below HCo.out hb)
    obtain ⟨loT2b, hiT2b, T2b⟩ : ∃ lo hi, Hid (Ins w22 lo hi BT2b tl) := ⟨_, _, Lib.hid hres.ins⟩
    clear hb hres
    go_wp2_with fail
    refine (rInts_same _ _ _ _ _ _ _ _ tl _ T1.out T2b.out htl).mono ?_
    rintro e w23 ⟨rfl, hb⟩
    replace HI := Lib.hid (HI.out.step hb)
    replace P1 := Lib.hid (P1.out.step hb)
    replace T1 := Lib.hid (T1.out.step hb)
    replace T2b := Lib.hid (T2b.out.step hb)
    replace HBW := Lib.hid (below_trans HBW.out hb)
    replace HCo := Lib.hid (codeO_below HCo.out hb)
    clear hb
    go_wp2_with fail
    refine (drawOM_any A n c w23 HCo.out h).mono ?_
    rintro e w24 ⟨qu, li, rfl, hb⟩
    replace HI := Lib.hid (HI.out.step hb)
    replace P1 := Lib.hid (P1.out.step hb)
    replace T1 := Lib.hid (T1.out.step hb)
    replace HBW := Lib.hid (below_trans HBW.out hb)
    replace HCo := Lib.hid (codeO_below HCo.out hb)
    clear hb
    obtain ⟨nu, seven, hmm, hmi, hms⟩ := oneWayMost_both2 qu li
    have HMm := Lib.hid hmm
    have HMi := Lib.hid hmi
    have HMs := Lib.hid hms
    clear hmm hmi hms
    go_wp2_with fail
    refine (HMi.out _).mono ?_
    rintro e w25 ⟨rfl, hb⟩
    replace HI := Lib.hid (HI.out.step hb)
    replace P1 := Lib.hid (P1.out.step hb)
    replace T1 := Lib.hid (T1.out.step hb)
    replace HBW := Lib.hid (below_trans HBW.out hb)
    clear hb
    go_wp2_with fail
    refine (HMs.out _).mono ?_
    rintro e w26 ⟨rfl, hb⟩
    replace HI := Lib.hid (HI.out.step hb)
    replace P1 := Lib.hid (P1.out.step hb)
    replace T1 := Lib.hid (T1.out.step hb)
    replace HBW := Lib.hid (below_trans HBW.out hb)
    clear hb
    go_upto_region 39 with fail
    have HTT : Hid (∀ a : Nat, a ≤ 2 → tl = ndUO a 8 → ∀ i : Nat, i < 8 → ∃ b o, BT1 = some ⟨b, o, none⟩ ∧ w26.cell? ⟨b, o + i, none⟩ = some (.int .i64 (ndO a i))) := Lib.hid (fun a ha e i hi => by
      subst e
      obtain ⟨b, o, e1, _, _, hc⟩ := T1.out.ints.at_ (k := i) (by rw [ndU_lenO]; exact hi)
      rw [show (ndUO a 8)[i] = ndO a i by simp [ndUO]] at hc
      exact ⟨b, o, e1, hc⟩)
    go_cut [299] from 268 to 298 (fun v wx => v = .bool false ∧ wx = w26)
    case first =>
      clear HMi HMs HTi HTs T2 F HI P1 T1
      rcases h6 : six with _ | _
      ·
        subst h6
        go_wp2_with fail
        go_meet
        case rel => exact ⟨rfl, rfl⟩
      ·
        subst h6
        rcases h7 : seven with _ | _
        ·
          subst h7
          go_wp2_with fail
          go_meet
          case rel => exact ⟨rfl, rfl⟩
        ·
          subst h7
          by_cases hml : mo = li
          ·
            subst hml
            obtain ⟨a, ha, ha2, htl2⟩ := HTt.out rfl
            obtain ⟨a', ha', _, hq, hnu⟩ := HMm.out rfl
            obtain rfl : a = a' := by omega
            have hz0 : ndO a 0 ≤ qu := by have := nd_zeroO ⟨a, by omega⟩; simp only at this; omega
            obtain ⟨j, hj8, hj1, hj2, _⟩ := mb_place (ndO a) qu hz0 8 (by omega)
            have hnext : j < 7 → ¬ ndO a (j + 1) ≤ qu := fun h => mb_next 8 j hj8 hj1 (j + 1) (by omega) (by omega)
            obtain ⟨b, o, hBT, hc1⟩ := HTT.out a ha2 htl2 j hj8
            have hnj : nu = (j : Int) + 1 := by rw [hnu]; exact hj1
            have hlen : tl.length = 8 := by rw [htl2, ndU_lenO]
            by_cases hj7 : j < 7
            ·
              have hnx := hnext hj7
              obtain ⟨b', o', hBT', hc2⟩ := HTT.out a ha2 htl2 (j + 1) (by omega)
              rw [hBT] at hBT'
              injection hBT' with e1
              injection e1 with e1 e2
              subst e1 e2
              subst hBT hnj
              have hjI : (j : Int) + 1 < (tl.length : Int) := by omega
              have hjI2 : (j : Int) < (tl.length : Int) := by omega
              clear HTT HMm HTt hnext hnu htl2 hj1 hlen ha ha'
              generalize ndO a j = x1 at hc1 hj2
              generalize ndO a (j + 1) = x2 at hc2 hnx
              have hc2' : w26.cell? ⟨b, o + (j + 1), none⟩ = some (.int .i64 x2) := hc2
              have hx1 : ¬ qu < x1 := by omega
              go_wp2_with fail
              go_meet
              case rel => exact ⟨rfl, rfl⟩
            ·
              subst hBT hnj
              have hjI : ¬ (j : Int) + 1 < (tl.length : Int) := by omega
              have hjI2 : (j : Int) < (tl.length : Int) := by omega
              clear HTT HMm HTt hnext hnu htl2 hj1 hlen ha ha'
              generalize ndO a j = x1 at hc1 hj2
              have hx1 : ¬ qu < x1 := by omega
              go_wp2_with fail
              go_meet
              case rel => exact ⟨rfl, rfl⟩
          ·
            go_wp2_with fail
            go_meet
            case rel => exact ⟨rfl, rfl⟩
    case rest =>
      obtain ⟨rfl, hwx⟩ := hcut
      have hwx := hwx.symm
      subst hwx
      clear HTT HMi HMs HMm HTi HTs HTt T2 T1
      have hone : one = false := by
        rcases hq : one with _ | _
        · rfl
        · have := F.out.o1 hq; cases this
      subst hone
      go_wp2
      go_ret
      exact ⟨rfl, HBW.out⟩
  ·
    subst hok
    go_wp2_with fail
    refine (drawOY_any A n c w12 HCo.out h).mono ?_
    rintro e w13 ⟨xs, ys, BX, BY, cX, cY, rfl, hxl8, hyl8, ⟨loX, hiX, hIX⟩, ⟨loY, hiY, hIY⟩, hb⟩
    replace HI := Lib.hid (HI.out.step hb)
    replace P1 := Lib.hid (P1.out.step hb)
    replace HBW := Lib.hid (below_trans HBW.out hb)
    replace HCo := Lib.hid (codeO_below HCo.out hb)
    have HX := Lib.hid hIX
    have HY := Lib.hid hIY
    clear hb hIX hIY
    obtain ⟨four, la, lb, hT⟩ := two_facts xs ys hxl8 hyl8
    have T2 := Lib.hid hT
    clear hT hxl8 hyl8
    go_wp2_with fail
    refine (T2.out.yi _ _ _ _ _ _ _ _ _ HX.out HY.out).mono ?_
    rintro e w14 ⟨BY1, cY1, rfl, hres, hb⟩
    replace HI := Lib.hid (HI.out.step hb)
    replace P1 := Lib.hid (P1.out.step hb)
    replace HX := Lib.hid (HX.out.step hb)
    replace HY := Lib.hid (HY.out.step hb)
    replace HBW := Lib.hid (below_trans HBW.out hb)
    replace HCo := Lib.hid (codeO_below HCo.out hb)
    obtain ⟨loY1, hiY1, Y1⟩ : ∃ lo hi, Hid (Ins w14 lo hi BY1 la) := ⟨_, _, Lib.hid hres.ins⟩
    clear hb hres
    go_wp2_with fail
    refine (T2.out.ys_ _ _ _ _ _ _ _ _ _ HX.out HY.out).mono ?_
    rintro e w15 ⟨BY2, cY2, rfl, hres, hb⟩
    replace HI := Lib.hid (HI.out.step hb)
    replace P1 := Lib.hid (P1.out.step hb)
    replace HX := Lib.hid (HX.out.step hb)
    replace HY := Lib.hid (HY.out.step hb)
    replace Y1 := Lib.hid (Y1.out.step hb)
    replace HBW := Lib.hid (below_trans HBW.out hb)
    replace HCo := Lib.hid (codeO_below HCo.out hb)
    obtain ⟨loY2, hiY2, Y2⟩ : ∃ lo hi, Hid (Ins w15 lo hi BY2 la) := ⟨_, _, Lib.hid hres.ins⟩
    clear hb hres
    go_wp2_with fail
    refine (rInts_same _ _ _ _ _ _ _ _ la _ Y1.out Y2.out T2.out.ha).mono ?_
    rintro e w16 ⟨rfl, hb⟩
    replace HI := Lib.hid (HI.out.step hb)
    replace P1 := Lib.hid (P1.out.step hb)
    replace HX := Lib.hid (HX.out.step hb)
    replace HY := Lib.hid (HY.out.step hb)
    replace Y1 := Lib.hid (Y1.out.step hb)
    replace Y2 := Lib.hid (Y2.out.step hb)
    replace HBW := Lib.hid (below_trans HBW.out hb)
    replace HCo := Lib.hid (codeO_below HCo.out hb)
    clear hb
    go_wp2_with fail
    refine (T2.out.ni _ _ _ _ _ _ _ _ _ HX.out HY.out).mono ?_
    rintro e w17 ⟨BN1, cN1, rfl, hres, hb⟩
    replace HI := Lib.hid (HI.out.step hb)
    replace P1 := Lib.hid (P1.out.step hb)
    replace HX := Lib.hid (HX.out.step hb)
    replace HY := Lib.hid (HY.out.step hb)
    replace HBW := Lib.hid (below_trans HBW.out hb)
    replace HCo := Lib.hid (codeO_below HCo.out hb)
    obtain ⟨loN1, hiN1, N1⟩ : ∃ lo hi, Hid (Ins w17 lo hi BN1 lb) := ⟨_, _, Lib.hid hres.ins⟩
    clear hb hres
    go_wp2_with fail
    refine (T2.out.ns _ _ _ _ _ _ _ _ _ HX.out HY.out).mono ?_
    rintro e w18 ⟨BN2, cN2, rfl, hres, hb⟩
    replace HI := Lib.hid (HI.out.step hb)
    replace P1 := Lib.hid (P1.out.step hb)
    replace HX := Lib.hid (HX.out.step hb)
    replace HY := Lib.hid (HY.out.step hb)
    replace N1 := Lib.hid (N1.out.step hb)
    replace HBW := Lib.hid (below_trans HBW.out hb)
    replace HCo := Lib.hid (codeO_below HCo.out hb)
    obtain ⟨loN2, hiN2, N2⟩ : ∃ lo hi, Hid (Ins w18 lo hi BN2 lb) := ⟨_, _, Lib.hid hres.ins⟩
    clear hb hres
    go_wp2_with fail
    refine (rInts_same _ _ _ _ _ _ _ _ lb _ N1.out N2.out T2.out.hb).mono ?_
    rintro e w19 ⟨rfl, hb⟩
    replace HI := Lib.hid (HI.out.step hb)
    replace P1 := Lib.hid (P1.out.step hb)
    replace HX := Lib.hid (HX.out.step hb)
    replace HY := Lib.hid (HY.out.step hb)
    replace N1 := Lib.hid (N1.out.step hb)
    replace N2 := Lib.hid (N2.out.step hb)
    replace HBW := Lib.hid (below_trans HBW.out hb)
    replace HCo := Lib.hid (codeO_below HCo.out hb)
    clear hb
    go_wp2_with fail
    refine (drawOT_any A n c w19 HCo.out h).mono ?_
    rintro e w20 ⟨mo, rfl, hb⟩
    replace HI := Lib.hid (HI.out.step hb)
    replace P1 := Lib.hid (P1.out.step hb)
    replace HBW := Lib.hid (below_trans HBW.out hb)
    replace HCo := Lib.hid (codeO_below HCo.out hb)
    clear hb
    obtain ⟨tl, six, htl, htt, hti, hts⟩ := oneWayTable_both2 mo
    have HTt := Lib.hid htt
    have HTi := Lib.hid hti
    have HTs := Lib.hid hts
    clear htt hti hts
    go_wp2_with fail
    refine (HTi.out _).mono ?_
    rintro e w21 ⟨BT1, cT1, rfl, hres, hb⟩
    replace HI := Lib.hid (HI.out.step hb)
    replace P1 := Lib.hid (P1.out.step hb)
    replace HBW := Lib.hid (below_trans HBW.out hb)
    replace HCo := Lib.hid (codeO_below HCo.out hb)
    obtain ⟨loT1, hiT1, T1⟩ : ∃ lo hi, Hid (Ins w21 lo hi BT1 tl) := ⟨_, _, Lib.hid hres.ins⟩
    clear hb hres
    go_wp2_with fail
    refine (HTs.out _).mono ?_
    rintro e w22 ⟨BT2b, cT2b, rfl, hres, hb⟩
    replace HI := Lib.hid (HI.out.step hb)
    replace P1 := Lib.hid (P1.out.step hb)
    replace T1 := Lib.hid (T1.out.step hb)
    replace HBW := Lib.hid (below_trans HBW.out hb)
    replace HCo := Lib.hid (codeO_below HCo.out hb)
    obtain ⟨loT2b, hiT2b, T2b⟩ : ∃ lo hi, Hid (Ins w22 lo hi BT2b tl) := ⟨_, _, Lib.hid hres.ins⟩
    clear hb hres
    go_wp2_with fail
    refine (rInts_same _ _ _ _ _ _ _ _ tl _ T1.out T2b.out htl).mono ?_
    rintro e w23 ⟨rfl, hb⟩
    replace HI := Lib.hid (HI.out.step hb)
    replace P1 := Lib.hid (P1.out.step hb)
    replace T1 := Lib.hid (T1.out.step hb)
    replace T2b := Lib.hid (T2b.out.step hb)
    replace HBW := Lib.hid (below_trans HBW.out hb)
    replace HCo := Lib.hid (codeO_below HCo.out hb)
    clear hb
    go_wp2_with fail
    refine (drawOM_any A n c w23 HCo.out h).mono ?_
    rintro e w24 ⟨qu, li, rfl, hb⟩
    replace HI := Lib.hid (HI.out.step hb)
    replace P1 := Lib.hid (P1.out.step hb)
    replace T1 := Lib.hid (T1.out.step hb)
    replace HBW := Lib.hid (below_trans HBW.out hb)
    replace HCo := Lib.hid (codeO_below HCo.out hb)
    clear hb
    obtain ⟨nu, seven, hmm, hmi, hms⟩ := oneWayMost_both2 qu li
    have HMm := Lib.hid hmm
    have HMi := Lib.hid hmi
    have HMs := Lib.hid hms
    clear hmm hmi hms
    go_wp2_with fail
    refine (HMi.out _).mono ?_
    rintro e w25 ⟨rfl, hb⟩
    replace HI := Lib.hid (HI.out.step hb)
    replace P1 := Lib.hid (P1.out.step hb)
    replace T1 := Lib.hid (T1.out.step hb)
    replace HBW := Lib.hid (below_trans HBW.out hb)
    clear hb
    go_wp2_with fail
    refine (HMs.out _).mono ?_
    rintro e w26 ⟨rfl, hb⟩
    replace HI := Lib.hid (HI.out.step hb)
    replace P1 := Lib.hid (P1.out.step hb)
    replace T1 := Lib.hid (T1.out.step hb)
    replace HBW := Lib.hid (below_trans HBW.out hb)
    clear hb
    go_upto_region 39 with fail
    have HTT : Hid (∀ a : Nat, a ≤ 2 → tl = ndUO a 8 → ∀ i : Nat, i < 8 → ∃ b o, BT1 = some ⟨b, o, none⟩ ∧ w26.cell? ⟨b, o + i, none⟩ = some (.int .i64 (ndO a i))) := Lib.hid (fun a ha e i hi => by
      subst e
      obtain ⟨b, o, e1, _, _, hc⟩ := T1.out.ints.at_ (k := i) (by rw [ndU_lenO]; exact hi)
      rw [show (ndUO a 8)[i] = ndO a i by simp [ndUO]] at hc
      exact ⟨b, o, e1, hc⟩)
    go_cut [299] from 268 to 298 (fun v wx => v = .bool false ∧ wx = w26)
    case first =>
      clear HMi HMs HTi HTs T2 F HI P1 T1
      rcases h6 : six with _ | _
      ·
        subst h6
        go_wp2_with fail
        go_meet
        case rel => exact ⟨rfl, rfl⟩
      ·
        subst h6
        rcases h7 : seven with _ | _
        ·
          subst h7
          go_wp2_with fail
          go_meet
          case rel => exact ⟨rfl, rfl⟩
        ·
          subst h7
          by_cases hml : mo = li
          ·
            subst hml
            obtain ⟨a, ha, ha2, htl2⟩ := HTt.out rfl
            obtain ⟨a', ha', _, hq, hnu⟩ := HMm.out rfl
            obtain rfl : a = a' := by omega
            have hz0 : ndO a 0 ≤ qu := by have := nd_zeroO ⟨a, by omega⟩; simp only at this; omega
            obtain ⟨j, hj8, hj1, hj2, _⟩ := mb_place (ndO a) qu hz0 8 (by omega)
            have hnext : j < 7 → ¬ ndO a (j + 1) ≤ qu := fun h => mb_next 8 j hj8 hj1 (j + 1) (by omega) (by omega)
            obtain ⟨b, o, hBT, hc1⟩ := HTT.out a ha2 htl2 j hj8
            have hnj : nu = (j : Int) + 1 := by rw [hnu]; exact hj1
            have hlen : tl.length = 8 := by rw [htl2, ndU_lenO]
            by_cases hj7 : j < 7
            ·
              have hnx := hnext hj7
              obtain ⟨b', o', hBT', hc2⟩ := HTT.out a ha2 htl2 (j + 1) (by omega)
              rw [hBT] at hBT'
              injection hBT' with e1
              injection e1 with e1 e2
              subst e1 e2
              subst hBT hnj
              have hjI : (j : Int) + 1 < (tl.length : Int) := by omega
              have hjI2 : (j : Int) < (tl.length : Int) := by omega
              clear HTT HMm HTt hnext hnu htl2 hj1 hlen ha ha'
              generalize ndO a j = x1 at hc1 hj2
              generalize ndO a (j + 1) = x2 at hc2 hnx
              have hc2' : w26.cell? ⟨b, o + (j + 1), none⟩ = some (.int .i64 x2) := hc2
              have hx1 : ¬ qu < x1 := by omega
              go_wp2_with fail
              go_meet
              case rel => exact ⟨rfl, rfl⟩
            ·
              subst hBT hnj
              have hjI : ¬ (j : Int) + 1 < (tl.length : Int) := by omega
              have hjI2 : (j : Int) < (tl.length : Int) := by omega
              clear HTT HMm HTt hnext hnu htl2 hj1 hlen ha ha'
              generalize ndO a j = x1 at hc1 hj2
              have hx1 : ¬ qu < x1 := by omega
              go_wp2_with fail
              go_meet
              case rel => exact ⟨rfl, rfl⟩
          ·
            go_wp2_with fail
            go_meet
            case rel => exact ⟨rfl, rfl⟩
    case rest =>
      obtain ⟨rfl, hwx⟩ := hcut
      have hwx := hwx.symm
      subst hwx
      clear HTT HMi HMs HMm HTi HTs HTt T2 T1
      rcases hone : one with _ | _
      ·
        go_wp2_with fail
        refine (F.out.oi _ _ _ _ _ HI.out).mono ?_
        rintro e w27 ⟨rfl, hb⟩
        replace HI := Lib.hid (HI.out.step hb)
        replace P1 := Lib.hid (P1.out.step hb)
        replace HBW := Lib.hid (below_trans HBW.out hb)
        clear hb
        go_wp2
        go_ret
        exact ⟨rfl, HBW.out⟩
      · obtain ⟨ls, rs, x, y, hL, hR, hX, hY, hx0, hy0, hxn, hyn, hxy⟩ := F.out.okk hone
        have HL := Lib.hid hL
        have HR := Lib.hid hR
        have HXx := Lib.hid hX
        have HYy := Lib.hid hY
        clear hL hR hX hY
        go_wp2_with fail
        refine (HL.out _ _ _ _ _ _ _ _ _ HI.out P1.out).mono ?_
        rintro e w27 ⟨BL1, cL1, rfl, hres, hb⟩
        replace HI := Lib.hid (HI.out.step hb)
        replace P1 := Lib.hid (P1.out.step hb)
        replace HBW := Lib.hid (below_trans HBW.out hb)
        obtain ⟨loL1, hiL1, L1⟩ : ∃ lo hi, Hid (Ins w27 lo hi BL1 ls) := ⟨_, _, Lib.hid hres.ins⟩
        clear hb hres
        go_wp2_with fail
        refine (HR.out _ _ _ _ _ _ _ _ _ HI.out P1.out).mono ?_
        rintro e w28 ⟨BR1, cR1, rfl, hres, hb⟩
        replace HI := Lib.hid (HI.out.step hb)
        replace P1 := Lib.hid (P1.out.step hb)
        replace L1 := Lib.hid (L1.out.step hb)
        replace HBW := Lib.hid (below_trans HBW.out hb)
        obtain ⟨loR1, hiR1, R1⟩ : ∃ lo hi, Hid (Ins w28 lo hi BR1 rs) := ⟨_, _, Lib.hid hres.ins⟩
        clear hb hres
        go_wp2_with fail
        refine (HXx.out _ _ _ _ _ L1.out).mono ?_
        rintro e w29 ⟨rfl, hb⟩
        replace HI := Lib.hid (HI.out.step hb)
        replace P1 := Lib.hid (P1.out.step hb)
        replace L1 := Lib.hid (L1.out.step hb)
        replace R1 := Lib.hid (R1.out.step hb)
        replace HBW := Lib.hid (below_trans HBW.out hb)
        clear hb
        go_wp2_with fail
        refine (HYy.out _ _ _ _ _ R1.out).mono ?_
        rintro e w30 ⟨rfl, hb⟩
        replace HI := Lib.hid (HI.out.step hb)
        replace P1 := Lib.hid (P1.out.step hb)
        replace L1 := Lib.hid (L1.out.step hb)
        replace R1 := Lib.hid (R1.out.step hb)
        replace HBW := Lib.hid (below_trans HBW.out hb)
        clear hb
        have hg1 : ¬ nd ≤ x := by omega
        have hg2 : ¬ nd ≤ y := by omega
        rcases (show x = nd - 1 ∨ (x ≠ nd - 1 ∧ y = nd - 1) by omega) with hxe | ⟨hxe, hye⟩
        all_goals
          go_wp2_with fail
          refine (F.out.oi _ _ _ _ _ HI.out).mono ?_
          rintro e w31 ⟨rfl, hb⟩
          replace HI := Lib.hid (HI.out.step hb)
          replace P1 := Lib.hid (P1.out.step hb)
          replace L1 := Lib.hid (L1.out.step hb)
          replace R1 := Lib.hid (R1.out.step hb)
          replace HBW := Lib.hid (below_trans HBW.out hb)
          clear hb
          go_wp2
          go_ret
          exact ⟨rfl, HBW.out⟩
end Go.Proofs.Ytdkffkgoalgjmac
namespace Go.Proofs.Ytdkffkgoalgjmac
open Go.RowKit Go.ChangeShapes Go.WideShapes
set_option linter.unusedVariables false

set_option maxRecDepth 100000 in
theorem fnOneWayNeeds_walk (A : Option Addr) (n c : Nat) (W : World) (hC : Code W W.heap.size A n) (h1 : n ≤ c) (h2 : c ≤ maxLen) :
    Calls Try.prog 7 #[.slice A n c] W fun e W' => e = .returned (.bool true) ∧ Below W.heap.size W W' := by
  by_cases h : n ≤ 65536
  · exact fnOneWayNeeds_run A n c W hC (by omega) h
  · have HV := Lib.hid (rBig_any A n c W (by omega))
    rw [decide_eq_true (by omega)] at HV
    clear hC
    go_enter Try.func7, Try.ntmps7
    go_wp2_with fail
    refine (HV.out).mono ?_
    rintro e w' ⟨rfl, hw⟩
    have hw := hw.symm
    subst hw
    go_wp2
    go_ret
    exact ⟨rfl, Below.refl _ _⟩
end Go.Proofs.Ytdkffkgoalgjmac
namespace Go.Proofs.Ytdkffkgoalgjmac.fnOneWayNeeds
open Go.ChangeShapes Go.WideShapes Go.ChangeAt Go.RowKit
open Go.ChangeMaps (open_string shut_string)
set_option linter.unusedVariables false

theorem own : ownKnob Try.prog.godebug = none := by kernel_rfl
theorem laidOut : laidOutB Try.prog = true := by kernel_rfl

set_option maxRecDepth 100000 in
theorem contract (H : Type) (enc : TypeId × Value → H) (W : World) (base : Nat) (args : Array Value) (ds gs : List (DataW H)) (before : List MemPlace)
    (hval : ∀ (j : Nat) t v, Try.f7.params[j]? = some t → args[j]? = some v → Value.okWide Try.prog W .any base t v)
    (hW : DataW.Whole enc Try.prog Try.f7.params.toList Rows.fnOneWayNeedsSpec.vars false W args.toList ds gs before)
    (hsz : (DataW.weightsEach Try.prog (Try.f7.params.toList ++ (OpenSpec.ofChange Rows.fnOneWayNeedsSpec).bare.plain.varTypes Try.prog) (ds ++ gs)).all (· ≤ reachBytes) = true)
    (hL : laidMetH Try.prog Rows.fnOneWayNeedsRow.laid W) (hsh : W.ShapedOpen Try.prog) :
    Calls Try.prog 7 args W fun e W' => ∃ v, e = .returned v ∧ Rows.fnOneWayNeedsSpec.post enc Try.prog Try.f7 false true false false W args v W' := by
  have hW' := hW
  obtain ⟨p, q, hA0, hV, rfl, hfz, hnd⟩ := hW
  have hA : DataW.TrodAll enc Try.prog W 0 (fun _ => true) true Try.f7.params.toList args.toList ds p := hA0
  rw [Try.params7] at hA hval
  obtain ⟨v0, vs0, d0, ds0, p0, q0, hargs, rfl, rfl, h0, r0⟩ := trodAll_cons hA
  obtain ⟨rfl, rfl, rfl⟩ := trodAll_nil r0
  obtain rfl : args = #[v0] := by cases args; simp_all
  obtain ⟨rfl, rfl⟩ := trodVars_none hV
  have k0 := h0
  have lt0 : ∀ x ∈ p0, x.block < W.heap.size := by obtain ⟨m, hm⟩ := k0; exact DataW.trod_lt m _ _ _ hm
  obtain ⟨a0, len0, cap0, rfl⟩ := okWide_slice Try.underlying45 (hval 0 45 v0 rfl rfl)
  obtain ⟨w0, hc0, hm0⟩ := code_of_trod h0
  refine (fnOneWayNeeds_walk a0 len0 cap0 W w0 hc0 hm0).mono fun e W' ⟨he, bel⟩ => ?_
  subst he
  exact ⟨_, rfl, _, _, _, [], _, [], hW', trodAll_mk1 (shut_bool Try.underlying4 _), (trodAll_cons_mk (Below.trod laidOut (by kernel_rfl) (of_decide_eq_true (by kernel_rfl)) k0 bel lt0) trodAll_mk0), rfl, bel.frame _, fun h => by cases h⟩

noncomputable def startWorld (os : Os) : World := World.holding Try.prog os ⟨#[], #[], []⟩
set_option maxRecDepth 100000 in
theorem laid_met (os : Os) : laidMet Try.prog Rows.fnOneWayNeedsRow.laid ((startWorld os).forCall (fun _ _ => 0) ⟨#[], #[.slice none 0 0], []⟩).memory := laidMet_nil _ _
set_option maxRecDepth 100000 in
theorem reads (os : Os) {H : Type} (enc : TypeId × Value → H) : ∃ places, DataW.whole enc Try.prog ((startWorld os).forCall (fun _ _ => 0) ⟨#[], #[.slice none 0 0], []⟩).memory Try.f7.params.toList Rows.fnOneWayNeedsSpec.vars false (#[.slice none 0 0] : Array Value).toList 8 = some ([.nil], [], places) :=
  ⟨[], by kernel_rfl⟩

set_option maxRecDepth 100000 in
theorem lifted (os : Os) (started : os.Started) (H : Type) (enc : TypeId × Value → H) (F : Stop.Interp) :
    ReturnsInHanded {} Try.checked os 7 .any ((OpenSpec.ofChange Rows.fnOneWayNeedsSpec).preRow enc Try.prog Try.f7 Rows.fnOneWayNeedsRow.domain false Rows.fnOneWayNeedsRow.laid) (((OpenSpec.ofChange Rows.fnOneWayNeedsSpec).at F).post enc Try.prog Try.f7 false true false false) := by
  obtain ⟨places, hx⟩ := reads os enc
  refine returnsInHanded_of_row (C := Try.checked) (s := OpenSpec.ofChange Rows.fnOneWayNeedsSpec) own started (by kernel_rfl) Try.func7
    (witness_row_at (enc := enc) (C := Try.checked) false (startWorld os) #[.slice none 0 0] rfl (by kernel_rfl) (by kernel_rfl) (by kernel_rfl)
      (OpenSpec.preRow_of_cond 8 hx (by kernel_rfl) (fun k hk => by cases hk) (by kernel_rfl) (laid_met os))) ?_
  intro W base args ds gs before hval hW _ _ hsz hL hsh _
  exact contract H enc W base args ds gs before hval hW hsz hL hsh

theorem said : Rows.FnOneWayNeedsSaid :=
  OpenClaim.holds_of_cond 7 Try.f7 rfl rfl rfl rfl rfl rfl rfl ⟨rfl, rfl, rfl, rfl, rfl⟩ rfl rfl rfl rfl rfl (by kernel_rfl) Try.func7 (by kernel_rfl)
    (of_decide_eq_true (by kernel_rfl)) (by unfold Func.isWrapper; first | (rw [if_pos (by decide +kernel)]; kernel_rfl) | (rw [if_neg (by decide +kernel)]; exact ⟨rfl, rfl⟩))
    (fun os started H enc _ F => by rw [OpenClaim.pre_eq_preRow]; exact lifted os started H enc F)

theorem proved : Rows.FnOneWayNeedsSaid := said
end Go.Proofs.Ytdkffkgoalgjmac.fnOneWayNeeds
