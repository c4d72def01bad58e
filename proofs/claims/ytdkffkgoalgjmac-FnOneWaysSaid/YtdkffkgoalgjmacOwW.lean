/- The law FnOneWays: its walk. -/
import Derived.Test.YtdkffkgoalgjmacOwD
import Derived.Test.YtdkffkgoalgjmacOwF
import Derived.Deep.CutRange
namespace Go.Proofs.Ytdkffkgoalgjmac
open Go.RowKit Go.ChangeShapes Go.WideShapes
set_option linter.unusedVariables false
set_option linter.unusedSimpArgs false

set_option maxRecDepth 100000 in
set_option maxHeartbeats 40000000 in
theorem fnOneWays_run (A : Option Addr) (n c : Nat) (W : World) (hC : Code W W.heap.size A n) (hcm : n ≤ maxLen) (h : n ≤ 65536) :
    Calls Try.prog 6 #[.slice A n c] W fun e w' => e = .returned (.bool true) ∧ Below W.heap.size W w' := by
  have HBW := Lib.hid (Below.refl W.heap.size W)
  have HV := Lib.hid (rBig_any A n c W hcm)
  rw [decide_eq_false (by omega)] at HV
  have HD := Lib.hid (drawOWA_any A n c W hC h)
  have HCo := Lib.hid hC
  clear hC
  go_enter Try.func6, Try.ntmps6
  go_wp2_with fail
  refine HV.out.mono ?_
  rintro e w0 ⟨rfl, hw⟩
  have hw := hw.symm
  subst hw
  go_wp2_with fail
  refine (HD.out).mono ?_
  rintro e w1 ⟨k, m, l, B, c1, rfl, hk13, hl31, ⟨lo1, hA⟩, hb⟩
  replace HBW := Lib.hid (below_trans HBW.out hb)
  replace HCo := Lib.hid (codeQ_below HCo.out hb)
  have HA := Lib.hid hA.ins
  clear hA HD HV
  clear hb
  obtain ⟨r0, mo0, o0, r2, mo2, o2, h0, h2, hq1, hq2, hq3, hq4⟩ := ow_facts1 k m l (by omega)
  have HQ1 := Lib.hid hq1
  have HQ2 := Lib.hid hq2
  have HQ3 := Lib.hid hq3
  have HQ4 := Lib.hid hq4
  clear hq1 hq2 hq3 hq4
  go_wp2_with fail
  refine (HQ1.out _ _ _ _ _ HA.out).mono ?_
  rintro e w2 ⟨BRA, cRA, rfl, hres, hb⟩
  replace HA := Lib.hid (HA.out.step hb)
  replace HBW := Lib.hid (below_trans HBW.out hb)
  replace HCo := Lib.hid (codeQ_below HCo.out hb)
  obtain ⟨loRA, hiRA, RA⟩ : ∃ lo hi, Hid (Ins w2 lo hi BRA r0) := ⟨_, _, Lib.hid hres.ins⟩
  clear hb hres
  have hbxSA : Below w2.heap.size w2 (w2.alloc (.cells #[.slice BRA r0.length cRA, .int .i64 mo0] 28)) := (Below.refl _ _).alloc (Nat.le_refl _) _
  have hb := hbxSA
  clear hbxSA
  have SA := Lib.hid (TwoS.new w2 (.slice BRA r0.length cRA) (.int .i64 mo0) w2.heap.size rfl)
  have g0SA := SA.out.c0
  have g1SA := SA.out.c1
  go_wp2_with fail
  clear g0SA g1SA
  replace HA := Lib.hid (HA.out.step hb)
  replace RA := Lib.hid (RA.out.step hb)
  replace HBW := Lib.hid (below_trans HBW.out hb)
  replace HCo := Lib.hid (codeQ_below HCo.out hb)
  clear hb
  generalize (w2.alloc (.cells #[.slice BRA r0.length cRA, .int .i64 mo0] 28)) = w3 at HBW HCo HA RA SA ⊢
  refine (HQ2.out _ _ _ _ _ HA.out).mono ?_
  rintro e w4 ⟨BRB, cRB, rfl, hres, hb⟩
  replace HA := Lib.hid (HA.out.step hb)
  replace RA := Lib.hid (RA.out.step hb)
  replace SA := Lib.hid (SA.out.step hb)
  replace HBW := Lib.hid (below_trans HBW.out hb)
  replace HCo := Lib.hid (codeQ_below HCo.out hb)
  obtain ⟨loRB, hiRB, RB⟩ : ∃ lo hi, Hid (Ins w4 lo hi BRB r0) := ⟨_, _, Lib.hid hres.ins⟩
  clear hb hres
  have hbxSB : Below w4.heap.size w4 (w4.alloc (.cells #[.slice BRB r0.length cRB, .int .i64 mo0] 28)) := (Below.refl _ _).alloc (Nat.le_refl _) _
  have hb := hbxSB
  clear hbxSB
  have SB := Lib.hid (TwoS.new w4 (.slice BRB r0.length cRB) (.int .i64 mo0) w4.heap.size rfl)
  have g0SA := (SA.out.step hb).c0
  have g1SA := (SA.out.step hb).c1
  have g0SB := SB.out.c0
  have g1SB := SB.out.c1
  go_wp2_with fail
  clear g0SA g1SA g0SB g1SB
  replace HA := Lib.hid (HA.out.step hb)
  replace RA := Lib.hid (RA.out.step hb)
  replace SA := Lib.hid (SA.out.step hb)
  replace RB := Lib.hid (RB.out.step hb)
  replace HBW := Lib.hid (below_trans HBW.out hb)
  replace HCo := Lib.hid (codeQ_below HCo.out hb)
  clear hb
  generalize (w4.alloc (.cells #[.slice BRB r0.length cRB, .int .i64 mo0] 28)) = w5 at HBW HCo HA RA SA RB SB ⊢
  refine (rState_same _ _ _ _ _ _ _ _ r0 mo0 _ RA.out RB.out h0).mono ?_
  rintro e w6 ⟨rfl, hb⟩
  replace HA := Lib.hid (HA.out.step hb)
  replace RA := Lib.hid (RA.out.step hb)
  replace SA := Lib.hid (SA.out.step hb)
  replace RB := Lib.hid (RB.out.step hb)
  replace SB := Lib.hid (SB.out.step hb)
  replace HBW := Lib.hid (below_trans HBW.out hb)
  replace HCo := Lib.hid (codeQ_below HCo.out hb)
  clear hb
  clear SB RB
  clear HQ1 HQ2
  have c0SA := SA.out.c0
  have c1SA := SA.out.c1
  go_wp2_with fail
  clear c0SA c1SA
  refine (drawOWS_any A n c w6 HCo.out h).mono ?_
  rintro e w7 ⟨zs, BZ, cZ, mm, q, y, rfl, hzl, hres, hb⟩
  replace HA := Lib.hid (HA.out.step hb)
  replace RA := Lib.hid (RA.out.step hb)
  replace SA := Lib.hid (SA.out.step hb)
  replace HBW := Lib.hid (below_trans HBW.out hb)
  replace HCo := Lib.hid (codeQ_below HCo.out hb)
  obtain ⟨loZ, hiZ, Z⟩ : ∃ lo hi, Hid (Ins w7 lo hi BZ zs) := ⟨_, _, Lib.hid hres.ins⟩
  clear hb hres
  have hbxSS : Below w7.heap.size w7 (w7.alloc (.cells #[.slice BZ zs.length cZ, .int .i64 mm] 28)) := (Below.refl _ _).alloc (Nat.le_refl _) _
  have hbxSQ : Below (w7.alloc (.cells #[.slice BZ zs.length cZ, .int .i64 mm] 28)).heap.size (w7.alloc (.cells #[.slice BZ zs.length cZ, .int .i64 mm] 28)) ((w7.alloc (.cells #[.slice BZ zs.length cZ, .int .i64 mm] 28)).alloc (.cells #[.int .i64 q, .bool y] 52)) := (Below.refl _ _).alloc (Nat.le_refl _) _
  have hb := below_trans hbxSS hbxSQ
  have SS := Lib.hid ((TwoS.new w7 (.slice BZ zs.length cZ) (.int .i64 mm) w7.heap.size rfl).step hbxSQ)
  have SQ := Lib.hid (Two.new (w7.alloc (.cells #[.slice BZ zs.length cZ, .int .i64 mm] 28)) (.int .i64 q) (.bool y) 52 (w7.heap.size + 1) (by simp))
  clear hbxSS hbxSQ
  have g0SA := (SA.out.step hb).c0
  have g1SA := (SA.out.step hb).c1
  have g0SS := SS.out.c0
  have g1SS := SS.out.c1
  have g0SQ := SQ.out.c0
  have g1SQ := SQ.out.c1
  go_wp2_with fail
  clear g0SA g1SA g0SS g1SS g0SQ g1SQ
  replace HA := Lib.hid (HA.out.step hb)
  replace RA := Lib.hid (RA.out.step hb)
  replace SA := Lib.hid (SA.out.step hb)
  replace Z := Lib.hid (Z.out.step hb)
  replace HBW := Lib.hid (below_trans HBW.out hb)
  replace HCo := Lib.hid (codeQ_below HCo.out hb)
  clear hb
  generalize ((w7.alloc (.cells #[.slice BZ zs.length cZ, .int .i64 mm] 28)).alloc (.cells #[.int .i64 q, .bool y] 52)) = w8 at HBW HCo HA RA SA Z SS SQ ⊢
  obtain ⟨r1, mo1, o1, h1, hp1, hp2, hp3⟩ := ow_facts2 zs mm (by omega) q y
  have HP1 := Lib.hid hp1
  have HP2 := Lib.hid hp2
  have HP3 := Lib.hid hp3
  clear hp1 hp2 hp3
  refine (HP1.out _ _ _ _ _ Z.out).mono ?_
  rintro e w9 ⟨BRC, cRC, rfl, hres, hb⟩
  replace HA := Lib.hid (HA.out.step hb)
  replace RA := Lib.hid (RA.out.step hb)
  replace SA := Lib.hid (SA.out.step hb)
  replace Z := Lib.hid (Z.out.step hb)
  replace SS := Lib.hid (SS.out.step hb)
  replace SQ := Lib.hid (SQ.out.step hb)
  replace HBW := Lib.hid (below_trans HBW.out hb)
  replace HCo := Lib.hid (codeQ_below HCo.out hb)
  obtain ⟨loRC, hiRC, RC⟩ : ∃ lo hi, Hid (Ins w9 lo hi BRC r1) := ⟨_, _, Lib.hid hres.ins⟩
  clear hb hres
  have hbxSC : Below w9.heap.size w9 (w9.alloc (.cells #[.slice BRC r1.length cRC, .int .i64 mo1] 28)) := (Below.refl _ _).alloc (Nat.le_refl _) _
  have hb := hbxSC
  clear hbxSC
  have SC := Lib.hid (TwoS.new w9 (.slice BRC r1.length cRC) (.int .i64 mo1) w9.heap.size rfl)
  have g0SA := (SA.out.step hb).c0
  have g1SA := (SA.out.step hb).c1
  have g0SS := (SS.out.step hb).c0
  have g1SS := (SS.out.step hb).c1
  have g0SQ := (SQ.out.step hb).c0
  have g1SQ := (SQ.out.step hb).c1
  have g0SC := SC.out.c0
  have g1SC := SC.out.c1
  go_wp2_with fail
  clear g0SA g1SA g0SS g1SS g0SQ g1SQ g0SC g1SC
  replace HA := Lib.hid (HA.out.step hb)
  replace RA := Lib.hid (RA.out.step hb)
  replace SA := Lib.hid (SA.out.step hb)
  replace Z := Lib.hid (Z.out.step hb)
  replace SS := Lib.hid (SS.out.step hb)
  replace SQ := Lib.hid (SQ.out.step hb)
  replace RC := Lib.hid (RC.out.step hb)
  replace HBW := Lib.hid (below_trans HBW.out hb)
  replace HCo := Lib.hid (codeQ_below HCo.out hb)
  clear hb
  generalize (w9.alloc (.cells #[.slice BRC r1.length cRC, .int .i64 mo1] 28)) = w10 at HBW HCo HA RA SA Z SS SQ RC SC ⊢
  refine (HP2.out _ _ _ _ _ Z.out).mono ?_
  rintro e w11 ⟨BRD, cRD, rfl, hres, hb⟩
  replace HA := Lib.hid (HA.out.step hb)
  replace RA := Lib.hid (RA.out.step hb)
  replace SA := Lib.hid (SA.out.step hb)
  replace Z := Lib.hid (Z.out.step hb)
  replace SS := Lib.hid (SS.out.step hb)
  replace SQ := Lib.hid (SQ.out.step hb)
  replace RC := Lib.hid (RC.out.step hb)
  replace SC := Lib.hid (SC.out.step hb)
  replace HBW := Lib.hid (below_trans HBW.out hb)
  replace HCo := Lib.hid (codeQ_below HCo.out hb)
  obtain ⟨loRD, hiRD, RD⟩ : ∃ lo hi, Hid (Ins w11 lo hi BRD r1) := ⟨_, _, Lib.hid hres.ins⟩
  clear hb hres
  have hbxSD : Below w11.heap.size w11 (w11.alloc (.cells #[.slice BRD r1.length cRD, .int .i64 mo1] 28)) := (Below.refl _ _).alloc (Nat.le_refl _) _
  have hb := hbxSD
  clear hbxSD
  have SD := Lib.hid (TwoS.new w11 (.slice BRD r1.length cRD) (.int .i64 mo1) w11.heap.size rfl)
  have g0SA := (SA.out.step hb).c0
  have g1SA := (SA.out.step hb).c1
  have g0SS := (SS.out.step hb).c0
  have g1SS := (SS.out.step hb).c1
  have g0SQ := (SQ.out.step hb).c0
  have g1SQ := (SQ.out.step hb).c1
  have g0SC := (SC.out.step hb).c0
  have g1SC := (SC.out.step hb).c1
  have g0SD := SD.out.c0
  have g1SD := SD.out.c1
  go_wp2_with fail
  clear g0SA g1SA g0SS g1SS g0SQ g1SQ g0SC g1SC g0SD g1SD
  replace HA := Lib.hid (HA.out.step hb)
  replace RA := Lib.hid (RA.out.step hb)
  replace SA := Lib.hid (SA.out.step hb)
  replace Z := Lib.hid (Z.out.step hb)
  replace SS := Lib.hid (SS.out.step hb)
  replace SQ := Lib.hid (SQ.out.step hb)
  replace RC := Lib.hid (RC.out.step hb)
  replace SC := Lib.hid (SC.out.step hb)
  replace RD := Lib.hid (RD.out.step hb)
  replace HBW := Lib.hid (below_trans HBW.out hb)
  replace HCo := Lib.hid (codeQ_below HCo.out hb)
  clear hb
  generalize (w11.alloc (.cells #[.slice BRD r1.length cRD, .int .i64 mo1] 28)) = w12 at HBW HCo HA RA SA Z SS SQ RC SC RD SD ⊢
  refine (rState_same _ _ _ _ _ _ _ _ r1 mo1 _ RC.out RD.out h1).mono ?_
  rintro e w13 ⟨rfl, hb⟩
  replace HA := Lib.hid (HA.out.step hb)
  replace RA := Lib.hid (RA.out.step hb)
  replace SA := Lib.hid (SA.out.step hb)
  replace Z := Lib.hid (Z.out.step hb)
  replace SS := Lib.hid (SS.out.step hb)
  replace SQ := Lib.hid (SQ.out.step hb)
  replace RC := Lib.hid (RC.out.step hb)
  replace SC := Lib.hid (SC.out.step hb)
  replace RD := Lib.hid (RD.out.step hb)
  replace SD := Lib.hid (SD.out.step hb)
  replace HBW := Lib.hid (below_trans HBW.out hb)
  replace HCo := Lib.hid (codeQ_below HCo.out hb)
  clear hb
  clear SD RD
  clear HP1 HP2
  have c0SA := SA.out.c0
  have c1SA := SA.out.c1
  have c0SS := SS.out.c0
  have c1SS := SS.out.c1
  have c0SQ := SQ.out.c0
  have c1SQ := SQ.out.c1
  have c0SC := SC.out.c0
  have c1SC := SC.out.c1
  go_wp2_with fail
  clear c0SA c1SA c0SS c1SS c0SQ c1SQ c0SC c1SC
  refine (drawSOW_any A n c w13 HCo.out h).mono ?_
  rintro e w14 ⟨k2, m2, l2, B2, c2, rfl, hk2, hl2, ⟨lo2, hA2⟩, hb⟩
  replace HA := Lib.hid (HA.out.step hb)
  replace RA := Lib.hid (RA.out.step hb)
  replace SA := Lib.hid (SA.out.step hb)
  replace Z := Lib.hid (Z.out.step hb)
  replace SS := Lib.hid (SS.out.step hb)
  replace SQ := Lib.hid (SQ.out.step hb)
  replace RC := Lib.hid (RC.out.step hb)
  replace SC := Lib.hid (SC.out.step hb)
  replace HBW := Lib.hid (below_trans HBW.out hb)
  replace HCo := Lib.hid (codeQ_below HCo.out hb)
  have HA2 := Lib.hid hA2.ins
  clear hA2
  clear hb
  clear HCo
  obtain ⟨sm, o3, hs1, hs2, hs3⟩ := ow_facts3 k2 m2 l2 (by omega)
  have HS1 := Lib.hid hs1
  have HS2 := Lib.hid hs2
  have HS3 := Lib.hid hs3
  clear hs1 hs2 hs3
  have c0SA := SA.out.c0
  have c1SA := SA.out.c1
  have c0SS := SS.out.c0
  have c1SS := SS.out.c1
  have c0SQ := SQ.out.c0
  have c1SQ := SQ.out.c1
  have c0SC := SC.out.c0
  have c1SC := SC.out.c1
  go_wp2_with fail
  clear c0SA c1SA c0SS c1SS c0SQ c1SQ c0SC c1SC
  refine (HS1.out _ _ _ _ _ HA2.out).mono ?_
  rintro e w15 ⟨rfl, hb⟩
  replace HA := Lib.hid (HA.out.step hb)
  replace RA := Lib.hid (RA.out.step hb)
  replace SA := Lib.hid (SA.out.step hb)
  replace Z := Lib.hid (Z.out.step hb)
  replace SS := Lib.hid (SS.out.step hb)
  replace SQ := Lib.hid (SQ.out.step hb)
  replace RC := Lib.hid (RC.out.step hb)
  replace SC := Lib.hid (SC.out.step hb)
  replace HA2 := Lib.hid (HA2.out.step hb)
  replace HBW := Lib.hid (below_trans HBW.out hb)
  clear hb
  have c0SA := SA.out.c0
  have c1SA := SA.out.c1
  have c0SS := SS.out.c0
  have c1SS := SS.out.c1
  have c0SQ := SQ.out.c0
  have c1SQ := SQ.out.c1
  have c0SC := SC.out.c0
  have c1SC := SC.out.c1
  go_wp2_with fail
  clear c0SA c1SA c0SS c1SS c0SQ c1SQ c0SC c1SC
  refine (HS2.out _ _ _ _ _ HA2.out).mono ?_
  rintro e w16 ⟨rfl, hb⟩
  replace HA := Lib.hid (HA.out.step hb)
  replace RA := Lib.hid (RA.out.step hb)
  replace SA := Lib.hid (SA.out.step hb)
  replace Z := Lib.hid (Z.out.step hb)
  replace SS := Lib.hid (SS.out.step hb)
  replace SQ := Lib.hid (SQ.out.step hb)
  replace RC := Lib.hid (RC.out.step hb)
  replace SC := Lib.hid (SC.out.step hb)
  replace HA2 := Lib.hid (HA2.out.step hb)
  replace HBW := Lib.hid (below_trans HBW.out hb)
  clear hb
  clear HS1 HS2
  go_upto_if 115 with (fail)
  have HBc : Hid (Below w16.heap.size w16 w16) := Lib.hid (Below.refl _ _)
  go_cut [23, 24] from 116 to 184 (fun _ _ wx => Hid (Below w16.heap.size w16 wx))
  case first =>
    clear HBW HS3 HQ3 HQ4 HA HA2 SA RA
    rcases (show o1 = false ∨ o1 = true by cases o1 <;> simp) with hO | hO
    · subst hO
      go_wp2_with fail
      go_meet
      case rel => exact HBc
    · subst hO
      obtain ⟨hz12, hall⟩ := HP3.out rfl
      have HALL := Lib.hid hall
      clear hall HP3
      have c0SS := SS.out.c0
      have c1SS := SS.out.c1
      have c0SQ := SQ.out.c0
      have c1SQ := SQ.out.c1
      have c0SC := SC.out.c0
      have c1SC := SC.out.c1
      clear SS SQ SC
      go_wp2_with fail
      go_loopw [23] (fun i wr => ∃ j p : Nat, j ≤ zs.length ∧ i = .int .i64 j ∧ wr = w16.drewN p) (fun i _ => zs.length - (intOf i).toNat)
      case atStart => exact ⟨0, 0, Nat.zero_le _, rfl, rfl⟩
      case round =>
        obtain ⟨j, p, hj, rfl, rfl⟩ := hrel
        by_cases hlt : j < zs.length
        · obtain ⟨x, z, hx1, hx2, hx3, hx4, hx5⟩ := HALL.out j hlt
          have hjr := (List.getElem?_eq_some_iff.1 hx2).1
          obtain ⟨b, o, rfl, _, _, hc⟩ := Z.out.ints.at_ hlt
          obtain ⟨b', o', rfl, _, _, hc'⟩ := RC.out.ints.at_ hjr
          rw [List.getElem?_eq_getElem hlt] at hx1
          rw [List.getElem?_eq_getElem hjr] at hx2
          injection hx1 with hx1
          injection hx2 with hx2
          rw [hx1] at hc
          rw [hx2] at hc'
          have hjz : (j : Int) < (zs.length : Int) := by omega
          have hjy : (j : Int) < (r1.length : Int) := by omega
          have hj12 : j ≤ 12 := by omega
          clear hx1 hx2 HALL
          have hiq : (bits .and .i64 (q / 2 ^ j) 1 == 1) = inQ q j := rfl
          rcases hbq : inQ q j with _ | _
          all_goals rw [hbq] at hiq hx3 hx4 hx5
          all_goals clear hbq
          · rcases (show y = false ∨ y = true by cases y <;> simp) with hy | hy
            · subst hy
              obtain rfl := hx5 rfl rfl
              clear hx3 hx4 hx5
              go_wp2
              go_quiet (fail)
              go_wp2
              go_roundw
              case rel => exact ⟨j + 1, _, by omega, by go_num, rfl⟩
              case measure => simp [intOf]; omega
            · subst hy
              obtain rfl := hx4 rfl rfl
              clear hx3 hx4 hx5
              go_wp2
              go_quiet (fail)
              go_wp2
              go_roundw
              case rel => exact ⟨j + 1, _, by omega, by go_num, rfl⟩
              case measure => simp [intOf]; omega
          · rcases (show y = false ∨ y = true by cases y <;> simp) with hy | hy
            · subst hy
              clear hx3 hx4 hx5
              go_wp2
              go_quiet (fail)
              go_wp2
              go_roundw
              case rel => exact ⟨j + 1, _, by omega, by go_num, rfl⟩
              case measure => simp [intOf]; omega
            · subst hy
              obtain rfl := hx3 rfl rfl
              clear hx3 hx4 hx5
              go_wp2
              go_quiet (fail)
              go_wp2
              go_roundw
              case rel => exact ⟨j + 1, _, by omega, by go_num, rfl⟩
              case measure => simp [intOf]; omega
        · have hjz : ¬ (j : Int) < (zs.length : Int) := by omega
          clear HALL
          go_wp2_with fail
          go_meet
          case rel => exact Lib.hid (below_drewN HBc.out _)
  case rest =>
    clear SS SQ SC Z RC
    clear HP3
    obtain ⟨w17, hwc⟩ : ∃ x, x = wc := ⟨_, rfl⟩
    subst hwc
    have hb := hcut.out
    clear hcut HBc
    replace HA := Lib.hid (HA.out.step hb)
    replace RA := Lib.hid (RA.out.step hb)
    replace SA := Lib.hid (SA.out.step hb)
    replace HA2 := Lib.hid (HA2.out.step hb)
    replace HBW := Lib.hid (below_trans HBW.out hb)
    clear hb
    go_upto_if 185 with (fail)
    have HBc : Hid (Below w17.heap.size w17 w17) := Lib.hid (Below.refl _ _)
    go_cut [25, 26] from 186 to 209 (fun _ _ wx => Hid (Below w17.heap.size w17 wx))
    case first =>
      clear HBW HQ3 HQ4 HA SA RA
      rcases (show o3 = false ∨ o3 = true by cases o3 <;> simp) with hO | hO
      · subst hO
        go_wp2_with fail
        go_meet
        case rel => exact HBc
      · subst hO
        have HSM := Lib.hid (HS3.out rfl)
        clear HS3
        go_wp2_with fail
        go_loopw [25, 26] (fun a i wr => ∃ (j p : Nat) (b : Bool), j ≤ l2.length ∧ a = .bool b ∧ i = .int .i64 j ∧ wr = w17.drewN p ∧ Hid (b = true → ∀ i, i < j → (l2.getD i (0, false)).2 = false)) (fun _ i _ => l2.length - (intOf i).toNat)
        case atStart => exact ⟨0, 0, true, Nat.zero_le _, rfl, rfl, rfl, Lib.hid (fun _ i hi => absurd hi (Nat.not_lt_zero _))⟩
        case round =>
          obtain ⟨j, p, b, hj, rfl, rfl, rfl, HN⟩ := hrel
          by_cases hlt : j < l2.length
          · obtain ⟨g, o, rfl, _, _, _, hd⟩ := HA2.out.asks.at_ hlt
            have hjl : (j : Int) < (l2.length : Int) := by omega
            have hgd : l2.getD j (0, false) = l2[j] := by rw [List.getD, List.getElem?_eq_getElem hlt]; rfl
            have HN2 : Hid (b = true → l2[j].2 = false → ∀ i, i < j + 1 → (l2.getD i (0, false)).2 = false) := Lib.hid (fun h1 h2 i hi => by
              rcases Nat.lt_or_ge i j with h3 | h3
              · exact HN.out h1 i h3
              · obtain rfl : i = j := by omega
                rw [hgd]; exact h2)
            clear HN hgd HSM
            generalize l2[j].2 = v at hd HN2
            cases b with
            | false =>
              go_wp2
              go_roundw
              case rel => exact ⟨j + 1, p, false, by omega, rfl, by go_num, rfl, Lib.hid (fun h => by cases h)⟩
              case measure => simp [intOf]; omega
            | true =>
              cases v with
              | false =>
                go_wp2
                go_roundw
                case rel => exact ⟨j + 1, p, true, by omega, rfl, by go_num, rfl, Lib.hid (fun _ => HN2.out rfl rfl)⟩
                case measure => simp [intOf]; omega
              | true =>
                go_wp2
                go_roundw
                case rel => exact ⟨j + 1, p, false, by omega, rfl, by go_num, rfl, Lib.hid (fun h => by cases h)⟩
                case measure => simp [intOf]; omega
          · obtain rfl : j = l2.length := by omega
            have HX : Hid (b = true ∨ m2 = 0 → sm = true) := Lib.hid (fun h => HSM.out (h.imp (fun h => HN.out h) id))
            clear HN HSM
            rcases (show sm = true ∨ sm = false by cases sm <;> simp) with hsm | hsm
            · subst hsm
              clear HX
              rcases (show b = true ∨ b = false by cases b <;> simp) with hb0 | hb0
              · subst hb0
                (go_wp2_with fail; go_meet; exact Lib.hid (below_drewN HBc.out _))
              · subst hb0
                by_cases hm0 : m2 = 0
                · subst hm0
                  (go_wp2_with fail; go_meet; exact Lib.hid (below_drewN HBc.out _))
                · (go_wp2_with fail; go_meet; exact Lib.hid (below_drewN HBc.out _))
            · subst hsm
              have hb0 : b = false := by
                cases b with
                | false => rfl
                | true => exact absurd (HX.out (.inl rfl)) (by simp)
              have hm0 : ¬ m2 = 0 := fun h => absurd (HX.out (.inr h)) (by simp)
              clear HX
              subst hb0
              (go_wp2_with fail; go_meet; exact Lib.hid (below_drewN HBc.out _))
    case rest =>
      clear HA2
      clear HS3
      obtain ⟨w18, hwc⟩ : ∃ x, x = wc := ⟨_, rfl⟩
      subst hwc
      have hb := hcut.out
      clear hcut HBc
      replace HA := Lib.hid (HA.out.step hb)
      replace RA := Lib.hid (RA.out.step hb)
      replace SA := Lib.hid (SA.out.step hb)
      replace HBW := Lib.hid (below_trans HBW.out hb)
      clear hb
      rcases (show o0 = false ∨ o0 = true by cases o0 <;> simp) with hO | hO
      · subst hO
        clear HQ3 HQ4
        go_wp2
        go_ret
        exact ⟨rfl, HBW.out⟩
      · subst hO
        obtain ⟨ho2, hl0, hl2, hop⟩ := HQ4.out rfl
        subst ho2
        have HOP := Lib.hid hop
        have HL0 := Lib.hid hl0
        have HL2 := Lib.hid hl2
        clear hop HQ4 hl0 hl2
        have c0SA := SA.out.c0
        have c1SA := SA.out.c1
        go_wp2_with fail
        clear c0SA c1SA
        refine (HQ3.out _ _ _ _ _ HA.out).mono ?_
        rintro e w19 ⟨BRE, cRE, rfl, hres, hb⟩
        replace HA := Lib.hid (HA.out.step hb)
        replace RA := Lib.hid (RA.out.step hb)
        replace SA := Lib.hid (SA.out.step hb)
        replace HBW := Lib.hid (below_trans HBW.out hb)
        obtain ⟨loRE, hiRE, RE⟩ : ∃ lo hi, Hid (Ins w19 lo hi BRE r2) := ⟨_, _, Lib.hid hres.ins⟩
        clear hb hres
        have hbxSE : Below w19.heap.size w19 (w19.alloc (.cells #[.slice BRE r2.length cRE, .int .i64 mo2] 28)) := (Below.refl _ _).alloc (Nat.le_refl _) _
        have hb := hbxSE
        clear hbxSE
        have SE := Lib.hid (TwoS.new w19 (.slice BRE r2.length cRE) (.int .i64 mo2) w19.heap.size rfl)
        have g0SA := (SA.out.step hb).c0
        have g1SA := (SA.out.step hb).c1
        have g0SE := SE.out.c0
        have g1SE := SE.out.c1
        go_wp2_with fail
        clear g0SA g1SA g0SE g1SE
        replace HA := Lib.hid (HA.out.step hb)
        replace RA := Lib.hid (RA.out.step hb)
        replace SA := Lib.hid (SA.out.step hb)
        replace RE := Lib.hid (RE.out.step hb)
        replace HBW := Lib.hid (below_trans HBW.out hb)
        clear hb
        generalize (w19.alloc (.cells #[.slice BRE r2.length cRE, .int .i64 mo2] 28)) = w20 at HBW HA RA SA RE SE ⊢
        clear HQ3 HA
        have c0SA := SA.out.c0
        have c1SA := SA.out.c1
        have c0SE := SE.out.c0
        have c1SE := SE.out.c1
        clear SA SE
        go_loopw [29] (fun i wr => ∃ j p : Nat, j ≤ k ∧ i = .int .i64 j ∧ wr = w20.drewN p) (fun i _ => k - (intOf i).toNat)
        case atStart => exact ⟨0, 0, Nat.zero_le _, rfl, rfl⟩
        case round =>
          obtain ⟨j, p, hj, rfl, rfl⟩ := hrel
          by_cases hlt : j < k
          · have hj0 : j < r0.length := by have := HL0.out; omega
            have hj2 : j < r2.length := by have := HL2.out; omega
            obtain ⟨b, o, rfl, _, _, hc⟩ := RA.out.ints.at_ hj0
            obtain ⟨b', o', rfl, _, _, hc'⟩ := RE.out.ints.at_ hj2
            have HOJ : Hid (0 ≤ r0[j] → r2[j] = r0[j]) := Lib.hid (fun h => by
              have e := HOP.out j _ (List.getElem?_eq_getElem hj0) h
              rw [List.getElem?_eq_getElem hj2] at e
              injection e)
            have hjk : (j : Int) < (k : Int) := by omega
            have hjr0 : (j : Int) < (r0.length : Int) := by omega
            have hjr2 : (j : Int) < (r2.length : Int) := by omega
            generalize r0[j] = x at hc HOJ
            generalize r2[j] = z at hc' HOJ
            by_cases hx : 0 ≤ x
            · obtain rfl := HOJ.out hx
              clear HOJ
              go_wp2
              go_quiet (fail)
              go_wp2
              go_roundw
              case rel => exact ⟨j + 1, _, by omega, by go_num, rfl⟩
              case measure => simp [intOf]; omega
            · have hxd : decide (0 ≤ x) = false := decide_eq_false hx
              clear HOJ hc'
              go_wp2
              go_quiet (fail)
              go_wp2
              go_roundw
              case rel => exact ⟨j + 1, _, by omega, by go_num, rfl⟩
              case measure => simp [intOf]; omega
          · have hjk : ¬ (j : Int) < (k : Int) := by omega
            go_wp2
            go_ret
            exact ⟨rfl, below_drewN HBW.out _⟩
end Go.Proofs.Ytdkffkgoalgjmac
