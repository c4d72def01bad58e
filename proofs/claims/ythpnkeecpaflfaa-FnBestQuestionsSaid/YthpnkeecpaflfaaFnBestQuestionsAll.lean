/- The law FnBestQuestions is proved: called with any arguments it returns true, and what was there is as it was. Its condition: none beyond the row's own form.
-/
import Derived.Test.YthpnkeecpaflfaaMBG
import Derived.Test.YthpnkeecpaflfaaMdrawQ
import Derived.Test.YthpnkeecpaflfaaRows
import Derived.Deep.CutRange
import Derived.IntWalk
import Derived.WalkKit
import Derived.ProofKit
import Derived.OpenShut
import Derived.ShutString
import Derived.ChangeOld
import Derived.Below
import Derived.Carry
import Derived.Deep.DeepHandedRow
namespace Go.Proofs.Ythpnkeecpaflfaa
open Go.RowKit Go.ChangeShapes Go.WideShapes
set_option linter.unusedVariables false
set_option linter.unusedSimpArgs false

theorem tab0_at {i : Nat} (h : i + 1 < 8) : ∃ z c : Int, (tabL 0)[i]? = some z ∧ (tabL 0)[i + 1]? = some c ∧ ¬ c < z ∧ ((c = 1 ∧ 0 ≤ i ∧ i ≤ 0) ∨ (c = 2 ∧ 1 ≤ i ∧ i ≤ 2) ∨ (c = 3 ∧ 3 ≤ i ∧ i ≤ 6)) := by
  obtain rfl | rfl | rfl | rfl | rfl | rfl | rfl : i = 0 ∨ i = 1 ∨ i = 2 ∨ i = 3 ∨ i = 4 ∨ i = 5 ∨ i = 6 := by omega
  all_goals exact ⟨_, _, rfl, rfl, by decide, by decide⟩
set_option maxRecDepth 100000 in
set_option maxHeartbeats 40000000 in
theorem fnBestQuestions_run (A : Option Addr) (n c : Nat) (W : World) (hC : Code W W.heap.size A n) (hcm : n ≤ maxLen) (h : n ≤ 65536) :
    Calls Try.prog 3 #[.slice A n c] W fun e w' => e = .returned (.bool true) ∧ Below W.heap.size W w' := by
  have HBW := Lib.hid (Below.refl W.heap.size W)
  have HV := Lib.hid (rBig_any A n c W hcm)
  rw [decide_eq_false (by omega)] at HV
  have HCd := Lib.hid hC
  clear hC
  go_enter Try.func3, Try.ntmps3
  go_wp2_with fail
  refine HV.out.mono ?_
  rintro e w0 ⟨rfl, hw⟩
  have hw := hw.symm
  subst hw
  clear HV
  go_wp2_with fail
  refine (drawBQ_any A n c _ (codeQ_below HCd.out HBW.out) h).mono ?_
  rintro e w1 ⟨zs, B, c', m, rfl, hzl, hres, hb⟩
  replace HBW := Lib.hid (below_trans HBW.out hb)
  clear hb
  obtain ⟨loI, hiI, HI⟩ : ∃ lo hi, Hid (Ins w1 lo hi B zs) := ⟨_, _, Lib.hid hres.ins⟩
  have hzs : zs.length ≤ 1048576 := by omega
  clear hres hzl
  obtain ⟨best, ok, hF1⟩ := bf1 zs m hzs
  have F1 := Lib.hid hF1
  clear hF1
  have hb : Below w1.heap.size w1 (w1.alloc (.cells #[.slice B zs.length c', .int .i64 m] 26)) := (Below.refl _ _).alloc (Nat.le_refl _) _
  have HS := Lib.hid (TwoS.new w1 (.slice B zs.length c') (.int .i64 m) w1.heap.size rfl)
  have g0HS := HS.out.c0
  have g1HS := HS.out.c1
  go_wp2_with fail
  clear g0HS g1HS
  replace HI := Lib.hid (HI.out.step hb)
  replace HBW := Lib.hid (below_trans HBW.out hb)
  clear hb
  generalize (w1.alloc (.cells #[.slice B zs.length c', .int .i64 m] 26)) = w2 at HBW HI HS ⊢
  refine (F1.out.i _ _ _ _ _ HI.out).mono ?_
  rintro e w3 ⟨rfl, hb⟩
  replace HI := Lib.hid (HI.out.step hb)
  replace HS := Lib.hid (HS.out.step hb)
  replace HBW := Lib.hid (below_trans HBW.out hb)
  clear hb
  have c0HS := HS.out.c0
  have c1HS := HS.out.c1
  go_wp2_with fail
  refine (F1.out.s _ _ _ _ _ HI.out).mono ?_
  rintro e w4 ⟨rfl, hb⟩
  clear c0HS c1HS
  replace HI := Lib.hid (HI.out.step hb)
  replace HS := Lib.hid (HS.out.step hb)
  replace HBW := Lib.hid (below_trans HBW.out hb)
  clear hb
  have c0HS := HS.out.c0
  have c1HS := HS.out.c1
  go_wp2_with fail
  refine (drawQN_any A n c _ (codeQ_below HCd.out HBW.out) h).mono ?_
  rintro e w5 ⟨ts, D, d', m2, q, rfl, htl, hres, hb⟩
  clear c0HS c1HS
  replace HI := Lib.hid (HI.out.step hb)
  replace HS := Lib.hid (HS.out.step hb)
  replace HBW := Lib.hid (below_trans HBW.out hb)
  clear hb
  obtain ⟨loJ, hiJ, HJ⟩ : ∃ lo hi, Hid (Ins w5 lo hi D ts) := ⟨_, _, Lib.hid hres.ins⟩
  have hts : ts.length ≤ 1048576 := by omega
  clear hres htl
  obtain ⟨need, one, hF2⟩ := bf2 ts m2 q hts
  have F2 := Lib.hid hF2
  clear hF2
  have hb : Below w5.heap.size w5 (w5.alloc (.cells #[.slice D ts.length d', .int .i64 m2] 26)) := (Below.refl _ _).alloc (Nat.le_refl _) _
  have HU := Lib.hid (TwoS.new w5 (.slice D ts.length d') (.int .i64 m2) w5.heap.size rfl)
  have g0HS := (HS.out.step hb).c0
  have g1HS := (HS.out.step hb).c1
  have g0HU := HU.out.c0
  have g1HU := HU.out.c1
  go_wp2_with fail
  clear g0HS g1HS g0HU g1HU
  replace HI := Lib.hid (HI.out.step hb)
  replace HS := Lib.hid (HS.out.step hb)
  replace HJ := Lib.hid (HJ.out.step hb)
  replace HBW := Lib.hid (below_trans HBW.out hb)
  clear hb
  generalize (w5.alloc (.cells #[.slice D ts.length d', .int .i64 m2] 26)) = w6 at HBW HI HS HJ HU ⊢
  refine (F2.out.i _ _ _ _ _ HJ.out).mono ?_
  rintro e w7 ⟨rfl, hb⟩
  replace HI := Lib.hid (HI.out.step hb)
  replace HS := Lib.hid (HS.out.step hb)
  replace HJ := Lib.hid (HJ.out.step hb)
  replace HU := Lib.hid (HU.out.step hb)
  replace HBW := Lib.hid (below_trans HBW.out hb)
  clear hb
  have c0HS := HS.out.c0
  have c1HS := HS.out.c1
  have c0HU := HU.out.c0
  have c1HU := HU.out.c1
  go_wp2_with fail
  refine (F2.out.s _ _ _ _ _ HJ.out).mono ?_
  rintro e w8 ⟨rfl, hb⟩
  clear c0HS c1HS c0HU c1HU
  replace HI := Lib.hid (HI.out.step hb)
  replace HS := Lib.hid (HS.out.step hb)
  replace HJ := Lib.hid (HJ.out.step hb)
  replace HU := Lib.hid (HU.out.step hb)
  replace HBW := Lib.hid (below_trans HBW.out hb)
  clear hb
  have c0HS := HS.out.c0
  have c1HS := HS.out.c1
  have c0HU := HU.out.c0
  have c1HU := HU.out.c1
  go_wp2_with fail
  refine (drawMN_any A n c _ (codeQ_below HCd.out HBW.out) h).mono ?_
  rintro e w9 ⟨x, y, rfl, hb⟩
  clear c0HS c1HS c0HU c1HU
  replace HI := Lib.hid (HI.out.step hb)
  replace HS := Lib.hid (HS.out.step hb)
  replace HJ := Lib.hid (HJ.out.step hb)
  replace HU := Lib.hid (HU.out.step hb)
  replace HBW := Lib.hid (below_trans HBW.out hb)
  clear hb
  obtain ⟨numbers, two, hF3⟩ := bf3 x y
  have F3 := Lib.hid hF3
  clear hF3
  have c0HS := HS.out.c0
  have c1HS := HS.out.c1
  have c0HU := HU.out.c0
  have c1HU := HU.out.c1
  go_wp2_with fail
  refine (F3.out.i _).mono ?_
  rintro e w10 ⟨rfl, hb⟩
  clear c0HS c1HS c0HU c1HU
  replace HI := Lib.hid (HI.out.step hb)
  replace HS := Lib.hid (HS.out.step hb)
  replace HJ := Lib.hid (HJ.out.step hb)
  replace HU := Lib.hid (HU.out.step hb)
  replace HBW := Lib.hid (below_trans HBW.out hb)
  clear hb
  have c0HS := HS.out.c0
  have c1HS := HS.out.c1
  have c0HU := HU.out.c0
  have c1HU := HU.out.c1
  go_wp2_with fail
  refine (F3.out.s _).mono ?_
  rintro e w11 ⟨rfl, hb⟩
  clear c0HS c1HS c0HU c1HU
  replace HI := Lib.hid (HI.out.step hb)
  replace HS := Lib.hid (HS.out.step hb)
  replace HJ := Lib.hid (HJ.out.step hb)
  replace HU := Lib.hid (HU.out.step hb)
  replace HBW := Lib.hid (below_trans HBW.out hb)
  clear hb
  have c0HS := HS.out.c0
  have c1HS := HS.out.c1
  have c0HU := HU.out.c0
  have c1HU := HU.out.c1
  go_wp2_with fail
  refine (drawNT_any A n c _ (codeQ_below HCd.out HBW.out) h).mono ?_
  rintro e w12 ⟨l, rfl, hb⟩
  clear c0HS c1HS c0HU c1HU
  replace HI := Lib.hid (HI.out.step hb)
  replace HS := Lib.hid (HS.out.step hb)
  replace HJ := Lib.hid (HJ.out.step hb)
  replace HU := Lib.hid (HU.out.step hb)
  replace HBW := Lib.hid (below_trans HBW.out hb)
  clear hb
  obtain ⟨table, three, hF4⟩ := bf4 l
  have F4 := Lib.hid hF4
  clear hF4
  have c0HS := HS.out.c0
  have c1HS := HS.out.c1
  have c0HU := HU.out.c0
  have c1HU := HU.out.c1
  go_wp2_with fail
  refine (F4.out.i _).mono ?_
  rintro e w13 ⟨BT1, cT1, rfl, hres, hb⟩
  clear c0HS c1HS c0HU c1HU
  replace HI := Lib.hid (HI.out.step hb)
  replace HS := Lib.hid (HS.out.step hb)
  replace HJ := Lib.hid (HJ.out.step hb)
  replace HU := Lib.hid (HU.out.step hb)
  replace HBW := Lib.hid (below_trans HBW.out hb)
  obtain ⟨loT1, hiT1, T1⟩ : ∃ lo hi, Hid (Ins w13 lo hi BT1 table) := ⟨_, _, Lib.hid hres.ins⟩
  clear hb hres
  have c0HS := HS.out.c0
  have c1HS := HS.out.c1
  have c0HU := HU.out.c0
  have c1HU := HU.out.c1
  go_wp2_with fail
  refine (F4.out.s _).mono ?_
  rintro e w14 ⟨BT2, cT2, rfl, hres, hb⟩
  clear c0HS c1HS c0HU c1HU
  replace HI := Lib.hid (HI.out.step hb)
  replace HS := Lib.hid (HS.out.step hb)
  replace HJ := Lib.hid (HJ.out.step hb)
  replace HU := Lib.hid (HU.out.step hb)
  replace T1 := Lib.hid (T1.out.step hb)
  replace HBW := Lib.hid (below_trans HBW.out hb)
  obtain ⟨loT2, hiT2, T2⟩ : ∃ lo hi, Hid (Ins w14 lo hi BT2 table) := ⟨_, _, Lib.hid hres.ins⟩
  clear hb hres
  have c0HS := HS.out.c0
  have c1HS := HS.out.c1
  have c0HU := HU.out.c0
  have c1HU := HU.out.c1
  go_wp2_with fail
  refine (rInts_same _ _ _ _ _ _ _ _ table _ T1.out T2.out F4.out.len).mono ?_
  rintro e w15 ⟨rfl, hb⟩
  clear c0HS c1HS c0HU c1HU
  replace HI := Lib.hid (HI.out.step hb)
  replace HS := Lib.hid (HS.out.step hb)
  replace HJ := Lib.hid (HJ.out.step hb)
  replace HU := Lib.hid (HU.out.step hb)
  replace T1 := Lib.hid (T1.out.step hb)
  replace T2 := Lib.hid (T2.out.step hb)
  replace HBW := Lib.hid (below_trans HBW.out hb)
  clear hb
  have c0HS := HS.out.c0
  have c1HS := HS.out.c1
  have c0HU := HU.out.c0
  have c1HU := HU.out.c1
  go_upto_if 129 with (fail)
  clear c0HS c1HS c0HU c1HU
  have HBc : Hid (Below w15.heap.size w15 w15) := Below.refl _ _
  go_cut [25] from 130 to 226 (fun _ wx => Hid (Below w15.heap.size w15 wx))
  case first =>
    rcases (show three = false ∨ three = true by cases three <;> simp) with hth | hth
    · subst hth
      go_wp2_with fail
      go_meet
      case rel => exact HBc
    · subst hth
      obtain ⟨a, ha, hla, htab⟩ := F4.out.k rfl
      subst hla htab
      have hlen : (tabL a).length = 8 := by
        obtain rfl | rfl | rfl : a = 0 ∨ a = 1 ∨ a = 2 := by omega
        all_goals rfl
      have HT := T1
      have HLn := Lib.hid hlen
      clear hlen
      go_wp2_with fail
      go_loopw [25] (fun i wr => ∃ j : Nat, j ≤ 8 ∧ i = .int .i64 (j : Int) ∧ Hid (Below w15.heap.size w15 wr)) (fun i _ => 8 - (intOf i).toNat)
      case atStart => exact ⟨0, by omega, rfl, HBc⟩
      case round =>
        obtain ⟨j, hj, rfl, HB⟩ := hrel
        rename World => wr
        obtain ⟨b, o, hBe, _, _, hcs⟩ := (HT.out.step HB.out).ints (by rw [HLn.out]; omega)
        subst hBe
        by_cases hj8 : j < 8
        · have hjI : (j : Int) < ((tabL a).length : Int) := by rw [HLn.out]; omega
          rcases Nat.eq_zero_or_pos j with hj0 | hj0
          · subst hj0
            have hc := hcs 0 0 (by
              obtain rfl | rfl | rfl : a = 0 ∨ a = 1 ∨ a = 2 := by omega
              all_goals rfl)
            rw [Nat.add_zero] at hc
            clear hcs
            go_wp2_with fail
            go_quiet (fail)
            go_wp2
            go_roundw
            case rel => exact ⟨1, by omega, rfl, Lib.hid (below_drewN HB.out _)⟩
            case measure => simp [intOf]
          · obtain ⟨i, rfl⟩ : ∃ i, j = i + 1 := ⟨j - 1, by omega⟩
            by_cases ha0 : a = 0
            · obtain ⟨z, cc, hz1, hz2, hlt, hcase⟩ := tab0_at hj8
              rw [← ha0] at hz1 hz2
              have haT : ((a : Int) == 0) = true := by simp [ha0]
              have haD : decide ((a : Int) = 0) = true := by simp [ha0]
              have haE : decide (a = 0) = true := by simp [ha0]
              have haG : (a == 0) = true := by simp [ha0]
              clear ha0
              clear hjI
              rcases hcase with ⟨hcc, hi0, hi6⟩ | ⟨hcc, hi0, hi6⟩ | ⟨hcc, hi0, hi6⟩
              · subst hcc
                have hA1 : ¬ (2 : Int) < ((i : Nat) : Int) + 1 + 1 := by omega
                have hA2 : decide ((2 : Int) < ((i : Nat) : Int) + 1 + 1) = false := decide_eq_false hA1
                have hB1 : ¬ ((i : Nat) : Int) + 1 + 1 ≤ 1 := by omega
                have hB2 : decide (((i : Nat) : Int) + 1 + 1 ≤ 1) = false := decide_eq_false hB1
                have hA3 : ¬ (2 : Int) < ((i : Nat) : Int) + 2 := by omega
                have hA4 : decide ((2 : Int) < ((i : Nat) : Int) + 2) = false := decide_eq_false hA3
                have hB3 : ¬ ((i : Nat) : Int) + 2 ≤ 1 := by omega
                have hB4 : decide (((i : Nat) : Int) + 2 ≤ 1) = false := decide_eq_false hB3
                have hW : IntKind.i64.wrap (((i : Nat) : Int) + 1 + 1) = ((i : Nat) : Int) + 1 + 1 := IntWalk.i64_in _ (by omega)
                have hd := hcs i _ hz1
                have hc := hcs (i + 1) _ hz2
                have hj0I : (((i + 1 : Nat) : Int) == 0) = false := by simp; omega
                have hltD : decide ((1 : Int) < z) = false := decide_eq_false hlt
                have hsub : IntKind.i64.wrap (((i : Nat) : Int) + 1 - 1) = (i : Int) := by rw [show ((i : Nat) : Int) + 1 - 1 = (i : Int) by omega]; exact IntWalk.i64_in _ (by omega)
                have hpos : (0 : Int) < ((i : Nat) : Int) + 1 := by omega
                have hJ0 : ((((i : Nat) : Int) + 1) == 0) = false := by simp; omega
                have hJ1 : ¬ ((i : Nat) : Int) + 1 = 0 := by omega
                have hJ2 : decide (((i : Nat) : Int) + 1 = 0) = false := decide_eq_false hJ1
                have hI0 : (0 : Int) ≤ ((i : Nat) : Int) + 1 := by omega
                have hI1 : ((i : Nat) : Int) + 1 < ((tabL a).length : Int) := by rw [HLn.out]; omega
                have hI2 : i + 1 < (tabL a).length := by rw [HLn.out]; omega
                have hI3 : (((i : Nat) : Int) + 1).toNat = i + 1 := by omega
                have hI4 : ((i : Nat) : Int) < ((tabL a).length : Int) := by rw [HLn.out]; omega
                have hI5 : i < (tabL a).length := by rw [HLn.out]; omega
                have hI6 : ((i : Nat) : Int) + 1 - 1 = (i : Int) := by omega
                have hI7 : IntKind.i64.wrap (i : Int) = (i : Int) := IntWalk.i64_in _ (by omega)
                have hposD : decide ((0 : Int) < ((i : Nat) : Int) + 1) = true := decide_eq_true hpos
                clear hz1 hz2 hi0 hi6
                clear hcs hj0
                go_wp2_with fail
                go_quiet (fail)
                go_wp2
                go_roundw
                case rel => exact ⟨i + 2, by omega, by go_num, Lib.hid (below_drewN HB.out _)⟩
                case measure => simp [intOf]; omega
              · subst hcc
                have hA1 : ¬ (4 : Int) < ((i : Nat) : Int) + 1 + 1 := by omega
                have hA2 : decide ((4 : Int) < ((i : Nat) : Int) + 1 + 1) = false := decide_eq_false hA1
                have hB1 : ¬ ((i : Nat) : Int) + 1 + 1 ≤ 2 := by omega
                have hB2 : decide (((i : Nat) : Int) + 1 + 1 ≤ 2) = false := decide_eq_false hB1
                have hA3 : ¬ (4 : Int) < ((i : Nat) : Int) + 2 := by omega
                have hA4 : decide ((4 : Int) < ((i : Nat) : Int) + 2) = false := decide_eq_false hA3
                have hB3 : ¬ ((i : Nat) : Int) + 2 ≤ 2 := by omega
                have hB4 : decide (((i : Nat) : Int) + 2 ≤ 2) = false := decide_eq_false hB3
                have hW : IntKind.i64.wrap (((i : Nat) : Int) + 1 + 1) = ((i : Nat) : Int) + 1 + 1 := IntWalk.i64_in _ (by omega)
                have hd := hcs i _ hz1
                have hc := hcs (i + 1) _ hz2
                have hj0I : (((i + 1 : Nat) : Int) == 0) = false := by simp; omega
                have hltD : decide ((2 : Int) < z) = false := decide_eq_false hlt
                have hsub : IntKind.i64.wrap (((i : Nat) : Int) + 1 - 1) = (i : Int) := by rw [show ((i : Nat) : Int) + 1 - 1 = (i : Int) by omega]; exact IntWalk.i64_in _ (by omega)
                have hpos : (0 : Int) < ((i : Nat) : Int) + 1 := by omega
                have hJ0 : ((((i : Nat) : Int) + 1) == 0) = false := by simp; omega
                have hJ1 : ¬ ((i : Nat) : Int) + 1 = 0 := by omega
                have hJ2 : decide (((i : Nat) : Int) + 1 = 0) = false := decide_eq_false hJ1
                have hI0 : (0 : Int) ≤ ((i : Nat) : Int) + 1 := by omega
                have hI1 : ((i : Nat) : Int) + 1 < ((tabL a).length : Int) := by rw [HLn.out]; omega
                have hI2 : i + 1 < (tabL a).length := by rw [HLn.out]; omega
                have hI3 : (((i : Nat) : Int) + 1).toNat = i + 1 := by omega
                have hI4 : ((i : Nat) : Int) < ((tabL a).length : Int) := by rw [HLn.out]; omega
                have hI5 : i < (tabL a).length := by rw [HLn.out]; omega
                have hI6 : ((i : Nat) : Int) + 1 - 1 = (i : Int) := by omega
                have hI7 : IntKind.i64.wrap (i : Int) = (i : Int) := IntWalk.i64_in _ (by omega)
                have hposD : decide ((0 : Int) < ((i : Nat) : Int) + 1) = true := decide_eq_true hpos
                clear hz1 hz2 hi0 hi6
                clear hcs hj0
                go_wp2_with fail
                go_quiet (fail)
                go_wp2
                go_roundw
                case rel => exact ⟨i + 2, by omega, by go_num, Lib.hid (below_drewN HB.out _)⟩
                case measure => simp [intOf]; omega
              · subst hcc
                have hA1 : ¬ (8 : Int) < ((i : Nat) : Int) + 1 + 1 := by omega
                have hA2 : decide ((8 : Int) < ((i : Nat) : Int) + 1 + 1) = false := decide_eq_false hA1
                have hB1 : ¬ ((i : Nat) : Int) + 1 + 1 ≤ 4 := by omega
                have hB2 : decide (((i : Nat) : Int) + 1 + 1 ≤ 4) = false := decide_eq_false hB1
                have hA3 : ¬ (8 : Int) < ((i : Nat) : Int) + 2 := by omega
                have hA4 : decide ((8 : Int) < ((i : Nat) : Int) + 2) = false := decide_eq_false hA3
                have hB3 : ¬ ((i : Nat) : Int) + 2 ≤ 4 := by omega
                have hB4 : decide (((i : Nat) : Int) + 2 ≤ 4) = false := decide_eq_false hB3
                have hW : IntKind.i64.wrap (((i : Nat) : Int) + 1 + 1) = ((i : Nat) : Int) + 1 + 1 := IntWalk.i64_in _ (by omega)
                have hd := hcs i _ hz1
                have hc := hcs (i + 1) _ hz2
                have hj0I : (((i + 1 : Nat) : Int) == 0) = false := by simp; omega
                have hltD : decide ((3 : Int) < z) = false := decide_eq_false hlt
                have hsub : IntKind.i64.wrap (((i : Nat) : Int) + 1 - 1) = (i : Int) := by rw [show ((i : Nat) : Int) + 1 - 1 = (i : Int) by omega]; exact IntWalk.i64_in _ (by omega)
                have hpos : (0 : Int) < ((i : Nat) : Int) + 1 := by omega
                have hJ0 : ((((i : Nat) : Int) + 1) == 0) = false := by simp; omega
                have hJ1 : ¬ ((i : Nat) : Int) + 1 = 0 := by omega
                have hJ2 : decide (((i : Nat) : Int) + 1 = 0) = false := decide_eq_false hJ1
                have hI0 : (0 : Int) ≤ ((i : Nat) : Int) + 1 := by omega
                have hI1 : ((i : Nat) : Int) + 1 < ((tabL a).length : Int) := by rw [HLn.out]; omega
                have hI2 : i + 1 < (tabL a).length := by rw [HLn.out]; omega
                have hI3 : (((i : Nat) : Int) + 1).toNat = i + 1 := by omega
                have hI4 : ((i : Nat) : Int) < ((tabL a).length : Int) := by rw [HLn.out]; omega
                have hI5 : i < (tabL a).length := by rw [HLn.out]; omega
                have hI6 : ((i : Nat) : Int) + 1 - 1 = (i : Int) := by omega
                have hI7 : IntKind.i64.wrap (i : Int) = (i : Int) := IntWalk.i64_in _ (by omega)
                have hposD : decide ((0 : Int) < ((i : Nat) : Int) + 1) = true := decide_eq_true hpos
                clear hz1 hz2 hi0 hi6
                clear hcs hj0
                go_wp2_with fail
                go_quiet (fail)
                go_wp2
                go_roundw
                case rel => exact ⟨i + 2, by omega, by go_num, Lib.hid (below_drewN HB.out _)⟩
                case measure => simp [intOf]; omega
            · have haF : ((a : Int) == 0) = false := by simp; omega
              have haN : ¬ (a : Int) = 0 := by omega
              have haD : decide ((a : Int) = 0) = false := decide_eq_false haN
              have h2 : (tabL a)[i]? = some ((tabL a).getD i 0) ∧ (tabL a)[i + 1]? = some ((tabL a).getD (i + 1) 0) ∧ ¬ (tabL a).getD (i + 1) 0 < (tabL a).getD i 0 := by
                obtain rfl | rfl : a = 1 ∨ a = 2 := by omega
                all_goals
                  obtain rfl | rfl | rfl | rfl | rfl | rfl | rfl : i = 0 ∨ i = 1 ∨ i = 2 ∨ i = 3 ∨ i = 4 ∨ i = 5 ∨ i = 6 := by omega
                  all_goals (refine ⟨rfl, rfl, by decide⟩)
              obtain ⟨z, hz⟩ : ∃ z, z = (tabL a).getD i 0 := ⟨_, rfl⟩
              obtain ⟨z2, hz2'⟩ : ∃ z, z = (tabL a).getD (i + 1) 0 := ⟨_, rfl⟩
              rw [← hz, ← hz2'] at h2
              obtain ⟨hz1, hz2, hlt⟩ := h2
              clear hz hz2'
              have hd := hcs i _ hz1
              have hc := hcs (i + 1) _ hz2
              have hj0I : (((i + 1 : Nat) : Int) == 0) = false := by simp; omega
              have hltD : decide ((z2 : Int) < z) = false := decide_eq_false hlt
              have hsub : IntKind.i64.wrap (((i : Nat) : Int) + 1 - 1) = (i : Int) := by rw [show ((i : Nat) : Int) + 1 - 1 = (i : Int) by omega]; exact IntWalk.i64_in _ (by omega)
              have hpos : (0 : Int) < ((i : Nat) : Int) + 1 := by omega
              have hJ0 : ((((i : Nat) : Int) + 1) == 0) = false := by simp; omega
              have hJ1 : ¬ ((i : Nat) : Int) + 1 = 0 := by omega
              have hJ2 : decide (((i : Nat) : Int) + 1 = 0) = false := decide_eq_false hJ1
              have hI0 : (0 : Int) ≤ ((i : Nat) : Int) + 1 := by omega
              have hI1 : ((i : Nat) : Int) + 1 < ((tabL a).length : Int) := by rw [HLn.out]; omega
              have hI2 : i + 1 < (tabL a).length := by rw [HLn.out]; omega
              have hI3 : (((i : Nat) : Int) + 1).toNat = i + 1 := by omega
              have hI4 : ((i : Nat) : Int) < ((tabL a).length : Int) := by rw [HLn.out]; omega
              have hI5 : i < (tabL a).length := by rw [HLn.out]; omega
              have hI6 : ((i : Nat) : Int) + 1 - 1 = (i : Int) := by omega
              have hI7 : IntKind.i64.wrap (i : Int) = (i : Int) := IntWalk.i64_in _ (by omega)
              have hposD : decide ((0 : Int) < ((i : Nat) : Int) + 1) = true := decide_eq_true hpos
              clear hz1 hz2
              clear hcs hj0
              go_wp2_with fail
              go_quiet (fail)
              go_wp2
              go_roundw
              case rel => exact ⟨i + 2, by omega, by go_num, Lib.hid (below_drewN HB.out _)⟩
              case measure => simp [intOf]; omega
        · obtain rfl : j = 8 := by omega
          have h8I : ¬ (8 : Int) < ((tabL a).length : Int) := by rw [HLn.out]; omega
          rcases (show two = false ∨ two = true by cases two <;> simp) with htw | htw
          · subst htw
            clear hcs
            go_wp2_with fail
            go_meet
            case rel => exact HB
          · subst htw
            obtain ⟨a2, j, ha2, hya, hj7, hnum, hnd1, hnd2⟩ := F3.out.k rfl
            subst hya hnum
            by_cases hae : a2 = a
            · subst hae
              have hget : ∀ j, j < 8 → (tabL a2)[j]? = some ((tabL a2).getD j 0) := fun j hj => by simp [List.getD, HLn.out, hj]
              have hc := hcs j _ (hget j (by omega))
              have hn1 : ¬ x < (tabL a2).getD j 0 := by omega
              by_cases hj8 : j = 7
              · subst hj8
                have h7n : 7 < (tabL a2).length := by rw [HLn.out]; omega
                have h8n : ¬ ((7 : Nat) : Int) + 1 < ((tabL a2).length : Int) := by rw [HLn.out]; omega
                clear hcs hnd2 hget
                generalize (tabL a2).getD 7 0 = z at hc hn1 hnd1
                go_wp2_with fail
                go_meet
                case rel => exact HB
              · have hnx : x < (tabL a2).getD (j + 1) 0 := by rcases hnd2 with h2 | h2; exact absurd h2 hj8; exact h2
                have hd := hcs (j + 1) _ (hget (j + 1) (by omega))
                have hn2 : ¬ (tabL a2).getD (j + 1) 0 ≤ x := by omega
                have hj8I : (j : Int) + 1 < ((tabL a2).length : Int) := by rw [HLn.out]; omega
                have hj9 : (j : Int) < ((tabL a2).length : Int) := by rw [HLn.out]; omega
                have hj9n : j < (tabL a2).length := by rw [HLn.out]; omega
                have hj8n : j + 1 < (tabL a2).length := by rw [HLn.out]; omega
                clear hcs hnd2 hj8 hget
                generalize (tabL a2).getD j 0 = z at hc hn1 hnd1
                generalize (tabL a2).getD (j + 1) 0 = z2 at hd hn2 hnx
                go_wp2_with fail
                go_meet
                case rel => exact HB
            · have haI : ((a2 : Int) == (a : Int)) = false := by simp; omega
              have haN : ¬ (a2 : Int) = (a : Int) := by omega
              clear hcs
              go_wp2_with fail
              go_meet
              case rel => exact HB
  case rest =>
    have hb : Below w15.heap.size w15 _ := hcut.out
    clear hcut HBc T1 T2
    replace HI := Lib.hid (HI.out.step hb)
    replace HS := Lib.hid (HS.out.step hb)
    replace HJ := Lib.hid (HJ.out.step hb)
    replace HU := Lib.hid (HU.out.step hb)
    replace HBW := Lib.hid (below_trans HBW.out hb)
    clear hb
    rcases hone : one with _ | _
    ·
      have c0HS := HS.out.c0
      have c1HS := HS.out.c1
      have c0HU := HU.out.c0
      have c1HU := HU.out.c1
      rcases hok : ok with _ | _
      ·
        go_wp2
        go_ret
        exact ⟨rfl, HBW.out⟩
      ·
        clear c0HS c1HS c0HU c1HU
        obtain ⟨cs, ow, hCo, hNe, hQn⟩ := F1.out.k hok
        have HCo := Lib.hid hCo
        have HNe := Lib.hid hNe
        have HQn := Lib.hid hQn
        clear hCo hNe hQn
        have c0HS := HS.out.c0
        have c1HS := HS.out.c1
        have c0HU := HU.out.c0
        have c1HU := HU.out.c1
        go_wp2_with fail
        refine (HCo.out _ _ _ _ _ HI.out).mono ?_
        rintro e w17 ⟨BC2, cC2, rfl, hres, hb⟩
        clear c0HS c1HS c0HU c1HU
        replace HI := Lib.hid (HI.out.step hb)
        replace HS := Lib.hid (HS.out.step hb)
        replace HJ := Lib.hid (HJ.out.step hb)
        replace HU := Lib.hid (HU.out.step hb)
        replace HBW := Lib.hid (below_trans HBW.out hb)
        obtain ⟨loC2, hiC2, C2⟩ : ∃ lo hi, Hid (Ins w17 lo hi BC2 cs) := ⟨_, _, Lib.hid hres.ins⟩
        clear hb hres
        have c0HS := HS.out.c0
        have c1HS := HS.out.c1
        have c0HU := HU.out.c0
        have c1HU := HU.out.c1
        go_wp2_with fail
        refine (HNe.out _ _ _ _ _ C2.out).mono ?_
        rintro e w18 ⟨rfl, hb⟩
        clear c0HS c1HS c0HU c1HU
        replace HI := Lib.hid (HI.out.step hb)
        replace HS := Lib.hid (HS.out.step hb)
        replace HJ := Lib.hid (HJ.out.step hb)
        replace HU := Lib.hid (HU.out.step hb)
        replace C2 := Lib.hid (C2.out.step hb)
        replace HBW := Lib.hid (below_trans HBW.out hb)
        clear hb
        have c0HS := HS.out.c0
        have c1HS := HS.out.c1
        have c0HU := HU.out.c0
        have c1HU := HU.out.c1
        go_wp2_with fail
        refine (HQn.out _ _ _ _ _ HI.out).mono ?_
        rintro e w19 ⟨rfl, hb⟩
        clear c0HS c1HS c0HU c1HU
        replace HI := Lib.hid (HI.out.step hb)
        replace HS := Lib.hid (HS.out.step hb)
        replace HJ := Lib.hid (HJ.out.step hb)
        replace HU := Lib.hid (HU.out.step hb)
        replace C2 := Lib.hid (C2.out.step hb)
        replace HBW := Lib.hid (below_trans HBW.out hb)
        clear hb
        go_wp2
        go_ret
        exact ⟨rfl, HBW.out⟩
    ·
      obtain ⟨ds, ow2, hCo2, hNe2, hle⟩ := F2.out.k hone
      have HCo2 := Lib.hid hCo2
      have HNe2 := Lib.hid hNe2
      clear hCo2 hNe2
      have c0HS := HS.out.c0
      have c1HS := HS.out.c1
      have c0HU := HU.out.c0
      have c1HU := HU.out.c1
      go_wp2_with fail
      refine (HCo2.out _ _ _ _ _ HJ.out).mono ?_
      rintro e w17 ⟨BC1, cC1, rfl, hres, hb⟩
      clear c0HS c1HS c0HU c1HU
      replace HI := Lib.hid (HI.out.step hb)
      replace HS := Lib.hid (HS.out.step hb)
      replace HJ := Lib.hid (HJ.out.step hb)
      replace HU := Lib.hid (HU.out.step hb)
      replace HBW := Lib.hid (below_trans HBW.out hb)
      obtain ⟨loC1, hiC1, C1⟩ : ∃ lo hi, Hid (Ins w17 lo hi BC1 ds) := ⟨_, _, Lib.hid hres.ins⟩
      clear hb hres
      have c0HS := HS.out.c0
      have c1HS := HS.out.c1
      have c0HU := HU.out.c0
      have c1HU := HU.out.c1
      go_wp2_with fail
      refine (HNe2.out _ _ _ _ _ C1.out).mono ?_
      rintro e w18 ⟨rfl, hb⟩
      clear c0HS c1HS c0HU c1HU
      replace HI := Lib.hid (HI.out.step hb)
      replace HS := Lib.hid (HS.out.step hb)
      replace HJ := Lib.hid (HJ.out.step hb)
      replace HU := Lib.hid (HU.out.step hb)
      replace C1 := Lib.hid (C1.out.step hb)
      replace HBW := Lib.hid (below_trans HBW.out hb)
      clear hb
      have hnl : ¬ need < ow2 := by omega
      have c0HS := HS.out.c0
      have c1HS := HS.out.c1
      have c0HU := HU.out.c0
      have c1HU := HU.out.c1
      rcases hok : ok with _ | _
      ·
        go_wp2
        go_ret
        exact ⟨rfl, HBW.out⟩
      ·
        clear c0HS c1HS c0HU c1HU
        obtain ⟨cs, ow, hCo, hNe, hQn⟩ := F1.out.k hok
        have HCo := Lib.hid hCo
        have HNe := Lib.hid hNe
        have HQn := Lib.hid hQn
        clear hCo hNe hQn
        have c0HS := HS.out.c0
        have c1HS := HS.out.c1
        have c0HU := HU.out.c0
        have c1HU := HU.out.c1
        go_wp2_with fail
        refine (HCo.out _ _ _ _ _ HI.out).mono ?_
        rintro e w19 ⟨BC2, cC2, rfl, hres, hb⟩
        clear c0HS c1HS c0HU c1HU
        replace HI := Lib.hid (HI.out.step hb)
        replace HS := Lib.hid (HS.out.step hb)
        replace HJ := Lib.hid (HJ.out.step hb)
        replace HU := Lib.hid (HU.out.step hb)
        replace C1 := Lib.hid (C1.out.step hb)
        replace HBW := Lib.hid (below_trans HBW.out hb)
        obtain ⟨loC2, hiC2, C2⟩ : ∃ lo hi, Hid (Ins w19 lo hi BC2 cs) := ⟨_, _, Lib.hid hres.ins⟩
        clear hb hres
        have c0HS := HS.out.c0
        have c1HS := HS.out.c1
        have c0HU := HU.out.c0
        have c1HU := HU.out.c1
        go_wp2_with fail
        refine (HNe.out _ _ _ _ _ C2.out).mono ?_
        rintro e w20 ⟨rfl, hb⟩
        clear c0HS c1HS c0HU c1HU
        replace HI := Lib.hid (HI.out.step hb)
        replace HS := Lib.hid (HS.out.step hb)
        replace HJ := Lib.hid (HJ.out.step hb)
        replace HU := Lib.hid (HU.out.step hb)
        replace C1 := Lib.hid (C1.out.step hb)
        replace C2 := Lib.hid (C2.out.step hb)
        replace HBW := Lib.hid (below_trans HBW.out hb)
        clear hb
        have c0HS := HS.out.c0
        have c1HS := HS.out.c1
        have c0HU := HU.out.c0
        have c1HU := HU.out.c1
        go_wp2_with fail
        refine (HQn.out _ _ _ _ _ HI.out).mono ?_
        rintro e w21 ⟨rfl, hb⟩
        clear c0HS c1HS c0HU c1HU
        replace HI := Lib.hid (HI.out.step hb)
        replace HS := Lib.hid (HS.out.step hb)
        replace HJ := Lib.hid (HJ.out.step hb)
        replace HU := Lib.hid (HU.out.step hb)
        replace C1 := Lib.hid (C1.out.step hb)
        replace C2 := Lib.hid (C2.out.step hb)
        replace HBW := Lib.hid (below_trans HBW.out hb)
        clear hb
        go_wp2
        go_ret
        exact ⟨rfl, HBW.out⟩
end Go.Proofs.Ythpnkeecpaflfaa
namespace Go.Proofs.Ythpnkeecpaflfaa
open Go.RowKit Go.ChangeShapes Go.WideShapes
set_option linter.unusedVariables false

set_option maxRecDepth 100000 in
theorem fnBestQuestions_walk (A : Option Addr) (n c : Nat) (W : World) (hC : Code W W.heap.size A n) (h1 : n ≤ c) (h2 : c ≤ maxLen) :
    Calls Try.prog 3 #[.slice A n c] W fun e W' => e = .returned (.bool true) ∧ Below W.heap.size W W' := by
  by_cases h : n ≤ 65536
  · exact fnBestQuestions_run A n c W hC (by omega) h
  · have HV := Lib.hid (rBig_any A n c W (by omega))
    rw [decide_eq_true (by omega)] at HV
    clear hC
    go_enter Try.func3, Try.ntmps3
    go_wp2_with fail
    refine (HV.out).mono ?_
    rintro e w' ⟨rfl, hw⟩
    have hw := hw.symm
    subst hw
    go_wp2
    go_ret
    exact ⟨rfl, Below.refl _ _⟩
end Go.Proofs.Ythpnkeecpaflfaa
namespace Go.Proofs.Ythpnkeecpaflfaa.fnBestQuestions
open Go.ChangeShapes Go.WideShapes Go.ChangeAt Go.RowKit
open Go.ChangeMaps (open_string shut_string)
set_option linter.unusedVariables false

theorem own : ownKnob Try.prog.godebug = none := by kernel_rfl
theorem laidOut : laidOutB Try.prog = true := by kernel_rfl

set_option maxRecDepth 100000 in
theorem contract (H : Type) (enc : TypeId × Value → H) (W : World) (base : Nat) (args : Array Value) (ds gs : List (DataW H)) (before : List MemPlace)
    (hval : ∀ (j : Nat) t v, Try.f3.params[j]? = some t → args[j]? = some v → Value.okWide Try.prog W .any base t v)
    (hW : DataW.Whole enc Try.prog Try.f3.params.toList Rows.fnBestQuestionsSpec.vars false W args.toList ds gs before)
    (hsz : (DataW.weightsEach Try.prog (Try.f3.params.toList ++ (OpenSpec.ofChange Rows.fnBestQuestionsSpec).bare.plain.varTypes Try.prog) (ds ++ gs)).all (· ≤ reachBytes) = true)
    (hL : laidMetH Try.prog Rows.fnBestQuestionsRow.laid W) (hsh : W.ShapedOpen Try.prog) :
    Calls Try.prog 3 args W fun e W' => ∃ v, e = .returned v ∧ Rows.fnBestQuestionsSpec.post enc Try.prog Try.f3 false true false false W args v W' := by
  have hW' := hW
  obtain ⟨p, q, hA0, hV, rfl, hfz, hnd⟩ := hW
  have hA : DataW.TrodAll enc Try.prog W 0 (fun _ => true) true Try.f3.params.toList args.toList ds p := hA0
  rw [Try.params3] at hA hval
  obtain ⟨v0, vs0, d0, ds0, p0, q0, hargs, rfl, rfl, h0, r0⟩ := trodAll_cons hA
  obtain ⟨rfl, rfl, rfl⟩ := trodAll_nil r0
  obtain rfl : args = #[v0] := by cases args; simp_all
  obtain ⟨rfl, rfl⟩ := trodVars_none hV
  have k0 := h0
  have lt0 : ∀ x ∈ p0, x.block < W.heap.size := by obtain ⟨m, hm⟩ := k0; exact DataW.trod_lt m _ _ _ hm
  obtain ⟨a0, len0, cap0, rfl⟩ := okWide_slice Try.underlying22 (hval 0 22 v0 rfl rfl)
  obtain ⟨w0, hc0, hm0⟩ := code_of_trod h0
  refine (fnBestQuestions_walk a0 len0 cap0 W w0 hc0 hm0).mono fun e W' ⟨he, bel⟩ => ?_
  subst he
  exact ⟨_, rfl, _, _, _, [], _, [], hW', trodAll_mk1 (shut_bool Try.underlying4 _), (trodAll_cons_mk (Below.trod laidOut (by kernel_rfl) (of_decide_eq_true (by kernel_rfl)) k0 bel lt0) trodAll_mk0), rfl, bel.frame _, fun h => by cases h⟩

noncomputable def startWorld (os : Os) : World := World.holding Try.prog os ⟨#[], #[], []⟩
set_option maxRecDepth 100000 in
theorem laid_met (os : Os) : laidMet Try.prog Rows.fnBestQuestionsRow.laid ((startWorld os).forCall (fun _ _ => 0) ⟨#[], #[.slice none 0 0], []⟩).memory := laidMet_nil _ _
set_option maxRecDepth 100000 in
theorem reads (os : Os) {H : Type} (enc : TypeId × Value → H) : ∃ places, DataW.whole enc Try.prog ((startWorld os).forCall (fun _ _ => 0) ⟨#[], #[.slice none 0 0], []⟩).memory Try.f3.params.toList Rows.fnBestQuestionsSpec.vars false (#[.slice none 0 0] : Array Value).toList 8 = some ([.nil], [], places) :=
  ⟨[], by kernel_rfl⟩

set_option maxRecDepth 100000 in
theorem lifted (os : Os) (started : os.Started) (H : Type) (enc : TypeId × Value → H) (F : Stop.Interp) :
    ReturnsInHanded {} Try.checked os 3 .any ((OpenSpec.ofChange Rows.fnBestQuestionsSpec).preRow enc Try.prog Try.f3 Rows.fnBestQuestionsRow.domain false Rows.fnBestQuestionsRow.laid) (((OpenSpec.ofChange Rows.fnBestQuestionsSpec).at F).post enc Try.prog Try.f3 false true false false) := by
  obtain ⟨places, hx⟩ := reads os enc
  refine returnsInHanded_of_row (C := Try.checked) (s := OpenSpec.ofChange Rows.fnBestQuestionsSpec) own started (by kernel_rfl) Try.func3
    (witness_row_at (enc := enc) (C := Try.checked) false (startWorld os) #[.slice none 0 0] rfl (by kernel_rfl) (by kernel_rfl) (by kernel_rfl)
      (OpenSpec.preRow_of_cond 8 hx (by kernel_rfl) (fun k hk => by cases hk) (by kernel_rfl) (laid_met os))) ?_
  intro W base args ds gs before hval hW _ _ hsz hL hsh _
  exact contract H enc W base args ds gs before hval hW hsz hL hsh

theorem said : Rows.FnBestQuestionsSaid :=
  OpenClaim.holds_of_cond 3 Try.f3 rfl rfl rfl rfl rfl rfl rfl ⟨rfl, rfl, rfl, rfl, rfl⟩ rfl rfl rfl rfl rfl (by kernel_rfl) Try.func3 (by kernel_rfl)
    (of_decide_eq_true (by kernel_rfl)) (by unfold Func.isWrapper; first | (rw [if_pos (by decide +kernel)]; kernel_rfl) | (rw [if_neg (by decide +kernel)]; exact ⟨rfl, rfl⟩))
    (fun os started H enc _ F => by rw [OpenClaim.pre_eq_preRow]; exact lifted os started H enc F)

theorem proved : Rows.FnBestQuestionsSaid := said
end Go.Proofs.Ythpnkeecpaflfaa.fnBestQuestions
