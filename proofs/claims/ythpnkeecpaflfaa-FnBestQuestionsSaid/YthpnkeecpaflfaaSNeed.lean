/- l4SplitNeed. -/
import Derived.Test.YthpnkeecpaflfaaWithin
namespace Go.Proofs.Ythpnkeecpaflfaa
open Go.RowKit Go.ChangeShapes Go.WideShapes
set_option linter.unusedVariables false

/-- The need of a split, -1 if it leads back. -/
def snR (r s : Row) : Int := if backR r s = true then -1 else ((valR r s : Nat) : Int)
theorem found_all {r : Row} (h8 : rsum r ≤ 8) : foundAt 10 (keyR r) = ((needR r : Nat) : Int) := by
  rw [found_key h8, if_pos (by have := need_le h8; omega)]
set_option maxRecDepth 100000 in
set_option maxHeartbeats 1000000 in
theorem l4SplitNeed_any (A : Option Addr) (c lo hi_ : Nat) (A2 : Option Addr) (c2 lo2 hi2 : Nat) (A3 : Option Addr) (c3 lo3 hi3 : Nat) (p : Nat) (r s : Row) (w : World) (hS : Ins w lo hi_ A (lstR p r)) (hS3 : Ins w lo3 hi3 A3 (lstR p s)) (hS2 : Ins w lo2 hi2 A2 (foundL p 10)) (hw : Wide p r) (h8 : rsum r ≤ 8) (hf : Fits s r) :
    Calls Try.prog 33 #[.slice A p c, .slice A3 p c3, .slice A2 (9 ^ p) c2] w fun e w' => e = .returned (.int .i64 (snR r s)) ∧ Below w.heap.size w w' := by
  have hp := hw.le
  have hp9 := pow9 hp
  have hyw := yes_wide hw hf
  have hy8 := yes_sum h8 hf
  have HS := Lib.hid hS
  have HS2 := Lib.hid hS2
  have HS3 := Lib.hid hS3
  have HY := Lib.hid (fun W h h2 => l4Yes_any A c lo hi_ A3 c3 lo3 hi3 p r s W h h2 hw h8 hf)
  have HN := Lib.hid (fun W h h2 => l4No_any A c lo hi_ A3 c3 lo3 hi3 p r s W h h2 hw h8 hf)
  have HYK := Lib.hid (fun B cB loB hiB W h => l4Key_any B cB loB hiB p (yesR r s) W h hyw.1 hy8.1)
  have HNK := Lib.hid (fun B cB loB hiB W h => l4Key_any B cB loB hiB p (noR r s) W h hyw.2 hy8.2)
  have HYS := Lib.hid (fun B cB loB hiB W h h2 => l1Same_any B cB loB hiB A c lo hi_ p (yesR r s) r W h h2 hyw.1 hw)
  have HNS := Lib.hid (fun B cB loB hiB W h h2 => l1Same_any B cB loB hiB A c lo hi_ p (noR r s) r W h h2 hyw.2 hw)
  have hky := key_lt hyw.1 hy8.1
  have hkn := key_lt hyw.2 hy8.2
  have HFY := Lib.hid (found_all hy8.1)
  have HFN := Lib.hid (found_all hy8.2)
  have hny := need_le hy8.1
  have hnn := need_le hy8.2
  have HFL := Lib.hid (foundL_len p 10)
  have HBK : Hid (backR r s = (decide (yesR r s = r) || decide (noR r s = r))) := Lib.hid (by unfold backR; rw [Bool.eq_iff_iff]; simp)
  have HV : Hid (valR r s = 1 + max (needR (yesR r s)) (needR (noR r s))) := Lib.hid rfl
  clear hS hS2 hS3 hw hyw hy8
  generalize hq1 : decide (yesR r s = r) = q1 at HYS HBK
  generalize hq2 : decide (noR r s = r) = q2 at HNS HBK
  clear hq1 hq2
  generalize keyR (yesR r s) = ky at HYK hky HFY
  generalize keyR (noR r s) = kn at HNK hkn HFN
  generalize needR (yesR r s) = ny at hny HFY HV
  generalize needR (noR r s) = nn at hnn HFN HV
  have hkyI : (ky : Int) < ((9 ^ p : Nat) : Int) := by omega
  have hknI : (kn : Int) < ((9 ^ p : Nat) : Int) := by omega
  go_enter Try.func33, Try.ntmps33
  go_wp2_with fail
  refine (HY.out w HS.out HS3.out).mono ?_
  rintro e w1 ⟨g1, c1, rfl, hg1, ho1, hb1⟩
  have HO1 := Lib.hid (Ins.mk ho1.ints (own_lt ho1))
  have HB := Lib.hid hb1
  replace HS := Lib.hid (HS.out.step hb1)
  replace HS2 := Lib.hid (HS2.out.step hb1)
  replace HS3 := Lib.hid (HS3.out.step hb1)
  clear ho1 hb1 HY
  go_wp2_with fail
  refine (HN.out w1 HS.out HS3.out).mono ?_
  rintro e w2 ⟨g2, c2', rfl, hg2, ho2, hb2⟩
  have HO2 := Lib.hid (Ins.mk ho2.ints (own_lt ho2))
  replace HB := Lib.hid (below_trans HB.out hb2)
  replace HS := Lib.hid (HS.out.step hb2)
  replace HS2 := Lib.hid (HS2.out.step hb2)
  replace HO1 := Lib.hid (HO1.out.step hb2)
  clear ho2 hb2 HN HS3
  go_wp2_with fail
  refine (HYS.out (some ⟨g1, 0, none⟩) c1 _ _ w2 HO1.out HS.out).mono ?_
  rintro e w3 ⟨rfl, hb3⟩
  replace HB := Lib.hid (below_trans HB.out hb3)
  replace HS := Lib.hid (HS.out.step hb3)
  replace HS2 := Lib.hid (HS2.out.step hb3)
  replace HO1 := Lib.hid (HO1.out.step hb3)
  replace HO2 := Lib.hid (HO2.out.step hb3)
  clear hb3 HYS
  cases q1 with
  | true =>
    have E : Hid (snR r s = -1) := Lib.hid (by unfold snR; rw [HBK.out]; rfl)
    go_wp2
    go_ret
    exact ⟨by rw [E.out]; rfl, HB.out⟩
  | false =>
    go_wp2_with fail
    refine (HNS.out (some ⟨g2, 0, none⟩) c2' _ _ w3 HO2.out HS.out).mono ?_
    rintro e w4 ⟨rfl, hb4⟩
    replace HB := Lib.hid (below_trans HB.out hb4)
    replace HS2 := Lib.hid (HS2.out.step hb4)
    replace HO1 := Lib.hid (HO1.out.step hb4)
    replace HO2 := Lib.hid (HO2.out.step hb4)
    clear hb4 HNS HS
    cases q2 with
    | true =>
      have E : Hid (snR r s = -1) := Lib.hid (by unfold snR; rw [HBK.out]; rfl)
      go_wp2
      go_ret
      exact ⟨by rw [E.out]; rfl, HB.out⟩
    | false =>
      obtain ⟨M, hM, hMl⟩ : ∃ M : Nat, M = max ny nn ∧ M ≤ 9 := ⟨_, rfl, by omega⟩
      have E : Hid (snR r s = 1 + (M : Int)) := Lib.hid (by unfold snR; rw [HBK.out, HV.out, hM]; simp)
      have HM : Hid (∀ W, Calls Try.prog 36 #[.int .i64 (ny : Int), .int .i64 (nn : Int)] W fun e w' => e = .returned (.int .i64 (M : Int)) ∧ w' = W) := Lib.hid (fun W => by
        have h := l1Most_any (ny : Int) (nn : Int) W
        have e : (if (nn : Int) ≤ (ny : Int) then (ny : Int) else (nn : Int)) = (M : Int) := by split <;> omega
        rwa [e] at h)
      obtain ⟨b2, o2, hA2, _, hbb, hc2⟩ := HS2.out.ints.at_ (k := ky) (by rw [HFL.out]; exact hky)
      subst hA2
      rw [foundL_at, HFY.out] at hc2
      obtain ⟨b2', o2', hA2', _, hbb', hc2b⟩ := HS2.out.ints.at_ (k := kn) (by rw [HFL.out]; exact hkn)
      injection hA2' with hA2'
      injection hA2' with e1 e2
      subst e1 e2
      rw [foundL_at, HFN.out] at hc2b
      have HK1 := Lib.hid (fun W (h : Below w4.heap.size w4 W) => HYK.out (some ⟨g1, 0, none⟩) c1 _ _ W (HO1.out.step h))
      have HK2 := Lib.hid (fun W (h : Below w4.heap.size w4 W) => HNK.out (some ⟨g2, 0, none⟩) c2' _ _ W (HO2.out.step h))
      clear hM HYK HNK HV
      go_wp2_with fail
      go_quiet (first
        | (go_at_call 40; with_reducible refine Calls.quiet_of_same (HK1.out _ (below_drewN (Below.refl _ _) _)))
        | (go_at_call 40; with_reducible refine Calls.quiet_of_same (HK2.out _ (below_drewN (Below.refl _ _) _)))
        | (go_at_call 36; refine Calls.quiet_of_same (HM.out _)))
      all_goals
        go_wp2
        go_ret
        exact ⟨by rw [E.out]; rfl, below_drewN HB.out _⟩
end Go.Proofs.Ythpnkeecpaflfaa
