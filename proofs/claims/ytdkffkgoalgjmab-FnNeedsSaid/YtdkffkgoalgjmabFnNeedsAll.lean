/- The law FnNeeds is proved: called with any arguments it returns true, and what was there is as it was. Its condition: none beyond the row's own form.
-/
import Derived.Test.YtdkffkgoalgjmabAskP
import Derived.Test.YtdkffkgoalgjmabSplB
import Derived.Test.YtdkffkgoalgjmabAre
import Derived.Test.YtdkffkgoalgjmabRInts
import Derived.Test.YtdkffkgoalgjmabDrawC
import Derived.Test.YtdkffkgoalgjmabRows
import Derived.Deep.AppendLies
import Derived.Deep.RegionLaw
import Derived.WalkKit
import Derived.ProofKit
import Derived.OpenShut
import Derived.ShutString
import Derived.ChangeOld
import Derived.Below
import Derived.Carry
import Derived.Deep.DeepHandedRow
namespace Go.Proofs.Ytdkffkgoalgjmab
open Go.RowKit Go.ChangeShapes Go.WideShapes
set_option linter.unusedVariables false

/-- A call over one list, over two. -/
def Call1 (f : FuncId) (zs : List Int) (Q : World → Ending → World → Prop) : Prop := ∀ (W : World) (A : Option Addr) (c lo hi : Nat), Ins W lo hi A zs → Calls Try.prog f #[.slice A zs.length c] W (Q W)
def Call2 (f : FuncId) (zs ss : List Int) (Q : World → Ending → World → Prop) : Prop := ∀ (W : World) (A : Option Addr) (c lo hi : Nat) (A2 : Option Addr) (c2 lo2 hi2 : Nat), Ins W lo hi A zs → Ins W lo2 hi2 A2 ss → Calls Try.prog f #[.slice A zs.length c, .slice A2 ss.length c2] W (Q W)
def IB (x : Int) (b : Bool) (W : World) (e : Ending) (w' : World) : Prop := e = .returned (.tuple #[.int .i64 x, .bool b]) ∧ Below W.heap.size W w'
def BB (b : Bool) (W : World) (e : Ending) (w' : World) : Prop := e = .returned (.bool b) ∧ Below W.heap.size W w'
structure NF (zs ss : List Int) (nd ow mn : Int) (ok o t f : Bool) (ys ns bs : List Int) : Prop where
  hy : ys.length ≤ 1048576
  hn : ns.length ≤ 1048576
  hb : bs.length ≤ 1048576
  sni : Call2 20 zs ss (IB nd ok)
  sns : Call2 19 zs ss (IB nd ok)
  yi : Call2 40 zs ss (fun W => RowAns W ys o)
  ys_ : Call2 41 zs ss (fun W => RowAns W ys o)
  ni : Call2 43 zs ss (fun W => RowAns W ns o)
  ns_ : Call2 44 zs ss (fun W => RowAns W ns o)
  oi : Call1 17 zs (IB ow t)
  os : Call1 15 zs (IB ow t)
  ac : Call1 45 zs (BB t)
  bi : Call1 22 zs (fun W => RowAns W bs f)
  bs_ : Call1 21 zs (fun W => RowAns W bs f)
  mi : Call1 26 zs (IB mn f)
  ms : Call1 25 zs (IB mn f)
  f1 : f = true → 1 ≤ mn
  o1 : ok = true → o = true
  sb : f = true → Call2 20 zs bs (IB ow true)
  r1 : o = true → ∃ (p : Nat) (r s : Row), zs = lstR p r ∧ ss = lstR p s ∧ Wide p r ∧ Wide p s ∧ rsum r ≤ 8 ∧ Fits s r ∧ Call2 40 zs (lstR p (leftR r s)) (fun W => RowAns W ns true)
  okk : ok = true → ∃ (x y : Nat), x ≤ 9 ∧ y ≤ 9 ∧ nd = ((max x y : Nat) : Int) + 1 ∧ ow ≤ nd ∧ Call1 17 ys (IB x true) ∧ Call1 17 ns (IB y true)
theorem one_rows {zs ss : List Int} (h : (cOK zs && fitL ss zs) = true) : ∃ (p : Nat) (r s : Row), zs = lstR p r ∧ ss = lstR p s ∧ Wide p r ∧ Wide p s ∧ rsum r ≤ 8 ∧ Fits s r ∧ zs.length = p := by
  rw [Bool.and_eq_true] at h
  obtain ⟨r, hr, hw, h8⟩ := cOK_row h.1
  have h2 := h.2
  rw [hr] at h2
  obtain ⟨s, hs, hw2, hf⟩ := fit_row hw h2
  exact ⟨zs.length, r, s, hr, hs, hw, hw2, h8, hf, rfl⟩
theorem len6 {l : List Int} (h : l.length ≤ 8) : l.length ≤ 1048576 := by omega
theorem needs_facts (zs ss : List Int) (hz : zs.length ≤ 8) (hs : ss.length ≤ 8) : ∃ (nd ow mn : Int) (ok o t f : Bool) (ys ns bs : List Int), NF zs ss nd ow mn ok o t f ys ns bs := by
  refine ⟨_, _, _, snOK zs ss, cOK zs && fitL ss zs, cOK zs, asksL zs, _, _, _, {
    hy := ?_, hn := ?_, hb := ?_,
    sni := fun W A c lo hi A2 c2 lo2 hi2 h h2 => splitNeed_impl A c lo hi zs A2 c2 lo2 hi2 ss W h h2 (len6 hz) (len6 hs),
    sns := fun W A c lo hi A2 c2 lo2 hi2 h h2 => splitNeed_spec A c lo hi zs A2 c2 lo2 hi2 ss W h h2 (len6 hz) (len6 hs),
    yi := fun W A c lo hi A2 c2 lo2 hi2 h h2 => yesCounts_impl A c lo hi zs A2 c2 lo2 hi2 ss W h h2 (len6 hz) (len6 hs),
    ys_ := fun W A c lo hi A2 c2 lo2 hi2 h h2 => yesCounts_spec A c lo hi zs A2 c2 lo2 hi2 ss W h h2 (len6 hz) (len6 hs),
    ni := fun W A c lo hi A2 c2 lo2 hi2 h h2 => noCounts_impl A c lo hi zs A2 c2 lo2 hi2 ss W h h2 (len6 hz) (len6 hs),
    ns_ := fun W A c lo hi A2 c2 lo2 hi2 h h2 => noCounts_spec A c lo hi zs A2 c2 lo2 hi2 ss W h h2 (len6 hz) (len6 hs),
    oi := fun W A c lo hi h => needOf_impl A c lo hi zs W h (len6 hz),
    os := fun W A c lo hi h => needOf_spec A c lo hi zs W h (len6 hz),
    ac := fun W A c lo hi h => (areCounts_impl A c lo hi zs W h (len6 hz)).mono (by rintro e w' ⟨rfl, rfl⟩; exact ⟨rfl, Below.refl _ _⟩),
    bi := fun W A c lo hi h => bestSplit_impl A c lo hi zs W h (len6 hz),
    bs_ := fun W A c lo hi h => bestSplit_spec A c lo hi zs W h (len6 hz),
    mi := fun W A c lo hi h => countBestSplits_impl A c lo hi zs W h (len6 hz),
    ms := fun W A c lo hi h => countBestSplits_spec A c lo hi zs W h (len6 hz),
    f1 := ?_, o1 := ?_, sb := ?_, r1 := ?_, okk := ?_ }⟩
  · split
    · exact Nat.le_trans (lst_short _ _) (by omega)
    · simp
  · split
    · exact Nat.le_trans (lst_short _ _) (by omega)
    · simp
  · split
    · exact Nat.le_trans (lst_short _ _) (by omega)
    · simp
  · intro h
    obtain ⟨r, _, _, h8, h1, hp⟩ := asks_row h
    rw [hp]
    have := (plan_many h8).2 h1
    omega
  · intro h
    unfold snOK at h
    simp only [Bool.and_eq_true] at h
    rw [Bool.and_eq_true]
    exact h.1.1
  · intro h
    obtain ⟨r, hr, hw, h8, h1, hp⟩ := asks_row h
    have hc : cOK zs = true := by rw [hr]; exact row_cOK hw h8
    rw [if_pos h, hp, if_pos hc, rowL_eq hr hw]
    have hfit := plan_fits h8
    have hw2 := fits_wide hw hfit
    have hlen := lstR_len hw2
    have hrl := rowL_lst hw2
    obtain ⟨hb1, _⟩ := best_first h8 h1
    have hval : valR r (planR r).first = needR r := by
      have hm : (planR r).first ∈ bestR r := List.mem_of_getElem? hb1
      unfold bestR at hm
      rw [List.mem_filter] at hm
      simpa using hm.2
    have hback : backR r (planR r).first = false := by
      cases hb : backR r (planR r).first with
      | false => rfl
      | true => have := back_val h8 hfit hb; omega
    have hsn : snOK zs (lstR zs.length (planR r).first) = true := by
      unfold snOK
      rw [hc, rowL_eq hr hw, hrl, hback]
      have hft : fitL (lstR zs.length (planR r).first) zs = true := by
        have := row_fit hw hw2 hfit
        rwa [← hr] at this
      rw [hft]
      simp
      omega
    intro W A c lo hi A2 c2 lo2 hi2 hi1 hi2'
    have := splitNeed_impl A c lo hi zs A2 c2 lo2 hi2 (lstR zs.length (planR r).first) W hi1 hi2' (len6 hz) (by rw [hlen]; exact len6 hz)
    rw [hsn, if_pos rfl, rowL_eq hr hw, hrl, hval] at this
    exact this
  · intro h
    obtain ⟨p, r, s, hzs, hss, hw, hw2, h8, hf, hp⟩ := one_rows h
    refine ⟨p, r, s, hzs, hss, hw, hw2, h8, hf, ?_⟩
    have hlw := fits_wide hw (left_fits (r := r) (s := s))
    have hll := lstR_len hlw
    have hft : fitL (lstR p (leftR r s)) zs = true := by rw [hzs]; exact row_fit hw hlw left_fits
    have hc : cOK zs = true := by rw [hzs]; exact row_cOK hw h8
    intro W A c lo hi A2 c2 lo2 hi2 hi1 hi2'
    have := yesCounts_impl A c lo hi zs A2 c2 lo2 hi2 (lstR p (leftR r s)) W hi1 hi2' (len6 hz) (by rw [hll, ← hp]; exact len6 hz)
    rw [hft, hc, rowL_lst hlw, rowL_eq hzs hw] at this
    rw [if_pos h, rowL_eq hzs hw, rowL_eq hss hw2]
    exact this
  · intro h
    have ho : (cOK zs && fitL ss zs) = true := by
      unfold snOK at h
      simp only [Bool.and_eq_true] at h
      rw [Bool.and_eq_true]
      exact h.1.1
    obtain ⟨p, r, s, hzs, hss, hw, hw2, h8, hf, hp⟩ := one_rows ho
    have hc : cOK zs = true := by rw [hzs]; exact row_cOK hw h8
    obtain ⟨hwy, hwn⟩ := yes_wide hw hf
    obtain ⟨hsy, hsn⟩ := yes_sum h8 hf
    refine ⟨needR (yesR r s), needR (noR r s), need_le hsy, need_le hsn, ?_, ?_, ?_, ?_⟩
    · rw [if_pos h, rowL_eq hzs hw, rowL_eq hss hw2]
      unfold valR
      omega
    · rw [if_pos h, if_pos hc, rowL_eq hzs hw, rowL_eq hss hw2]
      have := need_split h8 hf
      omega
    · rw [if_pos ho, rowL_eq hzs hw, rowL_eq hss hw2, hp]
      intro W A c lo hi hi1
      have := needOf_impl A c lo hi (lstR p (yesR r s)) W hi1 (Nat.le_trans (lst_short _ _) (by omega))
      rw [row_cOK hwy hsy, if_pos rfl, rowL_lst hwy] at this
      exact this
    · rw [if_pos ho, rowL_eq hzs hw, rowL_eq hss hw2, hp]
      intro W A c lo hi hi1
      have := needOf_impl A c lo hi (lstR p (noR r s)) W hi1 (Nat.le_trans (lst_short _ _) (by omega))
      rw [row_cOK hwn hsn, if_pos rfl, rowL_lst hwn] at this
      exact this
end Go.Proofs.Ytdkffkgoalgjmab
namespace Go.Proofs.Ytdkffkgoalgjmab
open Go.RowKit Go.ChangeShapes Go.WideShapes
set_option linter.unusedVariables false
set_option linter.unusedSimpArgs false

set_option maxRecDepth 100000 in
set_option maxHeartbeats 40000000 in
theorem fnNeeds_run (A : Option Addr) (n c : Nat) (W : World) (hC : Code W W.heap.size A n) (hcm : n ≤ maxLen) (h : n ≤ 65536) :
    Calls Try.prog 11 #[.slice A n c] W fun e w' => e = .returned (.bool true) ∧ Below W.heap.size W w' := by
  obtain ⟨i0, hi0, hz0, hz1, hz2⟩ := info_parts infoI3
  have HBW := Lib.hid (Below.refl W.heap.size W)
  have HV := Lib.hid (rBig_any A n c W hcm)
  rw [decide_eq_false (by omega)] at HV
  have HD := Lib.hid (drawSN_any A n c W hC h)
  clear hC
  go_enter Try.func11, Try.ntmps11
  go_wp2_with fail
  refine HV.out.mono ?_
  rintro e w0 ⟨rfl, hw⟩
  have hw := hw.symm
  subst hw
  go_wp2_with fail
  refine (HD.out).mono ?_
  rintro e w2 ⟨zs, ss, B, B2_, c1, c2, rfl, hzl8, hsl8, ⟨lo1, hi1, hI⟩, ⟨lo2, hi2, hJ⟩, hb⟩
  have HI := Lib.hid hI
  have HJ := Lib.hid hJ
  replace HBW := Lib.hid (below_trans HBW.out hb)
  clear hb hI hJ HD HV
  obtain ⟨nd, ow, mn, ok, o, t, f, ys, ns, bs, hF⟩ := needs_facts zs ss hzl8 hsl8
  have F := Lib.hid hF
  clear hF hzl8 hsl8
  go_wp2_with fail
  refine (F.out.sni _ _ _ _ _ _ _ _ _ HI.out HJ.out).mono ?_
  rintro e w3 ⟨rfl, hb⟩
  replace HI := Lib.hid (HI.out.step hb)
  replace HJ := Lib.hid (HJ.out.step hb)
  replace HBW := Lib.hid (below_trans HBW.out hb)
  clear hb
  go_wp2_with fail
  refine (F.out.sns _ _ _ _ _ _ _ _ _ HI.out HJ.out).mono ?_
  rintro e w4 ⟨rfl, hb⟩
  replace HI := Lib.hid (HI.out.step hb)
  replace HJ := Lib.hid (HJ.out.step hb)
  replace HBW := Lib.hid (below_trans HBW.out hb)
  clear hb
  go_wp2_with fail
  refine (F.out.yi _ _ _ _ _ _ _ _ _ HI.out HJ.out).mono ?_
  rintro e w5 ⟨BY1, cY1, rfl, hres, hb⟩
  replace HI := Lib.hid (HI.out.step hb)
  replace HJ := Lib.hid (HJ.out.step hb)
  replace HBW := Lib.hid (below_trans HBW.out hb)
  obtain ⟨loY1, hiY1, Y1⟩ : ∃ lo hi, Hid (Ins w5 lo hi BY1 ys) := ⟨_, _, Lib.hid hres.ins⟩
  clear hb hres
  go_wp2_with fail
  refine (F.out.ys_ _ _ _ _ _ _ _ _ _ HI.out HJ.out).mono ?_
  rintro e w6 ⟨BY2, cY2, rfl, hres, hb⟩
  replace HI := Lib.hid (HI.out.step hb)
  replace HJ := Lib.hid (HJ.out.step hb)
  replace Y1 := Lib.hid (Y1.out.step hb)
  replace HBW := Lib.hid (below_trans HBW.out hb)
  obtain ⟨loY2, hiY2, Y2⟩ : ∃ lo hi, Hid (Ins w6 lo hi BY2 ys) := ⟨_, _, Lib.hid hres.ins⟩
  clear hb hres
  go_wp2_with fail
  refine (rInts_same _ _ _ _ _ _ _ _ ys _ Y1.out Y2.out F.out.hy).mono ?_
  rintro e w7 ⟨rfl, hb⟩
  replace HI := Lib.hid (HI.out.step hb)
  replace HJ := Lib.hid (HJ.out.step hb)
  replace Y1 := Lib.hid (Y1.out.step hb)
  replace Y2 := Lib.hid (Y2.out.step hb)
  replace HBW := Lib.hid (below_trans HBW.out hb)
  clear hb
  go_wp2_with fail
  refine (F.out.ni _ _ _ _ _ _ _ _ _ HI.out HJ.out).mono ?_
  rintro e w8 ⟨BN1, cN1, rfl, hres, hb⟩
  replace HI := Lib.hid (HI.out.step hb)
  replace HJ := Lib.hid (HJ.out.step hb)
  replace Y1 := Lib.hid (Y1.out.step hb)
  replace Y2 := Lib.hid (Y2.out.step hb)
  replace HBW := Lib.hid (below_trans HBW.out hb)
  obtain ⟨loN1, hiN1, N1⟩ : ∃ lo hi, Hid (Ins w8 lo hi BN1 ns) := ⟨_, _, Lib.hid hres.ins⟩
  clear hb hres
  go_wp2_with fail
  refine (F.out.ns_ _ _ _ _ _ _ _ _ _ HI.out HJ.out).mono ?_
  rintro e w9 ⟨BN2, cN2, rfl, hres, hb⟩
  replace HI := Lib.hid (HI.out.step hb)
  replace HJ := Lib.hid (HJ.out.step hb)
  replace Y1 := Lib.hid (Y1.out.step hb)
  replace Y2 := Lib.hid (Y2.out.step hb)
  replace N1 := Lib.hid (N1.out.step hb)
  replace HBW := Lib.hid (below_trans HBW.out hb)
  obtain ⟨loN2, hiN2, N2⟩ : ∃ lo hi, Hid (Ins w9 lo hi BN2 ns) := ⟨_, _, Lib.hid hres.ins⟩
  clear hb hres
  go_wp2_with fail
  refine (rInts_same _ _ _ _ _ _ _ _ ns _ N1.out N2.out F.out.hn).mono ?_
  rintro e w10 ⟨rfl, hb⟩
  replace HI := Lib.hid (HI.out.step hb)
  replace HJ := Lib.hid (HJ.out.step hb)
  replace Y1 := Lib.hid (Y1.out.step hb)
  replace Y2 := Lib.hid (Y2.out.step hb)
  replace N1 := Lib.hid (N1.out.step hb)
  replace N2 := Lib.hid (N2.out.step hb)
  replace HBW := Lib.hid (below_trans HBW.out hb)
  clear hb
  go_wp2_with fail
  refine (F.out.oi _ _ _ _ _ HI.out).mono ?_
  rintro e w11 ⟨rfl, hb⟩
  replace HI := Lib.hid (HI.out.step hb)
  replace HJ := Lib.hid (HJ.out.step hb)
  replace Y1 := Lib.hid (Y1.out.step hb)
  replace Y2 := Lib.hid (Y2.out.step hb)
  replace N1 := Lib.hid (N1.out.step hb)
  replace N2 := Lib.hid (N2.out.step hb)
  replace HBW := Lib.hid (below_trans HBW.out hb)
  clear hb
  go_wp2_with fail
  refine (F.out.os _ _ _ _ _ HI.out).mono ?_
  rintro e w12 ⟨rfl, hb⟩
  replace HI := Lib.hid (HI.out.step hb)
  replace HJ := Lib.hid (HJ.out.step hb)
  replace Y1 := Lib.hid (Y1.out.step hb)
  replace Y2 := Lib.hid (Y2.out.step hb)
  replace N1 := Lib.hid (N1.out.step hb)
  replace N2 := Lib.hid (N2.out.step hb)
  replace HBW := Lib.hid (below_trans HBW.out hb)
  clear hb
  go_wp2_with fail
  refine (F.out.ac _ _ _ _ _ HI.out).mono ?_
  rintro e w13 ⟨rfl, hb⟩
  replace HI := Lib.hid (HI.out.step hb)
  replace HJ := Lib.hid (HJ.out.step hb)
  replace Y1 := Lib.hid (Y1.out.step hb)
  replace Y2 := Lib.hid (Y2.out.step hb)
  replace N1 := Lib.hid (N1.out.step hb)
  replace N2 := Lib.hid (N2.out.step hb)
  replace HBW := Lib.hid (below_trans HBW.out hb)
  clear hb
  go_wp2_with fail
  refine (F.out.bi _ _ _ _ _ HI.out).mono ?_
  rintro e w14 ⟨BB1, cB1, rfl, hres, hb⟩
  replace HI := Lib.hid (HI.out.step hb)
  replace HJ := Lib.hid (HJ.out.step hb)
  replace Y1 := Lib.hid (Y1.out.step hb)
  replace Y2 := Lib.hid (Y2.out.step hb)
  replace N1 := Lib.hid (N1.out.step hb)
  replace N2 := Lib.hid (N2.out.step hb)
  replace HBW := Lib.hid (below_trans HBW.out hb)
  obtain ⟨loB1, hiB1, B1⟩ : ∃ lo hi, Hid (Ins w14 lo hi BB1 bs) := ⟨_, _, Lib.hid hres.ins⟩
  clear hb hres
  go_wp2_with fail
  refine (F.out.bs_ _ _ _ _ _ HI.out).mono ?_
  rintro e w15 ⟨BB2, cB2, rfl, hres, hb⟩
  replace HI := Lib.hid (HI.out.step hb)
  replace HJ := Lib.hid (HJ.out.step hb)
  replace Y1 := Lib.hid (Y1.out.step hb)
  replace Y2 := Lib.hid (Y2.out.step hb)
  replace N1 := Lib.hid (N1.out.step hb)
  replace N2 := Lib.hid (N2.out.step hb)
  replace B1 := Lib.hid (B1.out.step hb)
  replace HBW := Lib.hid (below_trans HBW.out hb)
  obtain ⟨loB2, hiB2, B2⟩ : ∃ lo hi, Hid (Ins w15 lo hi BB2 bs) := ⟨_, _, Lib.hid hres.ins⟩
  clear hb hres
  go_wp2_with fail
  refine (rInts_same _ _ _ _ _ _ _ _ bs _ B1.out B2.out F.out.hb).mono ?_
  rintro e w16 ⟨rfl, hb⟩
  replace HI := Lib.hid (HI.out.step hb)
  replace HJ := Lib.hid (HJ.out.step hb)
  replace Y1 := Lib.hid (Y1.out.step hb)
  replace Y2 := Lib.hid (Y2.out.step hb)
  replace N1 := Lib.hid (N1.out.step hb)
  replace N2 := Lib.hid (N2.out.step hb)
  replace B1 := Lib.hid (B1.out.step hb)
  replace B2 := Lib.hid (B2.out.step hb)
  replace HBW := Lib.hid (below_trans HBW.out hb)
  clear hb
  go_wp2_with fail
  refine (F.out.mi _ _ _ _ _ HI.out).mono ?_
  rintro e w17 ⟨rfl, hb⟩
  replace HI := Lib.hid (HI.out.step hb)
  replace HJ := Lib.hid (HJ.out.step hb)
  replace Y1 := Lib.hid (Y1.out.step hb)
  replace Y2 := Lib.hid (Y2.out.step hb)
  replace N1 := Lib.hid (N1.out.step hb)
  replace N2 := Lib.hid (N2.out.step hb)
  replace B1 := Lib.hid (B1.out.step hb)
  replace B2 := Lib.hid (B2.out.step hb)
  replace HBW := Lib.hid (below_trans HBW.out hb)
  clear hb
  go_wp2_with fail
  refine (F.out.ms _ _ _ _ _ HI.out).mono ?_
  rintro e w18 ⟨rfl, hb⟩
  replace HI := Lib.hid (HI.out.step hb)
  replace HJ := Lib.hid (HJ.out.step hb)
  replace Y1 := Lib.hid (Y1.out.step hb)
  replace Y2 := Lib.hid (Y2.out.step hb)
  replace N1 := Lib.hid (N1.out.step hb)
  replace N2 := Lib.hid (N2.out.step hb)
  replace B1 := Lib.hid (B1.out.step hb)
  replace B2 := Lib.hid (B2.out.step hb)
  replace HBW := Lib.hid (below_trans HBW.out hb)
  clear hb
  rcases hf : f with _ | _
  ·
    rcases ho : o with _ | _
    ·
      have hok : ok = false := by
        rcases hq : ok with _ | _
        · rfl
        · have := F.out.o1 hq; rw [ho] at this; cases this
      subst hok
      go_wp2
      go_ret
      exact ⟨rfl, HBW.out⟩
    ·
      obtain ⟨p, r, s, hzs, hss, hw1, hw2, h8, hfit, hR⟩ := F.out.r1 ho
      have hzl : zs.length = p := by rw [hzs]; exact lstR_len hw1
      have hsl : ss.length = p := by rw [hss]; exact lstR_len hw2
      have HZL := Lib.hid hzl
      have HSL := Lib.hid hsl
      have hp3 := hw1.le
      have HIr : Hid (Ins w18 lo1 hi1 B (lstR p r)) := Lib.hid (by rw [← hzs]; exact HI.out)
      have HJr : Hid (Ins w18 lo2 hi2 B2_ (lstR p s)) := Lib.hid (by rw [← hss]; exact HJ.out)
      have htop := HIr.out.top
      have htop2 := HJr.out.top
      have HO0 := Lib.hid (O0_any w18 w18.heap.size (Nat.le_refl _))
      have HP0 : Hid (Past w18.heap.size w18 (w18.alloc (.cells #[] 3))) := Lib.hid (Past.of_below ((Below.refl w18.heap.size w18).alloc (Nat.le_refl _) (.cells #[] 3)))
      have HT := Lib.hid (fun k (h : k < p) => take_snoc hp3 (leftR r s) h)
      have HA := Lib.hid (fun k (h : k < p) => lst_at hp3 r h (by rw [lst_len hp3]; exact h))
      have HA2 := Lib.hid (fun k (h : k < p) => lst_at hp3 s h (by rw [lst_len hp3]; exact h))
      have HL := Lib.hid (lst_len hp3 r)
      have HL2 := Lib.hid (lst_len hp3 s)
      have HL3 := Lib.hid (lst_len hp3 (leftR r s))
      have HCL := Lib.hid (fun i => @comp_left r s i)
      have HC8 := Lib.hid (fun i => comp_le h8 i)
      have HCF := Lib.hid (fun i => comp_fit hfit i)
      have HRY := Lib.hid hR
      clear hzl hsl hzs hss hw1 hw2 h8 hfit hR
      go_wp2_with fail
      generalize w18.alloc (.cells #[] 3) = wz at HO0 HP0 ⊢
      generalize (Value.slice (some ⟨w18.heap.size, 0, none⟩) 0 0) = v0 at HO0 ⊢
      go_loopw [29, 30] (fun v i wr => ∃ (j : Nat), j ≤ p ∧ i = .int .i64 j ∧ Hid (wr.ownsRow w18.heap.size 3 1 v j (((lstR p (leftR r s)).take j).map (Value.int .i64))) ∧ Hid (Past w18.heap.size w18 wr)) (fun _ i _ => p - (intOf i).toNat)
      case atStart => exact ⟨0, Nat.zero_le _, rfl, by simpa using HO0, HP0⟩
      case round =>
        clear HO0 HP0
        obtain ⟨j, hj, rfl, HO, HP⟩ := hrel
        rename World => wr
        by_cases hlt : j < p
        · obtain ⟨b, o1, hBe, _, hb, hc⟩ := (HIr.out.past HP.out htop).ints.at_ (k := j) (by rw [HL.out]; exact hlt)
          obtain ⟨b2, o2, hBe2, _, hb2, hc2⟩ := (HJr.out.past HP.out htop2).ints.at_ (k := j) (by rw [HL2.out]; exact hlt)
          subst hBe hBe2
          rw [HA.out j hlt] at hc
          rw [HA2.out j hlt] at hc2
          have h1 := HC8.out (3 - p + j)
          have h2 := HCF.out (3 - p + j)
          have HTk : Hid ((lstR p (leftR r s)).take (j + 1) = (lstR p (leftR r s)).take j ++ [(compR r (3 - p + j) : Int) - (compR s (3 - p + j) : Int)]) := Lib.hid (by
            rw [HT.out j hlt, HCL.out]
            congr 2
            omega)
          generalize compR r (3 - p + j) = x at hc h1 h2 HTk
          generalize compR s (3 - p + j) = y at hc2 h2 HTk
          have HlT : Hid (((lstR p (leftR r s)).take j).length = j) := Lib.hid (by rw [List.length_take, HL3.out]; omega)
          generalize (lstR p (leftR r s)).take j = fl at HO HTk HlT
          have hkI : (j : Int) < (zs.length : Int) := by rw [HZL.out]; omega
          have hkI2 : (j : Int) < (ss.length : Int) := by rw [HSL.out]; omega
          have hsz := HP.out.size
          go_wp2_with fail
          go_region_law (first
            | (rw [if_pos (by simp [Region.wanted])]; generalize hX : (IntKind.i64.wrap ((x : Int) - (y : Int))) = X; refine wp_append_lies _ (.tmp 194) (.tmp 204) 22 rfl w18.heap.size 3 i0 (.int .i64 0) 1 8 Try.underlying22 hi0 hz0 hz1 hz2 rfl (by decide) u29 j (fl.map (Value.int .i64)) rfl (HO.out.alloc _) ⟨wr.heap.size, 0, none⟩ 1 1 [.int .i64 X] rfl rfl (cell_one_new _ _ _) (fun u hu => by rw [List.mem_singleton.1 hu]; rfl) (by decide) (by unfold maxLen; omega) (by omega) (Nat.le_trans hsz (Nat.le_of_lt (by simp))) _ rfl ?_; intro g cap w5 hown hgrow hat hlt5; have hXe := hX; rw [IntWalk.i64_in _ (by omega)] at hXe; have HO5 := Lib.hid hown; have hg5 : (wr.alloc (.cells #[.int .i64 X] 3)).grownBy w5 u29.ownBlock := ⟨hgrow.os, hgrow.tape, hgrow.output, hgrow.size, hgrow.block⟩; have HP5 := Lib.hid (HP.out.trans (Past.grown HO.out hg5)); clear hg5; clear hX hown hgrow hat hlt5))
          all_goals
            go_wp2
            go_roundw
            case rel => exact ⟨j + 1, by omega, by go_num, Lib.hid (by rw [HTk.out, List.map_append, hXe]; exact HO5.out), HP5⟩
            case measure => simp [intOf]; omega
        · obtain rfl : j = p := by omega
          have HE : Hid ((lstR j (leftR r s)).take j = lstR j (leftR r s)) := Lib.hid (by rw [List.take_of_length_le (by rw [HL3.out]; exact Nat.le_refl _)])
          rw [HE.out] at HO
          have hb := HP.out.below (Nat.le_refl _) (Nat.le_refl _)
          obtain ⟨A9, c9, hv9, _, hr9⟩ := own_res HO.out HL3.out.symm
          subst hv9
          have HRs := Lib.hid hr9.ins
          have hkI : ¬ (j : Int) < (zs.length : Int) := by rw [HZL.out]; omega
          replace HI := Lib.hid (HI.out.step hb)
          replace HJ := Lib.hid (HJ.out.step hb)
          replace Y1 := Lib.hid (Y1.out.step hb)
          replace Y2 := Lib.hid (Y2.out.step hb)
          replace N1 := Lib.hid (N1.out.step hb)
          replace N2 := Lib.hid (N2.out.step hb)
          replace B1 := Lib.hid (B1.out.step hb)
          replace B2 := Lib.hid (B2.out.step hb)
          replace HBW := Lib.hid (below_trans HBW.out hb)
          clear hb hr9 HO HP HE HIr HJr HT HA HA2 HL HL2 HCL HC8 HCF
          have wsz := True.intro
          obtain ⟨w19, hw19⟩ : ∃ x, x = wr := ⟨_, rfl⟩
          subst hw19
          go_wp2_with fail
          refine (HRY.out _ _ _ _ _ _ _ _ _ HI.out HRs.out).mono ?_
          rintro e w20 ⟨BR1, cR1, rfl, hres, hb⟩
          replace HI := Lib.hid (HI.out.step hb)
          replace HJ := Lib.hid (HJ.out.step hb)
          replace Y1 := Lib.hid (Y1.out.step hb)
          replace Y2 := Lib.hid (Y2.out.step hb)
          replace N1 := Lib.hid (N1.out.step hb)
          replace N2 := Lib.hid (N2.out.step hb)
          replace B1 := Lib.hid (B1.out.step hb)
          replace B2 := Lib.hid (B2.out.step hb)
          replace HBW := Lib.hid (below_trans HBW.out hb)
          obtain ⟨loR1, hiR1, R1⟩ : ∃ lo hi, Hid (Ins w20 lo hi BR1 ns) := ⟨_, _, Lib.hid hres.ins⟩
          clear hb hres
          clear HRs HRY
          go_wp2_with fail
          refine (rInts_same _ _ _ _ _ _ _ _ ns _ R1.out N1.out F.out.hn).mono ?_
          rintro e w21 ⟨rfl, hb⟩
          replace HI := Lib.hid (HI.out.step hb)
          replace HJ := Lib.hid (HJ.out.step hb)
          replace Y1 := Lib.hid (Y1.out.step hb)
          replace Y2 := Lib.hid (Y2.out.step hb)
          replace N1 := Lib.hid (N1.out.step hb)
          replace N2 := Lib.hid (N2.out.step hb)
          replace B1 := Lib.hid (B1.out.step hb)
          replace B2 := Lib.hid (B2.out.step hb)
          replace R1 := Lib.hid (R1.out.step hb)
          replace HBW := Lib.hid (below_trans HBW.out hb)
          clear hb
          rcases hok : ok with _ | _
          ·
            go_wp2
            go_ret
            exact ⟨rfl, HBW.out⟩
          · obtain ⟨x, y, hx9, hy9, hnd, hown, hX, hY⟩ := F.out.okk hok
            have HX := Lib.hid hX
            have HY := Lib.hid hY
            clear hX hY
            go_wp2_with fail
            refine (HX.out _ _ _ _ _ Y1.out).mono ?_
            rintro e w22 ⟨rfl, hb⟩
            replace HI := Lib.hid (HI.out.step hb)
            replace HJ := Lib.hid (HJ.out.step hb)
            replace Y1 := Lib.hid (Y1.out.step hb)
            replace Y2 := Lib.hid (Y2.out.step hb)
            replace N1 := Lib.hid (N1.out.step hb)
            replace N2 := Lib.hid (N2.out.step hb)
            replace B1 := Lib.hid (B1.out.step hb)
            replace B2 := Lib.hid (B2.out.step hb)
            replace R1 := Lib.hid (R1.out.step hb)
            replace HBW := Lib.hid (below_trans HBW.out hb)
            clear hb
            go_wp2_with fail
            refine (HY.out _ _ _ _ _ N1.out).mono ?_
            rintro e w23 ⟨rfl, hb⟩
            replace HI := Lib.hid (HI.out.step hb)
            replace HJ := Lib.hid (HJ.out.step hb)
            replace Y1 := Lib.hid (Y1.out.step hb)
            replace Y2 := Lib.hid (Y2.out.step hb)
            replace N1 := Lib.hid (N1.out.step hb)
            replace N2 := Lib.hid (N2.out.step hb)
            replace B1 := Lib.hid (B1.out.step hb)
            replace B2 := Lib.hid (B2.out.step hb)
            replace R1 := Lib.hid (R1.out.step hb)
            replace HBW := Lib.hid (below_trans HBW.out hb)
            clear hb
            by_cases hyx : (x : Int) < (y : Int)
            · have hnd2 : nd = (y : Int) + 1 := by omega
              have hnw : ¬ nd < ow := by omega
              clear hnd hown
              have HF2 := F
              subst hnd2
              go_wp2
              go_ret
              exact ⟨rfl, HBW.out⟩
            · have hnd2 : nd = (x : Int) + 1 := by omega
              have hnw : ¬ nd < ow := by omega
              clear hnd hown
              have HF2 := F
              subst hnd2
              go_wp2
              go_ret
              exact ⟨rfl, HBW.out⟩
  ·
    have hmn1 : 1 ≤ mn := F.out.f1 hf
    have hmn2 : ¬ mn < 1 := by omega
    rcases ho : o with _ | _
    ·
      have hok : ok = false := by
        rcases hq : ok with _ | _
        · rfl
        · have := F.out.o1 hq; rw [ho] at this; cases this
      subst hok
      go_wp2_with fail
      refine (F.out.sb hf _ _ _ _ _ _ _ _ _ HI.out B1.out).mono ?_
      rintro e w19 ⟨rfl, hb⟩
      replace HI := Lib.hid (HI.out.step hb)
      replace HJ := Lib.hid (HJ.out.step hb)
      replace Y1 := Lib.hid (Y1.out.step hb)
      replace Y2 := Lib.hid (Y2.out.step hb)
      replace N1 := Lib.hid (N1.out.step hb)
      replace N2 := Lib.hid (N2.out.step hb)
      replace B1 := Lib.hid (B1.out.step hb)
      replace B2 := Lib.hid (B2.out.step hb)
      replace HBW := Lib.hid (below_trans HBW.out hb)
      clear hb
      go_wp2
      go_ret
      exact ⟨rfl, HBW.out⟩
    ·
      obtain ⟨p, r, s, hzs, hss, hw1, hw2, h8, hfit, hR⟩ := F.out.r1 ho
      have hzl : zs.length = p := by rw [hzs]; exact lstR_len hw1
      have hsl : ss.length = p := by rw [hss]; exact lstR_len hw2
      have HZL := Lib.hid hzl
      have HSL := Lib.hid hsl
      have hp3 := hw1.le
      have HIr : Hid (Ins w18 lo1 hi1 B (lstR p r)) := Lib.hid (by rw [← hzs]; exact HI.out)
      have HJr : Hid (Ins w18 lo2 hi2 B2_ (lstR p s)) := Lib.hid (by rw [← hss]; exact HJ.out)
      have htop := HIr.out.top
      have htop2 := HJr.out.top
      have HO0 := Lib.hid (O0_any w18 w18.heap.size (Nat.le_refl _))
      have HP0 : Hid (Past w18.heap.size w18 (w18.alloc (.cells #[] 3))) := Lib.hid (Past.of_below ((Below.refl w18.heap.size w18).alloc (Nat.le_refl _) (.cells #[] 3)))
      have HT := Lib.hid (fun k (h : k < p) => take_snoc hp3 (leftR r s) h)
      have HA := Lib.hid (fun k (h : k < p) => lst_at hp3 r h (by rw [lst_len hp3]; exact h))
      have HA2 := Lib.hid (fun k (h : k < p) => lst_at hp3 s h (by rw [lst_len hp3]; exact h))
      have HL := Lib.hid (lst_len hp3 r)
      have HL2 := Lib.hid (lst_len hp3 s)
      have HL3 := Lib.hid (lst_len hp3 (leftR r s))
      have HCL := Lib.hid (fun i => @comp_left r s i)
      have HC8 := Lib.hid (fun i => comp_le h8 i)
      have HCF := Lib.hid (fun i => comp_fit hfit i)
      have HRY := Lib.hid hR
      clear hzl hsl hzs hss hw1 hw2 h8 hfit hR
      go_wp2_with fail
      generalize w18.alloc (.cells #[] 3) = wz at HO0 HP0 ⊢
      generalize (Value.slice (some ⟨w18.heap.size, 0, none⟩) 0 0) = v0 at HO0 ⊢
      go_loopw [29, 30] (fun v i wr => ∃ (j : Nat), j ≤ p ∧ i = .int .i64 j ∧ Hid (wr.ownsRow w18.heap.size 3 1 v j (((lstR p (leftR r s)).take j).map (Value.int .i64))) ∧ Hid (Past w18.heap.size w18 wr)) (fun _ i _ => p - (intOf i).toNat)
      case atStart => exact ⟨0, Nat.zero_le _, rfl, by simpa using HO0, HP0⟩
      case round =>
        clear HO0 HP0
        obtain ⟨j, hj, rfl, HO, HP⟩ := hrel
        rename World => wr
        by_cases hlt : j < p
        · obtain ⟨b, o1, hBe, _, hb, hc⟩ := (HIr.out.past HP.out htop).ints.at_ (k := j) (by rw [HL.out]; exact hlt)
          obtain ⟨b2, o2, hBe2, _, hb2, hc2⟩ := (HJr.out.past HP.out htop2).ints.at_ (k := j) (by rw [HL2.out]; exact hlt)
          subst hBe hBe2
          rw [HA.out j hlt] at hc
          rw [HA2.out j hlt] at hc2
          have h1 := HC8.out (3 - p + j)
          have h2 := HCF.out (3 - p + j)
          have HTk : Hid ((lstR p (leftR r s)).take (j + 1) = (lstR p (leftR r s)).take j ++ [(compR r (3 - p + j) : Int) - (compR s (3 - p + j) : Int)]) := Lib.hid (by
            rw [HT.out j hlt, HCL.out]
            congr 2
            omega)
          generalize compR r (3 - p + j) = x at hc h1 h2 HTk
          generalize compR s (3 - p + j) = y at hc2 h2 HTk
          have HlT : Hid (((lstR p (leftR r s)).take j).length = j) := Lib.hid (by rw [List.length_take, HL3.out]; omega)
          generalize (lstR p (leftR r s)).take j = fl at HO HTk HlT
          have hkI : (j : Int) < (zs.length : Int) := by rw [HZL.out]; omega
          have hkI2 : (j : Int) < (ss.length : Int) := by rw [HSL.out]; omega
          have hsz := HP.out.size
          go_wp2_with fail
          go_region_law (first
            | (rw [if_pos (by simp [Region.wanted])]; generalize hX : (IntKind.i64.wrap ((x : Int) - (y : Int))) = X; refine wp_append_lies _ (.tmp 194) (.tmp 204) 22 rfl w18.heap.size 3 i0 (.int .i64 0) 1 8 Try.underlying22 hi0 hz0 hz1 hz2 rfl (by decide) u29 j (fl.map (Value.int .i64)) rfl (HO.out.alloc _) ⟨wr.heap.size, 0, none⟩ 1 1 [.int .i64 X] rfl rfl (cell_one_new _ _ _) (fun u hu => by rw [List.mem_singleton.1 hu]; rfl) (by decide) (by unfold maxLen; omega) (by omega) (Nat.le_trans hsz (Nat.le_of_lt (by simp))) _ rfl ?_; intro g cap w5 hown hgrow hat hlt5; have hXe := hX; rw [IntWalk.i64_in _ (by omega)] at hXe; have HO5 := Lib.hid hown; have hg5 : (wr.alloc (.cells #[.int .i64 X] 3)).grownBy w5 u29.ownBlock := ⟨hgrow.os, hgrow.tape, hgrow.output, hgrow.size, hgrow.block⟩; have HP5 := Lib.hid (HP.out.trans (Past.grown HO.out hg5)); clear hg5; clear hX hown hgrow hat hlt5))
          all_goals
            go_wp2
            go_roundw
            case rel => exact ⟨j + 1, by omega, by go_num, Lib.hid (by rw [HTk.out, List.map_append, hXe]; exact HO5.out), HP5⟩
            case measure => simp [intOf]; omega
        · obtain rfl : j = p := by omega
          have HE : Hid ((lstR j (leftR r s)).take j = lstR j (leftR r s)) := Lib.hid (by rw [List.take_of_length_le (by rw [HL3.out]; exact Nat.le_refl _)])
          rw [HE.out] at HO
          have hb := HP.out.below (Nat.le_refl _) (Nat.le_refl _)
          obtain ⟨A9, c9, hv9, _, hr9⟩ := own_res HO.out HL3.out.symm
          subst hv9
          have HRs := Lib.hid hr9.ins
          have hkI : ¬ (j : Int) < (zs.length : Int) := by rw [HZL.out]; omega
          replace HI := Lib.hid (HI.out.step hb)
          replace HJ := Lib.hid (HJ.out.step hb)
          replace Y1 := Lib.hid (Y1.out.step hb)
          replace Y2 := Lib.hid (Y2.out.step hb)
          replace N1 := Lib.hid (N1.out.step hb)
          replace N2 := Lib.hid (N2.out.step hb)
          replace B1 := Lib.hid (B1.out.step hb)
          replace B2 := Lib.hid (B2.out.step hb)
          replace HBW := Lib.hid (below_trans HBW.out hb)
          clear hb hr9 HO HP HE HIr HJr HT HA HA2 HL HL2 HCL HC8 HCF
          have wsz := True.intro
          obtain ⟨w19, hw19⟩ : ∃ x, x = wr := ⟨_, rfl⟩
          subst hw19
          go_wp2_with fail
          refine (HRY.out _ _ _ _ _ _ _ _ _ HI.out HRs.out).mono ?_
          rintro e w20 ⟨BR1, cR1, rfl, hres, hb⟩
          replace HI := Lib.hid (HI.out.step hb)
          replace HJ := Lib.hid (HJ.out.step hb)
          replace Y1 := Lib.hid (Y1.out.step hb)
          replace Y2 := Lib.hid (Y2.out.step hb)
          replace N1 := Lib.hid (N1.out.step hb)
          replace N2 := Lib.hid (N2.out.step hb)
          replace B1 := Lib.hid (B1.out.step hb)
          replace B2 := Lib.hid (B2.out.step hb)
          replace HBW := Lib.hid (below_trans HBW.out hb)
          obtain ⟨loR1, hiR1, R1⟩ : ∃ lo hi, Hid (Ins w20 lo hi BR1 ns) := ⟨_, _, Lib.hid hres.ins⟩
          clear hb hres
          clear HRs HRY
          go_wp2_with fail
          refine (rInts_same _ _ _ _ _ _ _ _ ns _ R1.out N1.out F.out.hn).mono ?_
          rintro e w21 ⟨rfl, hb⟩
          replace HI := Lib.hid (HI.out.step hb)
          replace HJ := Lib.hid (HJ.out.step hb)
          replace Y1 := Lib.hid (Y1.out.step hb)
          replace Y2 := Lib.hid (Y2.out.step hb)
          replace N1 := Lib.hid (N1.out.step hb)
          replace N2 := Lib.hid (N2.out.step hb)
          replace B1 := Lib.hid (B1.out.step hb)
          replace B2 := Lib.hid (B2.out.step hb)
          replace R1 := Lib.hid (R1.out.step hb)
          replace HBW := Lib.hid (below_trans HBW.out hb)
          clear hb
          rcases hok : ok with _ | _
          ·
            go_wp2_with fail
            refine (F.out.sb hf _ _ _ _ _ _ _ _ _ HI.out B1.out).mono ?_
            rintro e w22 ⟨rfl, hb⟩
            replace HI := Lib.hid (HI.out.step hb)
            replace HJ := Lib.hid (HJ.out.step hb)
            replace Y1 := Lib.hid (Y1.out.step hb)
            replace Y2 := Lib.hid (Y2.out.step hb)
            replace N1 := Lib.hid (N1.out.step hb)
            replace N2 := Lib.hid (N2.out.step hb)
            replace B1 := Lib.hid (B1.out.step hb)
            replace B2 := Lib.hid (B2.out.step hb)
            replace R1 := Lib.hid (R1.out.step hb)
            replace HBW := Lib.hid (below_trans HBW.out hb)
            clear hb
            go_wp2
            go_ret
            exact ⟨rfl, HBW.out⟩
          · obtain ⟨x, y, hx9, hy9, hnd, hown, hX, hY⟩ := F.out.okk hok
            have HX := Lib.hid hX
            have HY := Lib.hid hY
            clear hX hY
            go_wp2_with fail
            refine (HX.out _ _ _ _ _ Y1.out).mono ?_
            rintro e w22 ⟨rfl, hb⟩
            replace HI := Lib.hid (HI.out.step hb)
            replace HJ := Lib.hid (HJ.out.step hb)
            replace Y1 := Lib.hid (Y1.out.step hb)
            replace Y2 := Lib.hid (Y2.out.step hb)
            replace N1 := Lib.hid (N1.out.step hb)
            replace N2 := Lib.hid (N2.out.step hb)
            replace B1 := Lib.hid (B1.out.step hb)
            replace B2 := Lib.hid (B2.out.step hb)
            replace R1 := Lib.hid (R1.out.step hb)
            replace HBW := Lib.hid (below_trans HBW.out hb)
            clear hb
            go_wp2_with fail
            refine (HY.out _ _ _ _ _ N1.out).mono ?_
            rintro e w23 ⟨rfl, hb⟩
            replace HI := Lib.hid (HI.out.step hb)
            replace HJ := Lib.hid (HJ.out.step hb)
            replace Y1 := Lib.hid (Y1.out.step hb)
            replace Y2 := Lib.hid (Y2.out.step hb)
            replace N1 := Lib.hid (N1.out.step hb)
            replace N2 := Lib.hid (N2.out.step hb)
            replace B1 := Lib.hid (B1.out.step hb)
            replace B2 := Lib.hid (B2.out.step hb)
            replace R1 := Lib.hid (R1.out.step hb)
            replace HBW := Lib.hid (below_trans HBW.out hb)
            clear hb
            by_cases hyx : (x : Int) < (y : Int)
            · have hnd2 : nd = (y : Int) + 1 := by omega
              have hnw : ¬ nd < ow := by omega
              clear hnd hown
              have HF2 := F
              subst hnd2
              go_wp2_with fail
              refine (F.out.sb hf _ _ _ _ _ _ _ _ _ HI.out B1.out).mono ?_
              rintro e w24 ⟨rfl, hb⟩
              replace HI := Lib.hid (HI.out.step hb)
              replace HJ := Lib.hid (HJ.out.step hb)
              replace Y1 := Lib.hid (Y1.out.step hb)
              replace Y2 := Lib.hid (Y2.out.step hb)
              replace N1 := Lib.hid (N1.out.step hb)
              replace N2 := Lib.hid (N2.out.step hb)
              replace B1 := Lib.hid (B1.out.step hb)
              replace B2 := Lib.hid (B2.out.step hb)
              replace R1 := Lib.hid (R1.out.step hb)
              replace HBW := Lib.hid (below_trans HBW.out hb)
              clear hb
              go_wp2
              go_ret
              exact ⟨rfl, HBW.out⟩
            · have hnd2 : nd = (x : Int) + 1 := by omega
              have hnw : ¬ nd < ow := by omega
              clear hnd hown
              have HF2 := F
              subst hnd2
              go_wp2_with fail
              refine (F.out.sb hf _ _ _ _ _ _ _ _ _ HI.out B1.out).mono ?_
              rintro e w24 ⟨rfl, hb⟩
              replace HI := Lib.hid (HI.out.step hb)
              replace HJ := Lib.hid (HJ.out.step hb)
              replace Y1 := Lib.hid (Y1.out.step hb)
              replace Y2 := Lib.hid (Y2.out.step hb)
              replace N1 := Lib.hid (N1.out.step hb)
              replace N2 := Lib.hid (N2.out.step hb)
              replace B1 := Lib.hid (B1.out.step hb)
              replace B2 := Lib.hid (B2.out.step hb)
              replace R1 := Lib.hid (R1.out.step hb)
              replace HBW := Lib.hid (below_trans HBW.out hb)
              clear hb
              go_wp2
              go_ret
              exact ⟨rfl, HBW.out⟩
end Go.Proofs.Ytdkffkgoalgjmab
namespace Go.Proofs.Ytdkffkgoalgjmab
open Go.RowKit Go.ChangeShapes Go.WideShapes
set_option linter.unusedVariables false

set_option maxRecDepth 100000 in
theorem fnNeeds_walk (A : Option Addr) (n c : Nat) (W : World) (hC : Code W W.heap.size A n) (h1 : n ≤ c) (h2 : c ≤ maxLen) :
    Calls Try.prog 11 #[.slice A n c] W fun e W' => e = .returned (.bool true) ∧ Below W.heap.size W W' := by
  by_cases h : n ≤ 65536
  · exact fnNeeds_run A n c W hC (by omega) h
  · have HV := Lib.hid (rBig_any A n c W (by omega))
    rw [decide_eq_true (by omega)] at HV
    clear hC
    go_enter Try.func11, Try.ntmps11
    go_wp2_with fail
    refine (HV.out).mono ?_
    rintro e w' ⟨rfl, hw⟩
    have hw := hw.symm
    subst hw
    go_wp2
    go_ret
    exact ⟨rfl, Below.refl _ _⟩
end Go.Proofs.Ytdkffkgoalgjmab
namespace Go.Proofs.Ytdkffkgoalgjmab.fnNeeds
open Go.ChangeShapes Go.WideShapes Go.ChangeAt Go.RowKit
open Go.ChangeMaps (open_string shut_string)
set_option linter.unusedVariables false

theorem own : ownKnob Try.prog.godebug = none := by kernel_rfl
theorem laidOut : laidOutB Try.prog = true := by kernel_rfl

set_option maxRecDepth 100000 in
theorem contract (H : Type) (enc : TypeId × Value → H) (W : World) (base : Nat) (args : Array Value) (ds gs : List (DataW H)) (before : List MemPlace)
    (hval : ∀ (j : Nat) t v, Try.f11.params[j]? = some t → args[j]? = some v → Value.okWide Try.prog W .any base t v)
    (hW : DataW.Whole enc Try.prog Try.f11.params.toList Rows.fnNeedsSpec.vars false W args.toList ds gs before)
    (hsz : (DataW.weightsEach Try.prog (Try.f11.params.toList ++ (OpenSpec.ofChange Rows.fnNeedsSpec).bare.plain.varTypes Try.prog) (ds ++ gs)).all (· ≤ reachBytes) = true)
    (hL : laidMetH Try.prog Rows.fnNeedsRow.laid W) (hsh : W.ShapedOpen Try.prog) :
    Calls Try.prog 11 args W fun e W' => ∃ v, e = .returned v ∧ Rows.fnNeedsSpec.post enc Try.prog Try.f11 false true false false W args v W' := by
  have hW' := hW
  obtain ⟨p, q, hA0, hV, rfl, hfz, hnd⟩ := hW
  have hA : DataW.TrodAll enc Try.prog W 0 (fun _ => true) true Try.f11.params.toList args.toList ds p := hA0
  rw [Try.params11] at hA hval
  obtain ⟨v0, vs0, d0, ds0, p0, q0, hargs, rfl, rfl, h0, r0⟩ := trodAll_cons hA
  obtain ⟨rfl, rfl, rfl⟩ := trodAll_nil r0
  obtain rfl : args = #[v0] := by cases args; simp_all
  obtain ⟨rfl, rfl⟩ := trodVars_none hV
  have k0 := h0
  have lt0 : ∀ x ∈ p0, x.block < W.heap.size := by obtain ⟨m, hm⟩ := k0; exact DataW.trod_lt m _ _ _ hm
  obtain ⟨a0, len0, cap0, rfl⟩ := okWide_slice Try.underlying46 (hval 0 46 v0 rfl rfl)
  obtain ⟨w0, hc0, hm0⟩ := code_of_trod h0
  refine (fnNeeds_walk a0 len0 cap0 W w0 hc0 hm0).mono fun e W' ⟨he, bel⟩ => ?_
  subst he
  exact ⟨_, rfl, _, _, _, [], _, [], hW', trodAll_mk1 (shut_bool Try.underlying4 _), (trodAll_cons_mk (Below.trod laidOut (by kernel_rfl) (of_decide_eq_true (by kernel_rfl)) k0 bel lt0) trodAll_mk0), rfl, bel.frame _, fun h => by cases h⟩

noncomputable def startWorld (os : Os) : World := World.holding Try.prog os ⟨#[], #[], []⟩
set_option maxRecDepth 100000 in
theorem laid_met (os : Os) : laidMet Try.prog Rows.fnNeedsRow.laid ((startWorld os).forCall (fun _ _ => 0) ⟨#[], #[.slice none 0 0], []⟩).memory := laidMet_nil _ _
set_option maxRecDepth 100000 in
theorem reads (os : Os) {H : Type} (enc : TypeId × Value → H) : ∃ places, DataW.whole enc Try.prog ((startWorld os).forCall (fun _ _ => 0) ⟨#[], #[.slice none 0 0], []⟩).memory Try.f11.params.toList Rows.fnNeedsSpec.vars false (#[.slice none 0 0] : Array Value).toList 8 = some ([.nil], [], places) :=
  ⟨[], by kernel_rfl⟩

set_option maxRecDepth 100000 in
theorem lifted (os : Os) (started : os.Started) (H : Type) (enc : TypeId × Value → H) (F : Stop.Interp) :
    ReturnsInHanded {} Try.checked os 11 .any ((OpenSpec.ofChange Rows.fnNeedsSpec).preRow enc Try.prog Try.f11 Rows.fnNeedsRow.domain false Rows.fnNeedsRow.laid) (((OpenSpec.ofChange Rows.fnNeedsSpec).at F).post enc Try.prog Try.f11 false true false false) := by
  obtain ⟨places, hx⟩ := reads os enc
  refine returnsInHanded_of_row (C := Try.checked) (s := OpenSpec.ofChange Rows.fnNeedsSpec) own started (by kernel_rfl) Try.func11
    (witness_row_at (enc := enc) (C := Try.checked) false (startWorld os) #[.slice none 0 0] rfl (by kernel_rfl) (by kernel_rfl) (by kernel_rfl)
      (OpenSpec.preRow_of_cond 8 hx (by kernel_rfl) (fun k hk => by cases hk) (by kernel_rfl) (laid_met os))) ?_
  intro W base args ds gs before hval hW _ _ hsz hL hsh _
  exact contract H enc W base args ds gs before hval hW hsz hL hsh

theorem said : Rows.FnNeedsSaid :=
  OpenClaim.holds_of_cond 11 Try.f11 rfl rfl rfl rfl rfl rfl rfl ⟨rfl, rfl, rfl, rfl, rfl⟩ rfl rfl rfl rfl rfl (by kernel_rfl) Try.func11 (by kernel_rfl)
    (of_decide_eq_true (by kernel_rfl)) (by unfold Func.isWrapper; first | (rw [if_pos (by decide +kernel)]; kernel_rfl) | (rw [if_neg (by decide +kernel)]; exact ⟨rfl, rfl⟩))
    (fun os started H enc _ F => by rw [OpenClaim.pre_eq_preRow]; exact lifted os started H enc F)

theorem proved : Rows.FnNeedsSaid := said
end Go.Proofs.Ytdkffkgoalgjmab.fnNeeds
