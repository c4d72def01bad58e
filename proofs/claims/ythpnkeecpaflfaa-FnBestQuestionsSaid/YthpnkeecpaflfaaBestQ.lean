/- BestQuestion: both. -/
import Derived.Test.YthpnkeecpaflfaaQNeed
import Derived.Test.YthpnkeecpaflfaaAskP
namespace Go.Proofs.Ythpnkeecpaflfaa
open Go.RowKit Go.ChangeShapes Go.WideShapes
set_option linter.unusedVariables false

/-- What the walk of the numbers has told: what is left of the split, and the question. -/
def bqTo (zs s0 : List Int) : Nat → List Int × Int
  | 0 => (s0, 0)
  | k + 1 => if 0 ≤ zs.getD k (-1) ∧ 0 < (bqTo zs s0 k).1.getD (zs.getD k (-1)).toNat 0 then ((bqTo zs s0 k).1.set (zs.getD k (-1)).toNat ((bqTo zs s0 k).1.getD (zs.getD k (-1)).toNat 0 - 1), bits .or .i64 (bqTo zs s0 k).2 (2 ^ k)) else bqTo zs s0 k
theorem bq_len (zs s0 : List Int) : ∀ k, (bqTo zs s0 k).1.length = s0.length
  | 0 => rfl
  | k + 1 => by
    unfold bqTo
    split
    · simp [bq_len zs s0 k]
    · exact bq_len zs s0 k
theorem bq_bd (zs : List Int) {s0 : List Int} (h : ∀ x ∈ s0, 0 ≤ x ∧ x ≤ 8) : ∀ k, ∀ x ∈ (bqTo zs s0 k).1, 0 ≤ x ∧ x ≤ 8
  | 0 => h
  | k + 1 => fun x hx => by
    have ih := bq_bd zs h k
    unfold bqTo at hx
    split at hx
    · rename_i hc
      rcases List.mem_or_eq_of_mem_set hx with h1 | h1
      · exact ih x h1
      · have := getD_bd ih (by omega) (zs.getD k (-1)).toNat
        omega
    · exact ih x hx
theorem lst_bd8 {p : Nat} {r : Row} (h8 : rsum r ≤ 8) : ∀ x ∈ lstR p r, 0 ≤ x ∧ x ≤ 8 := fun x hx => by
  unfold rsum at h8
  have := List.mem_of_mem_drop hx
  simp at this
  omega
theorem fits_sum {s r : Row} (h : Fits s r) (h8 : rsum r ≤ 8) : rsum s ≤ 8 := by
  unfold Fits at h
  unfold rsum at h8 ⊢
  omega
theorem asks_in {zs : List Int} {M : Nat} (hst : isSt zs (M : Int) = true) (h : 2 ≤ (opens zs).length ∧ (opens zs).length ≤ 8) : asksL (cntTo zs (M + 1) zs.length) = true := by
  have hc := cs_ok hst h.2
  obtain ⟨r, hr, hw, h8⟩ := cOK_row hc
  have e := sum_lst hw
  rw [← hr, cs_sum hst] at e
  unfold asksL
  rw [hc, rowL_eq hr hw, decide_eq_false (by omega)]
  rfl
theorem asks_out {zs : List Int} {M : Nat} (hst : isSt zs (M : Int) = true) (h : ¬ (2 ≤ (opens zs).length ∧ (opens zs).length ≤ 8)) : asksL (cntTo zs (M + 1) zs.length) = false := by
  cases hc : cOK (cntTo zs (M + 1) zs.length) with
  | false => unfold asksL; rw [hc]; rfl
  | true =>
    obtain ⟨r, hr, hw, h8⟩ := cOK_row hc
    have e := sum_lst hw
    rw [← hr, cs_sum hst] at e
    unfold asksL
    rw [hc, rowL_eq hr hw, decide_eq_true (by omega)]
    rfl
theorem own_res1 {w : World} {lo hi : Nat} {A : Option Addr} {l : List Int} (h : Own w lo hi A l) (h0 : 0 < l.length) : ∃ g, A = some ⟨g, 0, none⟩ ∧ lo ≤ g ∧ Own w g (g + 1) (some ⟨g, 0, none⟩) l := by
  rcases h with ⟨_, rfl⟩ | ⟨g, cur, rfl, h1, h2, hr, hs, hc⟩
  · simp at h0
  · exact ⟨g, rfl, h1, .inr ⟨g, cur, rfl, Nat.le_refl _, Nat.lt_succ_self _, hr, hs, hc⟩⟩
set_option maxRecDepth 100000 in
set_option maxHeartbeats 800000 in
theorem bestQuestion_impl (A : Option Addr) (c lo hi : Nat) (zs : List Int) (M : Nat) (w : World) (hS : Ins w lo hi A zs) (hst : isSt zs (M : Int) = true) (hrg : 2 ≤ (opens zs).length ∧ (opens zs).length ≤ 8) :
    Calls Try.prog 6 #[.agg #[.slice A zs.length c, .int .i64 (M : Int)]] w fun e w' => e = .returned (.tuple #[.int .i64 (bqTo zs (lstR (M + 1) (planR (rowL (cntTo zs (M + 1) zs.length))).first) zs.length).2, .bool true]) ∧ Below w.heap.size w w' := by
  have hl := isSt_len hst
  have htop := hS.top
  have HA := Lib.hid (fun k (h : k < zs.length) => isSt_at hst h)
  have HX0 := Lib.hid (Arg.next (Below.refl w.heap.size w) (.slice A zs.length c) (.int .i64 (M : Int)) 26 w.heap.size rfl)
  have HI0 := Lib.hid (hS.step HX0.out.below)
  have HC := Lib.hid (fun W h => countsOf_impl A c lo hi zs M W h hst)
  have has := asks_in hst hrg
  obtain ⟨r, hr, hw, h8, _, hq⟩ := asks_row has
  have HBS := Lib.hid (fun A1 c1 lo1 hi1 W h => bestSplit_impl A1 c1 lo1 hi1 (cntTo zs (M + 1) zs.length) W h (by rw [cntTo_len]; omega))
  unfold RowAns at HBS
  rw [has, if_pos rfl, hq] at HBS
  rw [cntTo_len] at hr hw HBS
  rw [rowL_eq hr hw]
  have hp := hw.le
  have HSL := Lib.hid (lst_len hp (planR r).first)
  have HS0 := Lib.hid (lst_bd8 (p := M + 1) (fits_sum (plan_fits h8) h8))
  have h0c := HX0.out.c0
  have h1c := HX0.out.c1
  clear hS hst has hr hw hq
  generalize lstR (M + 1) (planR r).first = s0 at HBS HSL HS0 ⊢
  generalize cntTo zs (M + 1) zs.length = cs at HC HBS
  go_enter Try.func6, Try.ntmps6
  go_wp2_with fail
  generalize w.alloc (.cells #[.slice A zs.length c, .int .i64 (M : Int)] 26) = wa at HX0 HI0 h0c h1c ⊢
  refine (HC.out wa HI0.out).mono ?_
  rintro e wb ⟨g1, rfl, hg1, hr, hb⟩
  have HX := Lib.hid (HX0.out.step hb)
  have HI := Lib.hid (HI0.out.step hb)
  have HR := Lib.hid (row_res4 (Nat.zero_le _) hr).ins
  clear hb hr HX0 HI0 HC h0c h1c
  have h0 := HX.out.c0
  have h1 := HX.out.c1
  go_wp2_with fail
  refine (HBS.out _ _ _ _ wb HR.out).mono ?_
  rintro e wz ⟨B, c2, rfl, hres, hb⟩
  obtain ⟨g, rfl, hgl, ho⟩ := own_res1 hres.own (by rw [HSL.out]; omega)
  have HO := Lib.hid ho
  have HXz := Lib.hid (HX.out.step hb)
  have HIz := Lib.hid (HI.out.step hb)
  have HBz := Lib.hid HXz.out.below
  have hxh := HX.out.hi
  have hxl := HX.out.lo
  have hit := HI.out.top
  have hgz : w.heap.size ≤ g := by omega
  have hhi : hi ≤ g := by omega
  rw [HSL.out]
  clear hres ho hb HX HI HR HBS h0 h1
  have h0 := HXz.out.c0
  have h1 := HXz.out.c1
  go_wp2_with fail
  go_loopw [7, 27] (fun qv i wr => ∃ (k : Nat), k ≤ zs.length ∧ i = .int .i64 (k : Int) ∧ qv = .int .i64 (bqTo zs s0 k).2 ∧ Hid (Own wr g (g + 1) (some ⟨g, 0, none⟩) (bqTo zs s0 k).1) ∧ Hid (Within g (g + 1) wz wr)) (fun _ i _ => zs.length - (intOf i).toNat)
  case atStart => exact ⟨0, Nat.zero_le _, rfl, rfl, HO, Within.refl _ _ _⟩
  case round =>
    obtain ⟨k, hk, rfl, rfl, HP, HW⟩ := hrel
    clear HO
    rename World => w3
    have HX3 := Lib.hid (HXz.out.within HW.out (by omega))
    have h0 := HX3.out.c0
    have h1 := HX3.out.c1
    by_cases hlt : k < zs.length
    · obtain ⟨b, o, rfl, _, hb, hc⟩ := (HIz.out.within HW.out (by omega)).ints.at_ hlt
      have hgd := getD_at hlt
      have hat := HA.out k hlt
      have HL := Lib.hid (bq_len zs s0 k)
      have HD := Lib.hid (bq_bd zs HS0.out k)
      have hpw := pow_le k (by omega)
      by_cases hx : 0 ≤ zs[k]
      · obtain ⟨i, hi⟩ : ∃ i : Nat, zs[k] = (i : Int) := ⟨zs[k].toNat, by omega⟩
        have hiM : i < M + 1 := by omega
        have hcell := own_cell HP.out (k := i) (by rw [HL.out, HSL.out]; exact hiM)
        have hbd := getD_bd HD.out (by omega) i
        have hne : ¬ (i : Int) = -1 := by omega
        have HF : Hid (bqTo zs s0 (k + 1) = if 0 < (bqTo zs s0 k).1.getD i 0 then ((bqTo zs s0 k).1.set i ((bqTo zs s0 k).1.getD i 0 - 1), bits .or .i64 (bqTo zs s0 k).2 (2 ^ k)) else bqTo zs s0 k) := Lib.hid (by
          show (if _ then _ else _) = _
          rw [hgd, hi, Int.toNat_natCast]
          have : (0 : Int) ≤ (i : Int) := by omega
          simp only [this, true_and])
        rw [hi] at hc hat
        clear hx hi hgd
        have HO2 := Lib.hid (own_set HP.out (k := i) (by rw [HL.out, HSL.out]; exact hiM) ((bqTo zs s0 k).1.getD i 0 - 1))
        have HW2 := Lib.hid (within_set HW.out (g := g) (Nat.le_refl _) (by omega) i (.int .i64 ((bqTo zs s0 k).1.getD i 0 - 1)))
        have hfr := row_freeI (own_at HP.out).choose_spec.1 i
        clear HL HD
        by_cases hpos : 0 < (bqTo zs s0 k).1.getD i 0
        · rw [if_pos hpos] at HF
          generalize (bqTo zs s0 k).1.getD i 0 = z at hcell hbd HF HO2 HW2 hpos
          generalize (bqTo zs s0 k).2 = acc at HF ⊢
          go_wp2
          go_roundw
          case rel => exact ⟨k + 1, by omega, by go_num, by rw [HF.out], by rw [HF.out]; exact HO2.out, HW2.out⟩
          case measure => simp [intOf]; omega
        · rw [if_neg hpos] at HF
          generalize (bqTo zs s0 k).1.getD i 0 = z at hcell hbd HO2 HW2 hpos
          go_wp2
          go_roundw
          case rel => exact ⟨k + 1, by omega, by go_num, by rw [HF.out], by rw [HF.out]; exact HP.out, HW.out⟩
          case measure => simp [intOf]; omega
      · have HF : Hid (bqTo zs s0 (k + 1) = bqTo zs s0 k) := Lib.hid (by
          show (if _ then _ else _) = _
          rw [hgd, if_neg (fun h => hx h.1)])
        have hne : zs[k] = -1 := by omega
        rw [hne] at hc
        clear hgd hx hne HL HD
        go_wp2
        go_roundw
        case rel => exact ⟨k + 1, by omega, by go_num, by rw [HF.out], by rw [HF.out]; exact HP.out, HW.out⟩
        case measure => simp [intOf]; omega
    · obtain rfl : k = zs.length := by omega
      go_wp2
      go_ret2
      exact ⟨rfl, HBz.out.trans (HW.out.below hgz HBz.out.size)⟩
set_option maxRecDepth 100000 in
set_option maxHeartbeats 800000 in
theorem bestQuestion_spec (A : Option Addr) (c lo hi : Nat) (zs : List Int) (M : Nat) (w : World) (hS : Ins w lo hi A zs) (hst : isSt zs (M : Int) = true) (hrg : 2 ≤ (opens zs).length ∧ (opens zs).length ≤ 8) :
    Calls Try.prog 7 #[.agg #[.slice A zs.length c, .int .i64 (M : Int)]] w fun e w' => e = .returned (.tuple #[.int .i64 (bqTo zs (lstR (M + 1) (planR (rowL (cntTo zs (M + 1) zs.length))).first) zs.length).2, .bool true]) ∧ Below w.heap.size w w' := by
  have hl := isSt_len hst
  have htop := hS.top
  have HA := Lib.hid (fun k (h : k < zs.length) => isSt_at hst h)
  have HX0 := Lib.hid (Arg.next (Below.refl w.heap.size w) (.slice A zs.length c) (.int .i64 (M : Int)) 26 w.heap.size rfl)
  have HI0 := Lib.hid (hS.step HX0.out.below)
  have HC := Lib.hid (fun W h => l2State_any A c lo hi zs (M : Int) W h (by omega))
  rw [hst] at HC
  have HOp := Lib.hid (fun W h => l2Open_any A c lo hi zs (M : Int) W h hl.2.1)
  have HIn := Lib.hid (fun W => l1In_any ((opens zs).length : Int) 2 8 W)
  rw [inB_t (by omega) (by omega)] at HIn
  have HCn := Lib.hid (fun W h => l2Counts_any A c lo hi zs M W h hst)
  have has := asks_in hst hrg
  obtain ⟨r, hr, hw, h8, h2, hq⟩ := asks_row has
  rw [cntTo_len] at hr hw
  rw [rowL_eq hr hw]
  have hp := hw.le
  have HBe := Lib.hid (fun A1 c1 lo1 hi1 W h => l4Best_any A1 c1 lo1 hi1 (M + 1) r W h hw h8)
  have HM : Hid ((bestR r)[0]? = some (planR r).first) := Lib.hid (best_first h8 h2).1
  have HSL := Lib.hid (lst_len hp (planR r).first)
  have HS0 := Lib.hid (lst_bd8 (p := M + 1) (fits_sum (plan_fits h8) h8))
  have h0c := HX0.out.c0
  have h1c := HX0.out.c1
  rw [hr] at HCn
  clear hS hst has hr hw hq
  go_enter Try.func7, Try.ntmps7
  go_wp2_with fail
  generalize w.alloc (.cells #[.slice A zs.length c, .int .i64 (M : Int)] 26) = wa at HX0 HI0 h0c h1c ⊢
  refine (HC.out wa HI0.out).mono ?_
  rintro e wb ⟨rfl, hb⟩
  have HX2 := Lib.hid (HX0.out.step hb)
  have HI2 := Lib.hid (HI0.out.step hb)
  clear hb HX0 HI0 HC h0c h1c
  have h0 := HX2.out.c0
  have h1 := HX2.out.c1
  go_wp2_with fail
  refine (HOp.out wb HI2.out).mono ?_
  rintro e wd ⟨v, rfl, ho, hb⟩
  obtain ⟨Ao, co, rfl, _, _⟩ := own_res ho rfl
  have HX := Lib.hid (HX2.out.step hb)
  have HI := Lib.hid (HI2.out.step hb)
  clear ho hb HX2 HI2 HOp h0 h1
  have h0 := HX.out.c0
  have h1 := HX.out.c1
  go_wp2_with fail
  refine (HIn.out wd).mono ?_
  rintro e we ⟨rfl, rfl⟩
  clear HIn
  go_wp2_with fail
  refine (HCn.out we HI.out).mono ?_
  rintro e wf ⟨g1, rfl, hg1, hr, hb⟩
  have HX2 := Lib.hid (HX.out.step hb)
  have HI2 := Lib.hid (HI.out.step hb)
  have HR := Lib.hid (row_res4 (Nat.zero_le _) hr).ins
  clear hb hr HX HI HCn h0 h1
  go_wp2_with fail
  refine (HBe.out _ _ _ _ wf HR.out).mono ?_
  rintro e w3 ⟨v, rfl, hrows, hb⟩
  have hl0 : 0 < ((bestR r).map (lstR (M + 1))).length := by
    rw [List.length_map]
    rcases Nat.lt_or_ge 0 (bestR r).length with h | h
    · exact h
    · have h2 := HM.out
      rw [List.getElem?_eq_none h] at h2
      cases h2
  have he0 : ((bestR r).map (lstR (M + 1)))[0] = lstR (M + 1) (planR r).first := by
    have h2 := HM.out
    have h3 : 0 < (bestR r).length := by rw [List.length_map] at hl0; exact hl0
    rw [List.getElem?_eq_getElem h3] at h2
    rw [List.getElem_map, Option.some.inj h2]
  obtain ⟨gb, cap, ge, ce, hve, hcell, hge, hOw⟩ := hrows.at_ hl0
  subst hve
  rw [he0, HSL.out] at hcell
  rw [he0] at hOw
  have HOw := Lib.hid (l1OwnS_any ge ce (lstR (M + 1) (planR r).first) w3 hOw (by have := lst_short (M + 1) (planR r).first; omega))
  rw [HSL.out] at HOw
  have HX := Lib.hid (HX2.out.step hb)
  have HI := Lib.hid (HI2.out.step hb)
  have hlI : (0 : Int) < ((((bestR r).map (lstR (M + 1))).length : Nat) : Int) := by omega
  clear hrows hb he0 hOw HX2 HI2 HR HBe
  generalize ((bestR r).map (lstR (M + 1))).length = nn at hlI hl0 ⊢
  generalize hs0 : lstR (M + 1) (planR r).first = s0 at HOw HSL HS0
  have HSe := Lib.hid hs0
  clear hs0
  have h0 := HX.out.c0
  have h1 := HX.out.c1
  go_wp2_with fail
  refine (HOw.out).mono ?_
  rintro e wz ⟨v4, rfl, hown, hb⟩
  obtain ⟨g, c5, rfl, hgl, hOw5⟩ := own_rowS hown HSL.out.symm (by omega)
  have HO := Lib.hid hOw5
  have HXz := Lib.hid (HX.out.step hb)
  have HIz := Lib.hid (HI.out.step hb)
  have HBz := Lib.hid HXz.out.below
  have hxh := HX.out.hi
  have hxl := HX.out.lo
  have hit := HI.out.top
  have hgz : w.heap.size ≤ g := by omega
  have hhi : hi ≤ g := by omega
  rw [HSL.out]
  clear hown hb hOw5 HX HI HOw hcell h0 h1
  have h0 := HXz.out.c0
  have h1 := HXz.out.c1
  go_wp2_with fail
  go_loopw [5, 7] (fun qv i wr => ∃ (k : Nat), k ≤ zs.length ∧ i = .int .i64 (k : Int) ∧ qv = .int .i64 (bqTo zs s0 k).2 ∧ Hid (Own wr g (g + 1) (some ⟨g, 0, none⟩) (bqTo zs s0 k).1) ∧ Hid (Within g (g + 1) wz wr)) (fun _ i _ => zs.length - (intOf i).toNat)
  case atStart => exact ⟨0, Nat.zero_le _, rfl, rfl, HO, Within.refl _ _ _⟩
  case round =>
    obtain ⟨k, hk, rfl, rfl, HP, HW⟩ := hrel
    clear HO
    rename World => w3
    have HX3 := Lib.hid (HXz.out.within HW.out (by omega))
    have h0 := HX3.out.c0
    have h1 := HX3.out.c1
    by_cases hlt : k < zs.length
    · obtain ⟨b, o, rfl, _, hb, hc⟩ := (HIz.out.within HW.out (by omega)).ints.at_ hlt
      have hgd := getD_at hlt
      have hat := HA.out k hlt
      have HL := Lib.hid (bq_len zs s0 k)
      have HD := Lib.hid (bq_bd zs HS0.out k)
      have hpw := pow_le k (by omega)
      by_cases hx : 0 ≤ zs[k]
      · obtain ⟨i, hi⟩ : ∃ i : Nat, zs[k] = (i : Int) := ⟨zs[k].toNat, by omega⟩
        have hiM : i < M + 1 := by omega
        have hcell := own_cell HP.out (k := i) (by rw [HL.out, HSL.out]; exact hiM)
        have hbd := getD_bd HD.out (by omega) i
        have hne : ¬ (i : Int) = -1 := by omega
        have HF : Hid (bqTo zs s0 (k + 1) = if 0 < (bqTo zs s0 k).1.getD i 0 then ((bqTo zs s0 k).1.set i ((bqTo zs s0 k).1.getD i 0 - 1), bits .or .i64 (bqTo zs s0 k).2 (2 ^ k)) else bqTo zs s0 k) := Lib.hid (by
          show (if _ then _ else _) = _
          rw [hgd, hi, Int.toNat_natCast]
          have : (0 : Int) ≤ (i : Int) := by omega
          simp only [this, true_and])
        rw [hi] at hc hat
        clear hx hi hgd
        have HO2 := Lib.hid (own_set HP.out (k := i) (by rw [HL.out, HSL.out]; exact hiM) ((bqTo zs s0 k).1.getD i 0 - 1))
        have HW2 := Lib.hid (within_set HW.out (g := g) (Nat.le_refl _) (by omega) i (.int .i64 ((bqTo zs s0 k).1.getD i 0 - 1)))
        have hfr := row_freeI (own_at HP.out).choose_spec.1 i
        clear HL HD
        by_cases hpos : 0 < (bqTo zs s0 k).1.getD i 0
        · rw [if_pos hpos] at HF
          generalize (bqTo zs s0 k).1.getD i 0 = z at hcell hbd HF HO2 HW2 hpos
          generalize (bqTo zs s0 k).2 = acc at HF ⊢
          go_wp2
          go_roundw
          case rel => exact ⟨k + 1, by omega, by go_num, by rw [HF.out], by rw [HF.out]; exact HO2.out, HW2.out⟩
          case measure => simp [intOf]; omega
        · rw [if_neg hpos] at HF
          generalize (bqTo zs s0 k).1.getD i 0 = z at hcell hbd HO2 HW2 hpos
          go_wp2
          go_roundw
          case rel => exact ⟨k + 1, by omega, by go_num, by rw [HF.out], by rw [HF.out]; exact HP.out, HW.out⟩
          case measure => simp [intOf]; omega
      · have HF : Hid (bqTo zs s0 (k + 1) = bqTo zs s0 k) := Lib.hid (by
          show (if _ then _ else _) = _
          rw [hgd, if_neg (fun h => hx h.1)])
        have hne : zs[k] = -1 := by omega
        rw [hne] at hc
        clear hgd hx hne HL HD
        go_wp2
        go_roundw
        case rel => exact ⟨k + 1, by omega, by go_num, by rw [HF.out], by rw [HF.out]; exact HP.out, HW.out⟩
        case measure => simp [intOf]; omega
    · obtain rfl : k = zs.length := by omega
      go_wp2
      refine bodyPost_ret (v := .tuple #[.int .i64 (bqTo zs s0 zs.length).2, .bool true]) (by simp [results, go_sem]) rfl ?_
      exact ⟨by rw [HSe.out], HBz.out.trans (HW.out.below hgz HBz.out.size)⟩
set_option maxRecDepth 100000 in
set_option maxHeartbeats 800000 in
/-- What BestQuestion answers. -/
theorem bestQuestion_both2 (zs : List Int) (m : Int) (h : zs.length ≤ 1048576) : ∃ (r0 : Int) (r1 : Bool), (r1 = true → ∃ M : Nat, m = (M : Int) ∧ isSt zs (M : Int) = true ∧ (2 ≤ (opens zs).length ∧ (opens zs).length ≤ 8) ∧ r0 = (bqTo zs (lstR (M + 1) (planR (rowL (cntTo zs (M + 1) zs.length))).first) zs.length).2) ∧
    (∀ (w : World) (B : Option Addr) (c lo hi : Nat), Ins w lo hi B zs → Calls Try.prog 6 #[.agg #[.slice B zs.length c, .int .i64 m]] w fun e w' => e = .returned (.tuple #[.int .i64 r0, .bool r1]) ∧ Below w.heap.size w w') ∧
    (∀ (w : World) (B : Option Addr) (c lo hi : Nat), Ins w lo hi B zs → Calls Try.prog 7 #[.agg #[.slice B zs.length c, .int .i64 m]] w fun e w' => e = .returned (.tuple #[.int .i64 r0, .bool r1]) ∧ Below w.heap.size w w') := by
  cases hst : isSt zs m with
  | true =>
    have hl := isSt_len hst
    obtain ⟨M, rfl⟩ : ∃ M : Nat, m = (M : Int) := ⟨m.toNat, by omega⟩
    by_cases hrg : 2 ≤ (opens zs).length ∧ (opens zs).length ≤ 8
    · exact ⟨_, true, fun _ => ⟨M, rfl, hst, hrg, rfl⟩, fun w B c lo hi hS => bestQuestion_impl B c lo hi zs M w hS hst hrg, fun w B c lo hi hS => bestQuestion_spec B c lo hi zs M w hS hst hrg⟩
    · refine ⟨0, false, (fun h => by cases h), fun w A c lo hi hS => ?_, fun w A c lo hi hS => ?_⟩
      · have HX0 := Lib.hid (Arg.next (Below.refl w.heap.size w) (.slice A zs.length c) (.int .i64 (M : Int)) 26 w.heap.size rfl)
        have HI0 := Lib.hid (hS.step HX0.out.below)
        have HC := Lib.hid (fun W h => countsOf_impl A c lo hi zs M W h hst)
        have HBS := Lib.hid (fun A1 c1 lo1 hi1 W h => bestSplit_impl A1 c1 lo1 hi1 (cntTo zs (M + 1) zs.length) W h (by rw [cntTo_len]; omega))
        unfold RowAns at HBS
        rw [asks_out hst hrg, if_neg (by simp)] at HBS
        rw [cntTo_len] at HBS
        have h0c := HX0.out.c0
        have h1c := HX0.out.c1
        clear hS hst hrg
        generalize cntTo zs (M + 1) zs.length = cs at HC HBS
        go_enter Try.func6, Try.ntmps6
        go_wp2_with fail
        generalize w.alloc (.cells #[.slice A zs.length c, .int .i64 (M : Int)] 26) = wa at HX0 HI0 h0c h1c ⊢
        refine (HC.out wa HI0.out).mono ?_
        rintro e wb ⟨g1, rfl, hg1, hr, hb⟩
        have HX := Lib.hid (HX0.out.step hb)
        have HR := Lib.hid (row_res4 (Nat.zero_le _) hr).ins
        clear hb hr HX0 HI0 HC h0c h1c
        have h0 := HX.out.c0
        have h1 := HX.out.c1
        go_wp2_with fail
        refine (HBS.out _ _ _ _ wb HR.out).mono ?_
        rintro e wz ⟨B, c2, rfl, hres, hb⟩
        have HXz := Lib.hid (HX.out.step hb)
        clear hres hb HX HR HBS h0 h1
        go_wp2
        go_ret2
        exact ⟨rfl, HXz.out.below⟩
      · have HX0 := Lib.hid (Arg.next (Below.refl w.heap.size w) (.slice A zs.length c) (.int .i64 (M : Int)) 26 w.heap.size rfl)
        have HI0 := Lib.hid (hS.step HX0.out.below)
        have HC := Lib.hid (fun W h => l2State_any A c lo hi zs (M : Int) W h (by omega))
        rw [hst] at HC
        have HOp := Lib.hid (fun W h => l2Open_any A c lo hi zs (M : Int) W h hl.2.1)
        have HIn := Lib.hid (fun W => l1In_any ((opens zs).length : Int) 2 8 W)
        have hin : inB ((opens zs).length : Int) 2 8 = false := by
          cases h : inB ((opens zs).length : Int) 2 8
          · rfl
          · have := inB_iff.1 h
            omega
        rw [hin] at HIn
        have h0c := HX0.out.c0
        have h1c := HX0.out.c1
        clear hS hst hin hrg
        go_enter Try.func7, Try.ntmps7
        go_wp2_with fail
        generalize w.alloc (.cells #[.slice A zs.length c, .int .i64 (M : Int)] 26) = wa at HX0 HI0 h0c h1c ⊢
        refine (HC.out wa HI0.out).mono ?_
        rintro e wb ⟨rfl, hb⟩
        have HX2 := Lib.hid (HX0.out.step hb)
        have HI2 := Lib.hid (HI0.out.step hb)
        clear hb HX0 HI0 HC h0c h1c
        have h0 := HX2.out.c0
        have h1 := HX2.out.c1
        go_wp2_with fail
        refine (HOp.out wb HI2.out).mono ?_
        rintro e wd ⟨v, rfl, ho, hb⟩
        obtain ⟨Ao, co, rfl, _, _⟩ := own_res ho rfl
        have HX := Lib.hid (HX2.out.step hb)
        clear ho hb HX2 HI2 HOp h0 h1
        go_wp2_with fail
        refine (HIn.out wd).mono ?_
        rintro e we ⟨rfl, rfl⟩
        clear HIn
        go_wp2
        go_ret2
        exact ⟨rfl, HX.out.below⟩
  | false =>
    refine ⟨0, false, (fun h => by cases h), fun w A c lo hi hS => ?_, fun w A c lo hi hS => ?_⟩
    · have HX0 := Lib.hid (Arg.next (Below.refl w.heap.size w) (.slice A zs.length c) (.int .i64 m) 26 w.heap.size rfl)
      have HI0 := Lib.hid (hS.step HX0.out.below)
      have HC := Lib.hid (fun W h' => countsOf_no A c lo hi zs m W h' h hst)
      have h0c := HX0.out.c0
      have h1c := HX0.out.c1
      clear hS hst
      go_enter Try.func6, Try.ntmps6
      go_wp2_with fail
      generalize w.alloc (.cells #[.slice A zs.length c, .int .i64 m] 26) = wa at HX0 HI0 h0c h1c ⊢
      refine (HC.out wa HI0.out).mono ?_
      rintro e wb ⟨B, c', rfl, hb⟩
      have HX := Lib.hid (HX0.out.step hb)
      clear hb HX0 HI0 HC h0c h1c
      go_wp2
      go_ret2
      exact ⟨rfl, HX.out.below⟩
    · have HX0 := Lib.hid (Arg.next (Below.refl w.heap.size w) (.slice A zs.length c) (.int .i64 m) 26 w.heap.size rfl)
      have HI0 := Lib.hid (hS.step HX0.out.below)
      have HC := Lib.hid (fun W h' => l2State_any A c lo hi zs m W h' h)
      rw [hst] at HC
      have h0c := HX0.out.c0
      have h1c := HX0.out.c1
      clear hS hst
      go_enter Try.func7, Try.ntmps7
      go_wp2_with fail
      generalize w.alloc (.cells #[.slice A zs.length c, .int .i64 m] 26) = wa at HX0 HI0 h0c h1c ⊢
      refine (HC.out wa HI0.out).mono ?_
      rintro e wb ⟨rfl, hb⟩
      have HX := Lib.hid (HX0.out.step hb)
      clear hb HX0 HI0 HC h0c h1c
      go_wp2
      go_ret2
      exact ⟨rfl, HX.out.below⟩
theorem bestQuestion_both (zs : List Int) (m : Int) (h : zs.length ≤ 1048576) : ∃ (r0 : Int) (r1 : Bool),
    (∀ (w : World) (B : Option Addr) (c lo hi : Nat), Ins w lo hi B zs → Calls Try.prog 6 #[.agg #[.slice B zs.length c, .int .i64 m]] w fun e w' => e = .returned (.tuple #[.int .i64 r0, .bool r1]) ∧ Below w.heap.size w w') ∧
    (∀ (w : World) (B : Option Addr) (c lo hi : Nat), Ins w lo hi B zs → Calls Try.prog 7 #[.agg #[.slice B zs.length c, .int .i64 m]] w fun e w' => e = .returned (.tuple #[.int .i64 r0, .bool r1]) ∧ Below w.heap.size w w') := by
  obtain ⟨r0, r1, _, h1, h2⟩ := bestQuestion_both2 zs m h
  exact ⟨r0, r1, h1, h2⟩
end Go.Proofs.Ythpnkeecpaflfaa
