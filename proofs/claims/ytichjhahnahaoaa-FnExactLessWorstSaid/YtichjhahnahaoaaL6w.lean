/- LessWorst: of the program. -/
import Derived.Test.YtichjhahnahaoaaL6m
import Derived.Deep.LoopGhost
namespace Go.Proofs.Ytichjhahnahaoaa
open Go.RowKit Go.ChangeShapes Go.WideShapes Go.Maps
set_option linter.unusedVariables false

/-- The answer that makes the plan ask longest. -/
def yesW (M : Nat) (s : List Int) : Bool := decide (needL M (cmpAft s M (planS M s).2 false) + 1 < needL M s)
def wSt (M : Nat) (zs : List Int) : Nat → List Int
  | 0 => zs
  | i + 1 => if doneL (wSt M zs i) then wSt M zs i else cmpAft (wSt M zs i) M (planS M (wSt M zs i)).2 (yesW M (wSt M zs i))
def wL (M : Nat) (zs : List Int) : Nat → List Bool
  | 0 => []
  | i + 1 => wL M zs i ++ (if doneL (wSt M zs i) then [] else [yesW M (wSt M zs i)])
theorem wSt_short {M : Nat} {zs : List Int} (h : Short M zs) : ∀ i, Short M (wSt M zs i) ∧ (wSt M zs i).length = zs.length
  | 0 => ⟨h, rfl⟩
  | i + 1 => by
    have ih := wSt_short h i
    rw [wSt]
    split
    · exact ih
    · exact ⟨ih.1.aft _ _, by rw [cmpAft_len]; exact ih.2⟩
theorem wSt_next {M : Nat} {zs : List Int} {i : Nat} (h : doneL (wSt M zs i) = false) : wSt M zs (i + 1) = cmpAft (wSt M zs i) M (planS M (wSt M zs i)).2 (yesW M (wSt M zs i)) := by
  rw [wSt, h]; rfl
theorem wL_next {M : Nat} {zs : List Int} {i : Nat} (h : doneL (wSt M zs i) = false) : wL M zs (i + 1) = wL M zs i ++ [yesW M (wSt M zs i)] := by
  rw [wL, h]; rfl
theorem plan_in {M : Nat} {s : List Int} (h : Short M s) (hd : doneL s = false) : lowN s < (planS M s).2 ∧ (planS M s).2 ≤ highN s ∧ 1 ≤ needL M s := by
  rcases done_iff h with ⟨h1, _⟩ | ⟨_, h1, _, h2, h3⟩
  · rw [hd] at h1; cases h1
  · exact ⟨h2, h3, h1⟩
theorem wSt_mass {M : Nat} {zs : List Int} (hs : Short M zs) {i : Nat} (h : doneL (wSt M zs i) = false) : massL M (wSt M zs (i + 1)) < massL M (wSt M zs i) := by
  have h1 := (wSt_short hs i).1
  have h2 := plan_in h1 h
  rw [wSt_next h]
  exact mass_lt h1 h2.1 h2.2.1 _
theorem mass_ten {M : Nat} {zs : List Int} (h : Short M zs) : massL M zs ≤ 10 := by
  have : allS6 (fun M zs => decide (massL M zs ≤ 10)) = true := by decide +kernel
  exact of_decide_eq_true (allS6_at this h)
theorem wL_stop {M : Nat} {zs : List Int} {i : Nat} (h : doneL (wSt M zs i) = true) : ∀ d, wSt M zs (i + d) = wSt M zs i ∧ wL M zs (i + d) = wL M zs i
  | 0 => ⟨rfl, rfl⟩
  | d + 1 => by
    obtain ⟨h1, h2⟩ := wL_stop h d
    rw [← Nat.add_assoc, wSt, wL, h1, h2, h]
    simp
theorem wL_end {M : Nat} {zs : List Int} {i : Nat} (h : doneL (wSt M zs i) = true) (hi : i ≤ 10) : wL M zs i = wL M zs 10 := by
  have := (wL_stop h (10 - i)).2
  rw [show i + (10 - i) = 10 by omega] at this
  exact this.symm
theorem wL_len (M : Nat) (zs : List Int) : ∀ i, (wL M zs i).length ≤ i
  | 0 => Nat.le_refl _
  | i + 1 => by
    have := wL_len M zs i
    rw [wL, List.length_append]
    split <;> simp <;> omega
theorem infoB6 : (Try.prog.info? 4).map (fun i => (i.zero, i.size, i.bytes)) = some (some (.bool false), 1, 1) := by kernel_rfl
/-- A row of another type is as it was. -/
theorem own_row_two6 {w w' : World} {B n b : Nat} {v x y : Value} {e T : TypeId} {xs : List Value} (h : w.ownsRow B e 1 v n xs) (t : Two w b x y T) (hne : e ≠ T) (hw : Within b (b + 1) w w') : w'.ownsRow B e 1 v n xs :=
  ⟨h.1, h.2.imp id fun ⟨g, cap, cur, a, b', hg, r⟩ => ⟨g, cap, cur, a, b', (hw.block g (row_ltI hg) (by
    have : g ≠ b := by
      rintro rfl
      have e2 := hg.symm.trans t.row
      injection e2 with e2
      injection e2 with _ e3
      exact hne e3
    omega)).trans hg, r⟩⟩
theorem grown_ne6 {w : World} {B n g : Nat} {v : Value} {e T : TypeId} {xs : List Value} {cs : Array Value} (h : w.ownsRow B e 1 v n xs) (t : w.heap[g]? = some (.cells cs T (0, 0))) (hne : e ≠ T) : some g ≠ v.ownBlock := by
  intro hk
  rcases h.2 with ⟨rfl, _⟩ | ⟨g', cap, cur, rfl, _, hg, _⟩
  · cases hk
  · have hk : g = g' := by injection hk
    subst hk
    have e2 := hg.symm.trans t
    injection e2 with e2
    injection e2 with _ e3
    exact hne e3
theorem grown_block6 {w w' : World} {B n g : Nat} {v : Value} {e T : TypeId} {xs : List Value} {cs : Array Value} {o : Obj} (h : w.ownsRow B e 1 v n xs) (t : w.heap[g]? = some (.cells cs T (0, 0))) (hne : e ≠ T) (hg : (w.alloc o).grownBy w' v.ownBlock) : w'.heap[g]? = w.heap[g]? :=
  (hg.block g (Nat.lt_of_lt_of_le (row_ltI t) (Nat.le_of_lt (by simp))) (grown_ne6 h t hne)).trans (((Below.refl _ w).alloc (Nat.le_refl _) o).block g (row_ltI t))
theorem grown_two6 {w w' : World} {B n b : Nat} {v x y : Value} {e T : TypeId} {xs : List Value} {o : Obj} (h : w.ownsRow B e 1 v n xs) (t : Two w b x y T) (hne : e ≠ T) (hg : (w.alloc o).grownBy w' v.ownBlock) : Two w' b x y T :=
  ⟨(grown_block6 h t.row hne hg).trans t.row⟩
theorem grown_own6 {w w' : World} {B n g : Nat} {v : Value} {e : TypeId} {xs : List Value} {o : Obj} {L : List Int} (h : w.ownsRow B e 1 v n xs) (t : Own w g (g + 1) (some ⟨g, 0, none⟩) L) (hne : e ≠ 3) (hg : (w.alloc o).grownBy w' v.ownBlock) : Own w' g (g + 1) (some ⟨g, 0, none⟩) L := by
  obtain ⟨cur, hr, _⟩ := own_at t
  exact own_same t (grown_block6 h hr hne hg)
theorem bool_snoc6 {w : World} {B n : Nat} {v : Value} {bs : List Bool} {y : Bool} (h : w.ownsRow B 4 1 v (n + 1) (bs.map Value.bool ++ [Value.bool y])) (hn : n = bs.length) : w.ownsRow B 4 1 v (bs ++ [y]).length ((bs ++ [y]).map Value.bool) := by
  subst hn
  simpa using h
theorem own_lp_ne {w : World} {g b : Nat} {L : List Int} {x y : Value} (h : Own w g (g + 1) (some ⟨g, 0, none⟩) L) (t : Two w b x y 71) : g ≠ b := by
  obtain ⟨cur, hr, _⟩ := own_at h
  rintro rfl
  have := hr.symm.trans t.row
  injection this with this
  injection this with _ h
  exact absurd h (by decide)
structure WR (w : World) (B n : Nat) (M : Nat) (zs : List Int) (i : Nat) (A : Option Addr) (c lo hi b6 : Nat) (v : Value) (wr : World) : Prop where
  pm : LPlanM wr B
  bx : Two wr n (.slice A zs.length c) (.int .i64 (M : Int)) 30
  si : Ins wr lo hi A (wSt M zs i)
  t6 : Two wr b6 (.int .i64 ((planS M (wSt M zs i)).1 : Int)) (.int .i64 ((planS M (wSt M zs i)).2 : Int)) 71
  row : wr.ownsRow (B + 1) 4 1 v (wL M zs i).length ((wL M zs i).map Value.bool)
  bl : Below w.heap.size w wr
theorem B0_any (w : World) (B : Nat) (h : B ≤ w.heap.size) : (w.alloc (.cells #[] 4)).ownsRow B 4 1 (.slice (some ⟨w.heap.size, 0, none⟩) 0 0) 0 [] :=
  World.ownsRow_lit w (e := 4) (size := 1) (base := B) #[] 0 h (by unfold maxLen; omega) rfl

set_option maxRecDepth 100000 in
set_option maxHeartbeats 16000000 in
theorem lessWorst_impl (A : Option Addr) (c lo hi : Nat) (zs : List Int) (M : Nat) (w : World) (hS : Ins w lo hi A zs) (hs : Short M zs) :
    Calls Try.prog 37 #[.agg #[.slice A zs.length c, .int .i64 (M : Int)]] w fun e w' => ∃ v, e = .returned (.tuple #[v, .bool true]) ∧ w'.ownsRow w.heap.size 4 1 v (wL M zs 10).length ((wL M zs 10).map Value.bool) ∧ Below w.heap.size w w' := by
  obtain ⟨i0, hi0, hz0, hz1, hz2⟩ := info_parts infoB6
  have hl5 := hs.len
  have HX := Lib.hid (Arg.next (Below.refl w.heap.size w) (.slice A zs.length c) (.int .i64 (M : Int)) 30 w.heap.size rfl)
  have HTw := Lib.hid (Two.new w (.slice A zs.length c) (.int .i64 (M : Int)) 30 w.heap.size rfl)
  have HI := Lib.hid (hS.step HX.out.below)
  have HH := Lib.hid (fun W h => isShort_any A c lo hi zs (M : Int) W h (by have := hs.len; omega))
  rw [shortB_iff.2 ⟨M, rfl, hs⟩] at HH
  have HSH := Lib.hid hs
  clear hS
  go_enter Try.func37, Try.ntmps37
  go_wp2_with fail
  generalize w.alloc (.cells #[.slice A zs.length c, .int .i64 (M : Int)] 30) = w0 at HX HI HTw ⊢
  refine (HH.out w0 HI.out).mono ?_
  rintro e w1 ⟨rfl, hb⟩
  replace HX := Lib.hid (HX.out.step hb)
  replace HI := Lib.hid (HI.out.step hb)
  replace HTw := Lib.hid (HTw.out.step hb)
  have hhi := HI.out.top
  have hn1 := HTw.out.lt
  have HB1 := Lib.hid HX.out.below
  have hbm := (Below.refl w1.heap.size w1).alloc (Nat.le_refl _) (.map #[] 0)
  have HPM := Lib.hid ((LPlanM.made w1).step ((Below.refl _ _).alloc (Nat.le_refl _) (.cells #[] 4)))
  have HRw := Lib.hid (B0_any (w1.alloc (.map #[] 0)) (w1.heap.size + 1) (by simp))
  have hsm : (w1.alloc (.map #[] 0)).heap.size = w1.heap.size + 1 := by simp
  rw [hsm] at HRw
  have hb2 := below_trans hbm ((Below.refl _ (w1.alloc (.map #[] 0))).alloc (Nat.le_refl _) (.cells #[] 4))
  replace HI := Lib.hid (HI.out.step hb2)
  replace HTw := Lib.hid (HTw.out.step hb2)
  replace HB1 := Lib.hid (below_trans HB1.out hb2)
  have x0 := HTw.out.c0
  have x1 := HTw.out.c1
  clear hb hbm hsm hb2 HX HH
  have hmk := makeLPlans
  go_wp2_with fail
  generalize (w1.alloc (.map #[] 0)).alloc (.cells #[] 4) = w2 at HI HTw HB1 HPM HRw x0 x1 ⊢
  generalize (Value.slice (some ⟨w1.heap.size + 1, 0, none⟩) 0 0) = v0 at HRw ⊢
  refine (planOf6_any M zs HSH.out A c lo hi w2 w1.heap.size HPM.out HI.out (.inl hhi)).mono ?_
  rintro e w3 ⟨rfl, hpm, hw⟩
  have hB2 := HPM.out.lt
  have hPM3 := hpm
  have hT3 := HTw.out.within hw (.inl hn1)
  have hI3 := HI.out.within hw (.inl hhi)
  have hR3 := ownsRow_within6 HRw.out hw (Nat.le_refl _)
  have hB3 := HB1.out.trans (hw.below (Nat.le_of_lt hn1) HB1.out.size)
  have hlt3 := hpm.lt
  have hba := (Below.refl w3.heap.size w3).alloc (Nat.le_refl _) (.cells #[.int .i64 ((planS M zs).1 : Int), .int .i64 ((planS M zs).2 : Int)] 71)
  have HW0 : Hid (WR w w1.heap.size w.heap.size M zs 0 A c lo hi w3.heap.size v0 (w3.alloc (.cells #[.int .i64 ((planS M zs).1 : Int), .int .i64 ((planS M zs).2 : Int)] 71))) := Lib.hid ⟨hPM3.step hba, hT3.step hba, hI3.step hba, Two.new w3 _ _ _ _ rfl, ownsRow_past6 hR3 (Past.of_below hba), below_trans hB3 hba⟩
  clear hpm hw hPM3 hT3 hI3 hR3 hB3 hba HPM HTw HI HRw HB1 x0 x1
  unfold lpV
  go_wp2_with fail
  generalize w3.alloc (.cells #[.int .i64 ((planS M zs).1 : Int), .int .i64 ((planS M zs).2 : Int)] 71) = w4 at HW0 ⊢
  have HM10 := mass_ten hs
  have hfd := field_lp
  go_loopg [5, 6] (massL M zs) (fun g v p6 wr => ∃ (i : Nat) (A' : Option Addr) (c' lo' hi' b6 : Nat), g = massL M (wSt M zs i) ∧ i + g ≤ 10 ∧ p6 = .pointer (some ⟨b6, 0, none⟩) ∧ w1.heap.size < b6 ∧ (hi' ≤ w1.heap.size ∨ w1.heap.size < lo') ∧ Hid (WR w w1.heap.size w.heap.size M zs i A' c' lo' hi' b6 v wr))
  case atStart => exact ⟨0, A, c, lo, hi, w3.heap.size, rfl, by omega, rfl, hlt3, .inl hhi, HW0⟩
  case round =>
    clear HW0
    obtain ⟨i, A', c', lo', hi', b6, hg, hi10, rfl, hb6, hd, HW⟩ := hrel
    rename World => w5
    have HSi := Lib.hid (wSt_short HSH.out i)
    obtain ⟨pa, pb, hpp⟩ : ∃ a b, planS M (wSt M zs i) = (a, b) := ⟨_, _, rfl⟩
    have HT6 : Hid (Two w5 b6 (.int .i64 (pa : Int)) (.int .i64 (pb : Int)) 71) := Lib.hid (by have := HW.out.t6; rw [hpp] at this; exact this)
    have q0 := HT6.out.c0
    have q1 := HT6.out.c1
    have HD : Hid ((decide ((pa : Int) = 0) && decide ((pb : Int) = 0)) = doneL (wSt M zs i)) := Lib.hid (by
      rcases done_iff HSi.out.1 with ⟨h, _, h2⟩ | ⟨h, h1, _, h3, h4⟩
      · rw [hpp] at h2
        injection h2 with h2 h3
        rw [h, h2, h3]; rfl
      · have := need_plan HSi.out.1
        rw [hpp] at this
        simp only at this
        rw [h, decide_eq_false (by omega)]; rfl)
    have heq := eq_lp (pa : Int) (pb : Int)
    simp only [HD.out] at heq
    have HPP := Lib.hid hpp
    clear hpp
    cases hdn : doneL (wSt M zs i) with
    | true =>
      have HE := Lib.hid (wL_end hdn (by omega))
      rw [hdn] at heq
      have hrow := HW.out.row
      rw [HE.out] at hrow
      have HRf := Lib.hid (own_base hrow (Nat.le_succ_of_le (Nat.le_of_lt hn1)))
      have HBf := Lib.hid HW.out.bl
      clear hrow hdn HD
      go_wp2
      go_ret2
      exact ⟨_, rfl, HRf.out, HBf.out⟩
    | false =>
      rw [hdn] at heq
      have hpi := plan_in HSi.out.1 hdn
      have hpa := need_plan HSi.out.1
      rw [HPP.out] at hpi hpa
      simp only at hpi hpa
      have hsp := span_bd HSi.out.1
      have HDN := Lib.hid hdn
      have HBL := fun W h => behindLess_any A' c' lo' hi' (wSt M zs i) M pb W h HSi.out.1 (by omega)
      rw [HSi.out.2] at HBL
      have HBL := Lib.hid HBL
      obtain ⟨oa, ob, hpo⟩ : ∃ a b, planS M (cmpAft (wSt M zs i) M pb false) = (a, b) := ⟨_, _, rfl⟩
      have hoa := need_plan (HSi.out.1.aft pb false)
      rw [hpo] at hoa
      simp only at hoa
      have HPo := fun gq cq W h1 h2 h3 => planOf6_any M (cmpAft (wSt M zs i) M pb false) (HSi.out.1.aft pb false) (some ⟨gq, 0, none⟩) cq gq (gq + 1) W w1.heap.size h1 h2 h3
      rw [cmpAft_len, HSi.out.2, hpo] at HPo
      unfold lpV at HPo
      have HPo := Lib.hid HPo
      have hob := needS_le (HSi.out.1.aft pb false)
      have hpb := needS_le HSi.out.1
      have hoa6 : oa ≤ 6 := by omega
      have hpa6 : 1 ≤ pa ∧ pa ≤ 6 := by omega
      have HMS := Lib.hid (wSt_mass HSH.out hdn)
      have HN1 := Lib.hid (wSt_next hdn)
      have HNL := Lib.hid (wL_next hdn)
      have HSn := Lib.hid (wSt_short HSH.out (i + 1))
      have HY : Hid (yesW M (wSt M zs i) = decide (oa + 1 < pa)) := Lib.hid (by
        unfold yesW
        rw [HPP.out]
        simp only
        rw [← hoa, ← hpa])
      rw [HPP.out, HY.out] at HN1
      rw [HY.out] at HNL
      have hwl := wL_len M zs i
      have HBX := Lib.hid HW.out.bx
      have HSI := Lib.hid HW.out.si
      have HRow := Lib.hid HW.out.row
      have HPM := Lib.hid HW.out.pm
      have HBl := Lib.hid HW.out.bl
      have x0 := HBX.out.c0
      have x1 := HBX.out.c1
      have hsz5 := HW.out.bl.size
      have hB5 := HW.out.pm.lt
      clear hpo hoa hob hpb hpi hpa hsp hdn HW HD
      go_wp2_with fail
      refine (HBL.out w5 HSI.out).mono ?_
      rintro e w6 ⟨g1, g2, rfl, hg1, hg2, ho1, ho2, hb⟩
      have HO1 := Lib.hid ho1
      have HO2 := Lib.hid ho2
      replace HBX := Lib.hid (HBX.out.step hb)
      replace HT6 := Lib.hid (HT6.out.step hb)
      replace HRow := Lib.hid (ownsRow_past6 HRow.out (Past.of_below hb))
      replace HPM := Lib.hid (HPM.out.step hb)
      replace HBl := Lib.hid (below_trans HBl.out hb)
      have hsz6 := hb.size
      clear ho1 ho2 hb HBL HSI x0 x1 q0 q1 heq
      have hb1 := (Below.refl w6.heap.size w6).alloc (Nat.le_refl _) (.cells #[.slice (some ⟨g1, 0, none⟩) zs.length zs.length, .int .i64 (M : Int)] 30)
      have H8 := Lib.hid (Two.new (w6.alloc (.cells #[.slice (some ⟨g1, 0, none⟩) zs.length zs.length, .int .i64 (M : Int)] 30)) (.slice (some ⟨g2, 0, none⟩) zs.length zs.length) (.int .i64 (M : Int)) 30 (w6.heap.size + 1) (by simp))
      have hb2 := (Below.refl _ (w6.alloc (.cells #[.slice (some ⟨g1, 0, none⟩) zs.length zs.length, .int .i64 (M : Int)] 30))).alloc (Nat.le_refl _) (.cells #[.slice (some ⟨g2, 0, none⟩) zs.length zs.length, .int .i64 (M : Int)] 30)
      have H7 := Lib.hid ((Two.new w6 (.slice (some ⟨g1, 0, none⟩) zs.length zs.length) (.int .i64 (M : Int)) 30 w6.heap.size rfl).step hb2)
      have hb3 := below_trans hb1 hb2
      replace HO1 := Lib.hid (own_same HO1.out (hb3.block _ (own_lt HO1.out)))
      replace HO2 := Lib.hid (own_same HO2.out (hb3.block _ (own_lt HO2.out)))
      replace HBX := Lib.hid (HBX.out.step hb3)
      replace HT6 := Lib.hid (HT6.out.step hb3)
      replace HRow := Lib.hid (ownsRow_past6 HRow.out (Past.of_below hb3))
      replace HPM := Lib.hid (HPM.out.step hb3)
      replace HBl := Lib.hid (below_trans HBl.out hb3)
      clear hb1 hb2 hb3
      go_wp2_with fail
      generalize (w6.alloc (.cells #[.slice (some ⟨g1, 0, none⟩) zs.length zs.length, .int .i64 (M : Int)] 30)).alloc (.cells #[.slice (some ⟨g2, 0, none⟩) zs.length zs.length, .int .i64 (M : Int)] 30) = w7 at H7 H8 HO1 HO2 HBX HT6 HRow HPM HBl ⊢
      have hgB1 : w1.heap.size < g1 := by omega
      have hgB2 : w1.heap.size < g2 := by omega
      have hB6 : w1.heap.size < w6.heap.size := by omega
      cases hy : decide (oa + 1 < pa) with
      | false =>
        rw [hy] at HN1 HNL
        have hcmp : ¬ (oa : Int) < (pa : Int) - 1 := by
          have := of_decide_eq_false hy
          omega
        have hdc : decide ((oa : Int) < (pa : Int) - 1) = false := by exact decide_eq_false hcmp
        have W1 : IntKind.i64.wrap ((pa : Int) - 1) = (pa : Int) - 1 := IntWalk.i64_in _ (by omega)
        have HPn := fun gq cq W h1 h2 h3 => planOf6_any M (wSt M zs (i + 1)) HSn.out.1 (some ⟨gq, 0, none⟩) cq gq (gq + 1) W w1.heap.size h1 h2 h3
        rw [HSn.out.2] at HPn
        unfold lpV at HPn
        have HPn := Lib.hid HPn
        clear hy
        go_region_held3 (fun w' => w'.cell? ⟨w6.heap.size, 0, none⟩ = some (.slice (some ⟨g1, 0, none⟩) zs.length zs.length) ∧ w'.cell? ⟨w6.heap.size, 1, none⟩ = some (.int .i64 (M : Int)) ∧ w'.cell? ⟨b6, 0, none⟩ = some (.int .i64 (pa : Int)))
          (first
           | exact ⟨(H7.out.step (Below.refl _ w7).drew).c0, (H7.out.step (Below.refl _ w7).drew).c1, (HT6.out.step (Below.refl _ w7).drew).c0⟩
           | exact ⟨(H7.out.within HZ1.out (.inr (by omega))).c0, (H7.out.within HZ1.out (.inr (by omega))).c1, (HT6.out.within HZ1.out (.inr (by omega))).c0⟩)
          ((go_at_call 63; refine (HPo.out g1 zs.length _ (HPM.out.step (Below.refl _ w7).drew) ((own_insB HO1.out).step (Below.refl _ w7).drew) (.inr hgB1)).mono ?_; rintro e w8 ⟨rfl, hpm8, hw8⟩; have HPM8 := Lib.hid hpm8; have HZ1 : Hid (Within w1.heap.size (w1.heap.size + 1) w7 w8) := Lib.hid ((Within.of_below (Below.refl _ w7).drew).trans hw8); clear hpm8 hw8))
        all_goals
          clear W1
          replace H7 := Lib.hid (H7.out.within HZ1.out (.inr (by omega)))
          replace H8 := Lib.hid (H8.out.within HZ1.out (.inr (by omega)))
          replace HT6 := Lib.hid (HT6.out.within HZ1.out (.inr (by omega)))
          replace HBX := Lib.hid (HBX.out.within HZ1.out (.inl hn1))
          replace HO1 := Lib.hid (own_same HO1.out (HZ1.out.block g1 (own_lt HO1.out) (.inr hgB1)))
          replace HO2 := Lib.hid (own_same HO2.out (HZ1.out.block g2 (own_lt HO2.out) (.inr hgB2)))
          replace HRow := Lib.hid (ownsRow_within6 HRow.out HZ1.out (Nat.le_refl _))
          replace HBl := Lib.hid (HBl.out.trans (HZ1.out.below (Nat.le_of_lt hn1) HBl.out.size))
          have hB8 := HPM8.out.lt
          have hs78 := HZ1.out.size
          have h78 := H8.out.lt
          have hown := HRow.out
          go_upto_region 10 with (at_builtin; refine wpList_append_own _ rfl (.tmp 40) (.tmp 42) 48 rfl (w1.heap.size + 1) 4 i0 (.bool false) 1 1 Try.underlying48 hi0 hz0 hz1 hz2 rfl (by decide) _ _ _ rfl (hown.alloc _) ⟨w8.heap.size, 0, none⟩ 1 1 [.bool false] rfl rfl (cell_one_new _ _ _) (by simp [Value.oneCell']) (by unfold maxLen; omega) (by omega) (by simp; omega) ?_; intro v' w9 hown' hgrow _)
          have HRow9 := Lib.hid (bool_snoc6 hown' rfl)
          have hpst := Past.grown hown hgrow
          replace H7 := Lib.hid (grown_two6 hown H7.out (by decide) hgrow)
          replace H8 := Lib.hid (grown_two6 hown H8.out (by decide) hgrow)
          replace HT6 := Lib.hid (grown_two6 hown HT6.out (by decide) hgrow)
          replace HBX := Lib.hid (grown_two6 hown HBX.out (by decide) hgrow)
          replace HO1 := Lib.hid (grown_own6 hown HO1.out (by decide) hgrow)
          replace HO2 := Lib.hid (grown_own6 hown HO2.out (by decide) hgrow)
          have HPM9 := Lib.hid (HPM8.out.heap (hpst.block _ hB8 (Nat.lt_succ_self _)))
          have hwlB : w.heap.size ≤ w1.heap.size + 1 := by omega
          replace HBl := Lib.hid (HBl.out.trans (hpst.below hwlB HBl.out.size))
          rw [← HNL.out] at HRow9
          clear hpst hown' hgrow hown HRow HPM8 HPo
          have y0 := H7.out.c0
          have y1 := H7.out.c1
          have x0 := HBX.out.c0
          have x1 := HBX.out.c1
          have x2 := HBX.out.f0
          have x3 := HBX.out.f1
          have h7l := H7.out.lt
          go_upto_region 11 with fail
          obtain ⟨hs1, hw1⟩ := stored2 HBX.out.row (.slice (some ⟨g1, 0, none⟩) zs.length zs.length) (.int .i64 (M : Int))
          replace HRow9 := Lib.hid (own_row_two6 HRow9.out HBX.out (by decide) hw1)
          replace HBX := Lib.hid (Two.mk hs1)
          replace H8 := Lib.hid (H8.out.within hw1 (.inr (by omega)))
          replace HT6 := Lib.hid (HT6.out.within hw1 (.inr (by omega)))
          replace HO1 := Lib.hid (own_same HO1.out (hw1.block g1 (own_lt HO1.out) (.inr (by omega))))
          replace HO2 := Lib.hid (own_same HO2.out (hw1.block g2 (own_lt HO2.out) (.inr (by omega))))
          replace HPM9 := Lib.hid (HPM9.out.within hw1 (.inr (by omega)))
          replace HBl := Lib.hid (HBl.out.trans (hw1.below (Nat.le_refl _) HBl.out.size))
          clear hs1 hw1 x0 x1 x2 x3
          clear y0 y1
          generalize ((w9.setCell ⟨w.heap.size, 0, none⟩ (.slice (some ⟨g1, 0, none⟩) zs.length zs.length)).setCell ⟨w.heap.size, 1, none⟩ (.int .i64 (M : Int))) = w10 at HRow9 HBX H8 HT6 HO1 HO2 HPM9 HBl ⊢
          have HOy : Hid (Own w10 g1 (g1 + 1) (some ⟨g1, 0, none⟩) (wSt M zs (i + 1))) := Lib.hid (by rw [HN1.out]; exact HO1.out)
          have y0 := HT6.out.c0
          have y1 := HT6.out.c1
          have h10l := HT6.out.lt
          have hB10 := HPM9.out.lt
          have hba := (Below.refl w10.heap.size w10).alloc (Nat.le_refl _) (.cells #[.int .i64 (pa : Int), .int .i64 (pb : Int)] 71)
          have HN6 := Lib.hid (Two.new w10 (.int .i64 (pa : Int)) (.int .i64 (pb : Int)) 71 w10.heap.size rfl)
          replace HRow9 := Lib.hid (ownsRow_past6 HRow9.out (Past.of_below hba))
          replace HBX := Lib.hid (HBX.out.step hba)
          replace HOy := Lib.hid (own_same HOy.out (hba.block _ (own_lt HOy.out)))
          replace HPM9 := Lib.hid (HPM9.out.step hba)
          replace HBl := Lib.hid (below_trans HBl.out hba)
          have x0 := HBX.out.c0
          have x1 := HBX.out.c1
          have hblk : w1.heap.size < w10.heap.size := by omega
          clear hba HO1 HO2 H7 H8
          go_wp2_with fail
          generalize w10.alloc (.cells #[.int .i64 (pa : Int), .int .i64 (pb : Int)] 71) = w12 at HRow9 HBX HOy HPM9 HBl HN6 x0 x1 ⊢
          refine (HPn.out g1 zs.length w12 HPM9.out (own_insB HOy.out) (.inr hgB1)).mono ?_
          rintro e w13 ⟨rfl, hpm13, hw13⟩
          replace HRow9 := Lib.hid (ownsRow_within6 HRow9.out hw13 (Nat.le_refl _))
          replace HBX := Lib.hid (HBX.out.within hw13 (.inl hn1))
          replace HOy := Lib.hid (own_same HOy.out (hw13.block g1 (own_lt HOy.out) (.inr (by omega))))
          replace HBl := Lib.hid (HBl.out.trans (hw13.below (Nat.le_of_lt hn1) HBl.out.size))
          replace HN6 := Lib.hid (HN6.out.within hw13 (.inr hblk))
          have hP13 := hpm13
          clear hpm13 hw13 x0 x1 HPM9 HPn
          have z0 := HN6.out.c0
          have z1 := HN6.out.c1
          have z2 := HN6.out.f0
          have z3 := HN6.out.f1
          obtain ⟨hs2, hw2⟩ := stored2 HN6.out.row (.int .i64 ((planS M (wSt M zs (i + 1))).1 : Int)) (.int .i64 ((planS M (wSt M zs (i + 1))).2 : Int))
          have hnW : w.heap.size < w10.heap.size := by omega
          have HWf : Hid (WR w w1.heap.size w.heap.size M zs (i + 1) (some ⟨g1, 0, none⟩) zs.length g1 (g1 + 1) w10.heap.size v' ((w13.setCell ⟨w10.heap.size, 0, none⟩ (.int .i64 ((planS M (wSt M zs (i + 1))).1 : Int))).setCell ⟨w10.heap.size, 1, none⟩ (.int .i64 ((planS M (wSt M zs (i + 1))).2 : Int)))) := Lib.hid ⟨hP13.within hw2 (.inl (by omega)), HBX.out.within hw2 (.inl hnW), own_insB (own_same HOy.out (hw2.block g1 (own_lt HOy.out) (by have := own_lp_ne HOy.out HN6.out; omega))), ⟨hs2⟩, own_row_two6 HRow9.out HN6.out (by decide) hw2, HBl.out.trans (hw2.below (Nat.le_of_lt hnW) HBl.out.size)⟩
          clear hs2 hw2 hP13 HBX HOy HRow9 HBl HN6 HN1 HNL HSn HY
          go_wp2
          go_roundg (massL M (wSt M zs (i + 1)))
          case measure => have := HMS.out; omega
          case rel => exact ⟨i + 1, _, _, _, _, w10.heap.size, rfl, by have := HMS.out; omega, rfl, by omega, .inr hgB1, HWf⟩
      | true =>
        rw [hy] at HN1 HNL
        have hcmp : (oa : Int) < (pa : Int) - 1 := by
          have := of_decide_eq_true hy
          omega
        have hdc : decide ((oa : Int) < (pa : Int) - 1) = true := by exact decide_eq_true hcmp
        have W1 : IntKind.i64.wrap ((pa : Int) - 1) = (pa : Int) - 1 := IntWalk.i64_in _ (by omega)
        have HPn := fun gq cq W h1 h2 h3 => planOf6_any M (wSt M zs (i + 1)) HSn.out.1 (some ⟨gq, 0, none⟩) cq gq (gq + 1) W w1.heap.size h1 h2 h3
        rw [HSn.out.2] at HPn
        unfold lpV at HPn
        have HPn := Lib.hid HPn
        clear hy
        go_region_held3 (fun w' => w'.cell? ⟨w6.heap.size, 0, none⟩ = some (.slice (some ⟨g1, 0, none⟩) zs.length zs.length) ∧ w'.cell? ⟨w6.heap.size, 1, none⟩ = some (.int .i64 (M : Int)) ∧ w'.cell? ⟨b6, 0, none⟩ = some (.int .i64 (pa : Int)))
          (first
           | exact ⟨(H7.out.step (Below.refl _ w7).drew).c0, (H7.out.step (Below.refl _ w7).drew).c1, (HT6.out.step (Below.refl _ w7).drew).c0⟩
           | exact ⟨(H7.out.within HZ1.out (.inr (by omega))).c0, (H7.out.within HZ1.out (.inr (by omega))).c1, (HT6.out.within HZ1.out (.inr (by omega))).c0⟩)
          ((go_at_call 63; refine (HPo.out g1 zs.length _ (HPM.out.step (Below.refl _ w7).drew) ((own_insB HO1.out).step (Below.refl _ w7).drew) (.inr hgB1)).mono ?_; rintro e w8 ⟨rfl, hpm8, hw8⟩; have HPM8 := Lib.hid hpm8; have HZ1 : Hid (Within w1.heap.size (w1.heap.size + 1) w7 w8) := Lib.hid ((Within.of_below (Below.refl _ w7).drew).trans hw8); clear hpm8 hw8))
        all_goals
          clear W1
          replace H7 := Lib.hid (H7.out.within HZ1.out (.inr (by omega)))
          replace H8 := Lib.hid (H8.out.within HZ1.out (.inr (by omega)))
          replace HT6 := Lib.hid (HT6.out.within HZ1.out (.inr (by omega)))
          replace HBX := Lib.hid (HBX.out.within HZ1.out (.inl hn1))
          replace HO1 := Lib.hid (own_same HO1.out (HZ1.out.block g1 (own_lt HO1.out) (.inr hgB1)))
          replace HO2 := Lib.hid (own_same HO2.out (HZ1.out.block g2 (own_lt HO2.out) (.inr hgB2)))
          replace HRow := Lib.hid (ownsRow_within6 HRow.out HZ1.out (Nat.le_refl _))
          replace HBl := Lib.hid (HBl.out.trans (HZ1.out.below (Nat.le_of_lt hn1) HBl.out.size))
          have hB8 := HPM8.out.lt
          have hs78 := HZ1.out.size
          have h78 := H8.out.lt
          have hown := HRow.out
          go_upto_region 10 with (at_builtin; refine wpList_append_own _ rfl (.tmp 40) (.tmp 42) 48 rfl (w1.heap.size + 1) 4 i0 (.bool false) 1 1 Try.underlying48 hi0 hz0 hz1 hz2 rfl (by decide) _ _ _ rfl (hown.alloc _) ⟨w8.heap.size, 0, none⟩ 1 1 [.bool true] rfl rfl (cell_one_new _ _ _) (by simp [Value.oneCell']) (by unfold maxLen; omega) (by omega) (by simp; omega) ?_; intro v' w9 hown' hgrow _)
          have HRow9 := Lib.hid (bool_snoc6 hown' rfl)
          have hpst := Past.grown hown hgrow
          replace H7 := Lib.hid (grown_two6 hown H7.out (by decide) hgrow)
          replace H8 := Lib.hid (grown_two6 hown H8.out (by decide) hgrow)
          replace HT6 := Lib.hid (grown_two6 hown HT6.out (by decide) hgrow)
          replace HBX := Lib.hid (grown_two6 hown HBX.out (by decide) hgrow)
          replace HO1 := Lib.hid (grown_own6 hown HO1.out (by decide) hgrow)
          replace HO2 := Lib.hid (grown_own6 hown HO2.out (by decide) hgrow)
          have HPM9 := Lib.hid (HPM8.out.heap (hpst.block _ hB8 (Nat.lt_succ_self _)))
          have hwlB : w.heap.size ≤ w1.heap.size + 1 := by omega
          replace HBl := Lib.hid (HBl.out.trans (hpst.below hwlB HBl.out.size))
          rw [← HNL.out] at HRow9
          clear hpst hown' hgrow hown HRow HPM8 HPo
          have y0 := H7.out.c0
          have y1 := H7.out.c1
          have x0 := HBX.out.c0
          have x1 := HBX.out.c1
          have x2 := HBX.out.f0
          have x3 := HBX.out.f1
          have h7l := H7.out.lt
          go_upto_region 11 with fail
          obtain ⟨hs1, hw1⟩ := stored2 HBX.out.row (.slice (some ⟨g1, 0, none⟩) zs.length zs.length) (.int .i64 (M : Int))
          replace HRow9 := Lib.hid (own_row_two6 HRow9.out HBX.out (by decide) hw1)
          replace HBX := Lib.hid (Two.mk hs1)
          replace H8 := Lib.hid (H8.out.within hw1 (.inr (by omega)))
          replace HT6 := Lib.hid (HT6.out.within hw1 (.inr (by omega)))
          replace HO1 := Lib.hid (own_same HO1.out (hw1.block g1 (own_lt HO1.out) (.inr (by omega))))
          replace HO2 := Lib.hid (own_same HO2.out (hw1.block g2 (own_lt HO2.out) (.inr (by omega))))
          replace HPM9 := Lib.hid (HPM9.out.within hw1 (.inr (by omega)))
          replace HBl := Lib.hid (HBl.out.trans (hw1.below (Nat.le_refl _) HBl.out.size))
          clear hs1 hw1 x0 x1 x2 x3
          clear y0 y1
          generalize ((w9.setCell ⟨w.heap.size, 0, none⟩ (.slice (some ⟨g1, 0, none⟩) zs.length zs.length)).setCell ⟨w.heap.size, 1, none⟩ (.int .i64 (M : Int))) = w10 at HRow9 HBX H8 HT6 HO1 HO2 HPM9 HBl ⊢
          have y0 := H8.out.c0
          have y1 := H8.out.c1
          have x0 := HBX.out.c0
          have x1 := HBX.out.c1
          have x2 := HBX.out.f0
          have x3 := HBX.out.f1
          go_upto_region 13 with fail
          obtain ⟨hs1, hw1⟩ := stored2 HBX.out.row (.slice (some ⟨g2, 0, none⟩) zs.length zs.length) (.int .i64 (M : Int))
          replace HRow9 := Lib.hid (own_row_two6 HRow9.out HBX.out (by decide) hw1)
          replace HBX := Lib.hid (Two.mk hs1)
          replace H8 := Lib.hid (H8.out.within hw1 (.inr (by omega)))
          replace HT6 := Lib.hid (HT6.out.within hw1 (.inr (by omega)))
          replace HO1 := Lib.hid (own_same HO1.out (hw1.block g1 (own_lt HO1.out) (.inr (by omega))))
          replace HO2 := Lib.hid (own_same HO2.out (hw1.block g2 (own_lt HO2.out) (.inr (by omega))))
          replace HPM9 := Lib.hid (HPM9.out.within hw1 (.inr (by omega)))
          replace HBl := Lib.hid (HBl.out.trans (hw1.below (Nat.le_refl _) HBl.out.size))
          clear hs1 hw1 x0 x1 x2 x3
          clear y0 y1
          generalize ((w10.setCell ⟨w.heap.size, 0, none⟩ (.slice (some ⟨g2, 0, none⟩) zs.length zs.length)).setCell ⟨w.heap.size, 1, none⟩ (.int .i64 (M : Int))) = w11 at HRow9 HBX H8 HT6 HO1 HO2 HPM9 HBl ⊢
          have HOy : Hid (Own w11 g2 (g2 + 1) (some ⟨g2, 0, none⟩) (wSt M zs (i + 1))) := Lib.hid (by rw [HN1.out]; exact HO2.out)
          have y0 := HT6.out.c0
          have y1 := HT6.out.c1
          have h10l := HT6.out.lt
          have hB10 := HPM9.out.lt
          have hba := (Below.refl w11.heap.size w11).alloc (Nat.le_refl _) (.cells #[.int .i64 (pa : Int), .int .i64 (pb : Int)] 71)
          have HN6 := Lib.hid (Two.new w11 (.int .i64 (pa : Int)) (.int .i64 (pb : Int)) 71 w11.heap.size rfl)
          replace HRow9 := Lib.hid (ownsRow_past6 HRow9.out (Past.of_below hba))
          replace HBX := Lib.hid (HBX.out.step hba)
          replace HOy := Lib.hid (own_same HOy.out (hba.block _ (own_lt HOy.out)))
          replace HPM9 := Lib.hid (HPM9.out.step hba)
          replace HBl := Lib.hid (below_trans HBl.out hba)
          have x0 := HBX.out.c0
          have x1 := HBX.out.c1
          have hblk : w1.heap.size < w11.heap.size := by omega
          clear hba HO1 HO2 H7 H8
          go_wp2_with fail
          generalize w11.alloc (.cells #[.int .i64 (pa : Int), .int .i64 (pb : Int)] 71) = w12 at HRow9 HBX HOy HPM9 HBl HN6 x0 x1 ⊢
          refine (HPn.out g2 zs.length w12 HPM9.out (own_insB HOy.out) (.inr hgB2)).mono ?_
          rintro e w13 ⟨rfl, hpm13, hw13⟩
          replace HRow9 := Lib.hid (ownsRow_within6 HRow9.out hw13 (Nat.le_refl _))
          replace HBX := Lib.hid (HBX.out.within hw13 (.inl hn1))
          replace HOy := Lib.hid (own_same HOy.out (hw13.block g2 (own_lt HOy.out) (.inr (by omega))))
          replace HBl := Lib.hid (HBl.out.trans (hw13.below (Nat.le_of_lt hn1) HBl.out.size))
          replace HN6 := Lib.hid (HN6.out.within hw13 (.inr hblk))
          have hP13 := hpm13
          clear hpm13 hw13 x0 x1 HPM9 HPn
          have z0 := HN6.out.c0
          have z1 := HN6.out.c1
          have z2 := HN6.out.f0
          have z3 := HN6.out.f1
          obtain ⟨hs2, hw2⟩ := stored2 HN6.out.row (.int .i64 ((planS M (wSt M zs (i + 1))).1 : Int)) (.int .i64 ((planS M (wSt M zs (i + 1))).2 : Int))
          have hnW : w.heap.size < w11.heap.size := by omega
          have HWf : Hid (WR w w1.heap.size w.heap.size M zs (i + 1) (some ⟨g2, 0, none⟩) zs.length g2 (g2 + 1) w11.heap.size v' ((w13.setCell ⟨w11.heap.size, 0, none⟩ (.int .i64 ((planS M (wSt M zs (i + 1))).1 : Int))).setCell ⟨w11.heap.size, 1, none⟩ (.int .i64 ((planS M (wSt M zs (i + 1))).2 : Int)))) := Lib.hid ⟨hP13.within hw2 (.inl (by omega)), HBX.out.within hw2 (.inl hnW), own_insB (own_same HOy.out (hw2.block g2 (own_lt HOy.out) (by have := own_lp_ne HOy.out HN6.out; omega))), ⟨hs2⟩, own_row_two6 HRow9.out HN6.out (by decide) hw2, HBl.out.trans (hw2.below (Nat.le_of_lt hnW) HBl.out.size)⟩
          clear hs2 hw2 hP13 HBX HOy HRow9 HBl HN6 HN1 HNL HSn HY
          go_wp2
          go_roundg (massL M (wSt M zs (i + 1)))
          case measure => have := HMS.out; omega
          case rel => exact ⟨i + 1, _, _, _, _, w11.heap.size, rfl, by have := HMS.out; omega, rfl, by omega, .inr hgB2, HWf⟩
end Go.Proofs.Ytichjhahnahaoaa
