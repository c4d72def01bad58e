/- raceFrom; IsChoice and ChoicesAt: both. -/
import Derived.Test.YtopgccficjkenaaL11P
import Derived.Test.YtopgccficjkenaaL11S
namespace Go.Proofs.Ytopgccficjkenaa
open Go.RowKit Go.ChangeShapes Go.WideShapes Go.Maps
set_option linter.unusedVariables false


set_option maxRecDepth 100000 in
set_option maxHeartbeats 8000000 in
theorem raceFrom_no (A : Option Addr) (c lo hi : Nat) (zs : List Int) (m : Int) (Q : Option Addr) (cq lo2 hi2 : Nat) (qs : List Int) (w : World) (hS : Ins w lo hi A zs) (hQ : Ins w lo2 hi2 Q qs) (hl : zs.length ≤ 1048576) (hn : qs.length ≤ 1048576) (hg : (beginB zs m && choB zs.length qs) = false) :
    Calls Try.prog 67 #[.agg #[.slice A zs.length c, .int .i64 m], .slice Q qs.length cq] w fun e w' => e = .returned (.tuple #[.agg #[.slice none 0 0, .map none], .bool false]) ∧ Below w.heap.size w w' := by
  have HT := Lib.hid (Two.new w (.slice A zs.length c) (.int .i64 m) 26 w.heap.size rfl)
  have HB := Lib.hid ((Below.refl w.heap.size w).alloc (Nat.le_refl _) (.cells #[.slice A zs.length c, .int .i64 m] 26))
  have HZ := Lib.hid (Two.new (w.alloc (.cells #[.slice A zs.length c, .int .i64 m] 26)) (.slice none 0 0) (.map none) 81 (w.heap.size + 1) (by simp))
  replace HT := Lib.hid (HT.out.step ((Below.refl _ _).alloc (Nat.le_refl _) (.cells #[.slice none 0 0, .map none] 81)))
  replace HB := Lib.hid (HB.out.alloc HB.out.size (.cells #[.slice none 0 0, .map none] 81))
  have HQ := Lib.hid (hQ.step HB.out)
  have HS := Lib.hid (hS.step HB.out)
  have HCb := Lib.hid (fun W h => canBegin_any A c lo hi zs m W h hl)
  have HAr := Lib.hid (fun W h => areChoices_any zs.length Q cq lo2 hi2 qs W h hn)
  have hlt := hS.top
  clear hS hQ
  cases hbg : beginB zs m
  · rw [hbg] at HCb hg
    clear hbg
    clear hg
    go_enter Try.func67, Try.ntmps67
    go_wp2_with fail
    generalize (w.alloc (.cells #[.slice A zs.length c, .int .i64 m] 26)).alloc (.cells #[.slice none 0 0, .map none] 81) = w0 at HT HZ HB HQ HS ⊢
    have t0 := HT.out.c0
    have t1 := HT.out.c1
    go_wp2_with fail
    with_reducible refine (HCb.out w0 HS.out).mono ?_
    rintro e w1 ⟨rfl, hb⟩
    replace HT := Lib.hid (HT.out.step hb)
    replace HZ := Lib.hid (HZ.out.step hb)
    replace HQ := Lib.hid (HQ.out.step hb)
    replace HB := Lib.hid (below_trans HB.out hb)
    clear hb t0 t1 HCb HS
    have t0 := HT.out.c0
    have t1 := HT.out.c1
    have z0 := HZ.out.c0
    have z1 := HZ.out.c1
    have zf0 := HZ.out.f0
    have zf1 := HZ.out.f1
    have hlz := HZ.out.lt
    go_wp2
    obtain ⟨hs, hw⟩ := stored2 HZ.out.row (.slice none 0 0) (.map none)
    generalize ((w1.setCell ⟨w.heap.size + 1, 0, none⟩ (.slice none 0 0)).setCell ⟨w.heap.size + 1, 1, none⟩ (.map none)) = wf at hs hw ⊢
    have e0 := two0 hs
    have e1 := two1 hs
    refine bodyPost_ret (v := .tuple #[.agg #[.slice none 0 0, .map none], .bool false]) (by simp [results, go_sem, e0, e1]) rfl ?_
    exact ⟨rfl, HB.out.trans (hw.below (by omega) HB.out.size)⟩
  · rw [hbg] at HCb hg
    clear hbg
    rw [Bool.true_and] at hg
    rw [hg] at HAr
    clear hg
    go_enter Try.func67, Try.ntmps67
    go_wp2_with fail
    generalize (w.alloc (.cells #[.slice A zs.length c, .int .i64 m] 26)).alloc (.cells #[.slice none 0 0, .map none] 81) = w0 at HT HZ HB HQ HS ⊢
    have t0 := HT.out.c0
    have t1 := HT.out.c1
    go_wp2_with fail
    with_reducible refine (HCb.out w0 HS.out).mono ?_
    rintro e w1 ⟨rfl, hb⟩
    replace HT := Lib.hid (HT.out.step hb)
    replace HZ := Lib.hid (HZ.out.step hb)
    replace HQ := Lib.hid (HQ.out.step hb)
    replace HB := Lib.hid (below_trans HB.out hb)
    clear hb t0 t1 HCb HS
    have t0 := HT.out.c0
    have t1 := HT.out.c1
    have z0 := HZ.out.c0
    have z1 := HZ.out.c1
    have zf0 := HZ.out.f0
    have zf1 := HZ.out.f1
    have hlz := HZ.out.lt
    go_wp2_with ((go_at_call 73; (with_reducible refine (HAr.out w1 HQ.out).mono ?_); rintro e wX ⟨rfl, hw⟩; have hw := hw.symm; subst hw))
    obtain ⟨hs, hw⟩ := stored2 HZ.out.row (.slice none 0 0) (.map none)
    generalize ((w1.setCell ⟨w.heap.size + 1, 0, none⟩ (.slice none 0 0)).setCell ⟨w.heap.size + 1, 1, none⟩ (.map none)) = wf at hs hw ⊢
    have e0 := two0 hs
    have e1 := two1 hs
    refine bodyPost_ret (v := .tuple #[.agg #[.slice none 0 0, .map none], .bool false]) (by simp [results, go_sem, e0, e1]) rfl ?_
    exact ⟨rfl, HB.out.trans (hw.below (by omega) HB.out.size)⟩
set_option maxRecDepth 100000 in
set_option maxHeartbeats 8000000 in
theorem raceFrom_yes (A : Option Addr) (c lo hi : Nat) (zs : List Int) (m : Int) (Q : Option Addr) (cq lo2 hi2 : Nat) (qs : List Int) (w : World) (hS : Ins w lo hi A zs) (hQ : Ins w lo2 hi2 Q qs) (hl : zs.length ≤ 1048576) (hn : qs.length ≤ 1048576) (hg : (beginB zs m && choB zs.length qs) = true) :
    Calls Try.prog 67 #[.agg #[.slice A zs.length c, .int .i64 m], .slice Q qs.length cq] w fun e w' => ∃ g, e = .returned (.tuple #[.agg #[.slice Q qs.length cq, .map (some g)], .bool true]) ∧ w.heap.size ≤ g ∧ OMapM w' g qs ∧ Below w.heap.size w w' := by
  have HT := Lib.hid (Two.new w (.slice A zs.length c) (.int .i64 m) 26 w.heap.size rfl)
  have HB := Lib.hid ((Below.refl w.heap.size w).alloc (Nat.le_refl _) (.cells #[.slice A zs.length c, .int .i64 m] 26))
  have HZ := Lib.hid (Two.new (w.alloc (.cells #[.slice A zs.length c, .int .i64 m] 26)) (.slice none 0 0) (.map none) 81 (w.heap.size + 1) (by simp))
  replace HT := Lib.hid (HT.out.step ((Below.refl _ _).alloc (Nat.le_refl _) (.cells #[.slice none 0 0, .map none] 81)))
  replace HB := Lib.hid (HB.out.alloc HB.out.size (.cells #[.slice none 0 0, .map none] 81))
  have HQ := Lib.hid (hQ.step HB.out)
  have HS := Lib.hid (hS.step HB.out)
  have HCb := Lib.hid (fun W h => canBegin_any A c lo hi zs m W h hl)
  have HAr := Lib.hid (fun W h => areChoices_any zs.length Q cq lo2 hi2 qs W h hn)
  have hlt := hS.top
  clear hS hQ
  rw [Bool.and_eq_true] at hg
  rw [hg.1] at HCb
  rw [hg.2] at HAr
  clear hg
  go_enter Try.func67, Try.ntmps67
  go_wp2_with fail
  generalize (w.alloc (.cells #[.slice A zs.length c, .int .i64 m] 26)).alloc (.cells #[.slice none 0 0, .map none] 81) = w0 at HT HZ HB HQ HS ⊢
  have t0 := HT.out.c0
  have t1 := HT.out.c1
  go_wp2_with fail
  with_reducible refine (HCb.out w0 HS.out).mono ?_
  rintro e w1 ⟨rfl, hb⟩
  replace HT := Lib.hid (HT.out.step hb)
  replace HZ := Lib.hid (HZ.out.step hb)
  replace HQ := Lib.hid (HQ.out.step hb)
  replace HB := Lib.hid (below_trans HB.out hb)
  clear hb t0 t1 HCb HS
  have t0 := HT.out.c0
  have t1 := HT.out.c1
  have z0 := HZ.out.c0
  have z1 := HZ.out.c1
  have zf0 := HZ.out.f0
  have zf1 := HZ.out.f1
  have hlz := HZ.out.lt
  have hmk := fun W => makeOuts W
  go_wp2_with ((go_at_call 73; (with_reducible refine (HAr.out w1 HQ.out).mono ?_); rintro e wX ⟨rfl, hw⟩; have hw := hw.symm; subst hw))
  have hsz1 := HB.out.size
  have hzl : w.heap.size + 1 < w1.heap.size := hlz
  obtain ⟨hs, hw⟩ := stored2 HZ.out.row (.slice Q qs.length cq) (.map (some w1.heap.size))
  have hse : ((w1.setCell ⟨w.heap.size + 1, 0, none⟩ (.slice Q qs.length cq)).setCell ⟨w.heap.size + 1, 1, none⟩ (.map (some w1.heap.size))).heap.size = w1.heap.size := by simp
  generalize ((w1.setCell ⟨w.heap.size + 1, 0, none⟩ (.slice Q qs.length cq)).setCell ⟨w.heap.size + 1, 1, none⟩ (.map (some w1.heap.size))) = w2 at hs hw hse ⊢
  have hm := OMapM.made w2 qs
  rw [hse] at hm
  have hbm := (Below.refl w2.heap.size w2).alloc (Nat.le_refl _) (.map #[] 0)
  have hbf := below_trans (HB.out.trans (hw.below (by omega) HB.out.size)) hbm
  have hs2 := (hbm.block _ (row_ltI hs)).trans hs
  clear hbm hse
  generalize w2.alloc (.map #[] 0) = wf at hs2 hm hbf ⊢
  have e0 := two0 hs2
  have e1 := two1 hs2
  refine bodyPost_ret (v := .tuple #[.agg #[.slice Q qs.length cq, .map (some w1.heap.size)], .bool true]) (by simp [results, go_sem, e0, e1]) rfl ?_
  exact ⟨w1.heap.size, rfl, hsz1, hm, hbf⟩

set_option maxRecDepth 100000 in
set_option maxHeartbeats 8000000 in
theorem isChoice_impl (A : Option Addr) (c lo hi : Nat) (zs : List Int) (m : Int) (Q : Option Addr) (cq lo2 hi2 : Nat) (qs : List Int) (w : World) (hS : Ins w lo hi A zs) (hQ : Ins w lo2 hi2 Q qs) (hl : zs.length ≤ 1048576) (hn : qs.length ≤ 1048576) :
    Calls Try.prog 30 #[.agg #[.slice A zs.length c, .int .i64 m], .slice Q qs.length cq] w fun e w' => e = .returned (.tuple #[.bool (isSt zs m && choB zs.length qs), .bool (isSt zs m)]) ∧ Below w.heap.size w w' := by
  have HT := Lib.hid (Two.new w (.slice A zs.length c) (.int .i64 m) 26 w.heap.size rfl)
  have HB := Lib.hid ((Below.refl w.heap.size w).alloc (Nat.le_refl _) (.cells #[.slice A zs.length c, .int .i64 m] 26))
  have HQ := Lib.hid (hQ.step HB.out)
  have HS := Lib.hid (hS.step HB.out)
  have HC := Lib.hid (fun W h => isState_impl A c lo hi zs m W h hl)
  have HA := Lib.hid (fun W h => areChoices_any zs.length Q cq lo2 hi2 qs W h hn)
  clear hS hQ
  cases hst : isSt zs m
  · rw [hst] at HC
    clear hst
    go_enter Try.func30, Try.ntmps30
    go_wp2_with fail
    generalize w.alloc (.cells #[.slice A zs.length c, .int .i64 m] 26) = w0 at HT HB HQ HS ⊢
    have t0 := HT.out.c0
    have t1 := HT.out.c1
    go_wp2_with fail
    with_reducible refine (HC.out w0 HS.out).mono ?_
    rintro e w1 ⟨rfl, hb⟩
    replace HT := Lib.hid (HT.out.step hb)
    replace HQ := Lib.hid (HQ.out.step hb)
    replace HB := Lib.hid (below_trans HB.out hb)
    clear hb t0 t1 HC HS
    have t0 := HT.out.c0
    have t1 := HT.out.c1
    go_wp2
    go_ret2
    exact ⟨by simp, HB.out⟩
  · rw [hst] at HC
    clear hst
    go_enter Try.func30, Try.ntmps30
    go_wp2_with fail
    generalize w.alloc (.cells #[.slice A zs.length c, .int .i64 m] 26) = w0 at HT HB HQ HS ⊢
    have t0 := HT.out.c0
    have t1 := HT.out.c1
    go_wp2_with fail
    with_reducible refine (HC.out w0 HS.out).mono ?_
    rintro e w1 ⟨rfl, hb⟩
    replace HT := Lib.hid (HT.out.step hb)
    replace HQ := Lib.hid (HQ.out.step hb)
    replace HB := Lib.hid (below_trans HB.out hb)
    clear hb t0 t1 HC HS
    have t0 := HT.out.c0
    have t1 := HT.out.c1
    go_wp2_with ((go_at_call 73; (with_reducible refine (HA.out w1 HQ.out).mono ?_); rintro e wX ⟨rfl, hw⟩; have hw := hw.symm; subst hw))
    go_ret2
    exact ⟨by simp, HB.out⟩
set_option maxRecDepth 100000 in
set_option maxHeartbeats 8000000 in
theorem isChoice_spec (A : Option Addr) (c lo hi : Nat) (zs : List Int) (m : Int) (Q : Option Addr) (cq lo2 hi2 : Nat) (qs : List Int) (w : World) (hS : Ins w lo hi A zs) (hQ : Ins w lo2 hi2 Q qs) (hl : zs.length ≤ 1048576) (hn : qs.length ≤ 1048576) :
    Calls Try.prog 31 #[.agg #[.slice A zs.length c, .int .i64 m], .slice Q qs.length cq] w fun e w' => e = .returned (.tuple #[.bool (isSt zs m && choB zs.length qs), .bool (isSt zs m)]) ∧ Below w.heap.size w w' := by
  have HT := Lib.hid (Two.new w (.slice A zs.length c) (.int .i64 m) 26 w.heap.size rfl)
  have HB := Lib.hid ((Below.refl w.heap.size w).alloc (Nat.le_refl _) (.cells #[.slice A zs.length c, .int .i64 m] 26))
  have HQ := Lib.hid (hQ.step HB.out)
  have HS := Lib.hid (hS.step HB.out)
  have HC := Lib.hid (fun W h => l2State_any A c lo hi zs m W h hl)
  have HA := Lib.hid (fun W h => l11Choice_any A c zs.length m Q cq lo2 hi2 qs W h hn)
  clear hS hQ
  cases hst : isSt zs m
  · rw [hst] at HC
    clear hst
    go_enter Try.func31, Try.ntmps31
    go_wp2_with fail
    generalize w.alloc (.cells #[.slice A zs.length c, .int .i64 m] 26) = w0 at HT HB HQ HS ⊢
    have t0 := HT.out.c0
    have t1 := HT.out.c1
    go_wp2_with fail
    with_reducible refine (HC.out w0 HS.out).mono ?_
    rintro e w1 ⟨rfl, hb⟩
    replace HT := Lib.hid (HT.out.step hb)
    replace HQ := Lib.hid (HQ.out.step hb)
    replace HB := Lib.hid (below_trans HB.out hb)
    clear hb t0 t1 HC HS
    have t0 := HT.out.c0
    have t1 := HT.out.c1
    go_wp2
    go_ret2
    exact ⟨by simp, HB.out⟩
  · rw [hst] at HC
    clear hst
    go_enter Try.func31, Try.ntmps31
    go_wp2_with fail
    generalize w.alloc (.cells #[.slice A zs.length c, .int .i64 m] 26) = w0 at HT HB HQ HS ⊢
    have t0 := HT.out.c0
    have t1 := HT.out.c1
    go_wp2_with fail
    with_reducible refine (HC.out w0 HS.out).mono ?_
    rintro e w1 ⟨rfl, hb⟩
    replace HT := Lib.hid (HT.out.step hb)
    replace HQ := Lib.hid (HQ.out.step hb)
    replace HB := Lib.hid (below_trans HB.out hb)
    clear hb t0 t1 HC HS
    have t0 := HT.out.c0
    have t1 := HT.out.c1
    go_wp2_with fail
    with_reducible refine (HA.out w1 HQ.out).mono ?_
    rintro e w2 ⟨rfl, hb⟩
    replace HB := Lib.hid (below_trans HB.out hb)
    clear hb
    go_wp2
    go_ret2
    exact ⟨by simp, HB.out⟩
theorem isChoice_both (zs : List Int) (m : Int) (h : zs.length ≤ 1048576) (qs : List Int) (h2 : qs.length ≤ 1048576) : ∃ (r0 : Bool) (r1 : Bool),
    (∀ (w : World) (B : Option Addr) (c lo hi : Nat) (B2 : Option Addr) (c2 lo2 hi2 : Nat), Ins w lo hi B zs → Ins w lo2 hi2 B2 qs → Calls Try.prog 30 #[.agg #[.slice B zs.length c, .int .i64 m], .slice B2 qs.length c2] w fun e w' => e = .returned (.tuple #[.bool r0, .bool r1]) ∧ Below w.heap.size w w') ∧
    (∀ (w : World) (B : Option Addr) (c lo hi : Nat) (B2 : Option Addr) (c2 lo2 hi2 : Nat), Ins w lo hi B zs → Ins w lo2 hi2 B2 qs → Calls Try.prog 31 #[.agg #[.slice B zs.length c, .int .i64 m], .slice B2 qs.length c2] w fun e w' => e = .returned (.tuple #[.bool r0, .bool r1]) ∧ Below w.heap.size w w') :=
  ⟨_, _, fun w B c lo hi B2 c2 lo2 hi2 hS hS2 => isChoice_impl B c lo hi zs m B2 c2 lo2 hi2 qs w hS hS2 h h2, fun w B c lo hi B2 c2 lo2 hi2 hS hS2 => isChoice_spec B c lo hi zs m B2 c2 lo2 hi2 qs w hS hS2 h h2⟩

set_option maxRecDepth 100000 in
set_option maxHeartbeats 8000000 in
theorem choicesAt_impl_no (A : Option Addr) (c lo hi : Nat) (zs : List Int) (m : Int) (Q : Option Addr) (cq lo2 hi2 : Nat) (qs : List Int) (w : World) (hS : Ins w lo hi A zs) (hQ : Ins w lo2 hi2 Q qs) (hl : zs.length ≤ 1048576) (hn : qs.length ≤ 1048576) (hg : (beginB zs m && choB zs.length qs) = false) :
    Calls Try.prog 22 #[.agg #[.slice A zs.length c, .int .i64 m], .slice Q qs.length cq] w fun e w' => ∃ B c', e = .returned (.tuple #[.slice B (([] : List Int)).length c', .bool false]) ∧ Res w' w.heap.size w'.heap.size B ([]) ∧ Below w.heap.size w w' := by
  have HT := Lib.hid (Two.new w (.slice A zs.length c) (.int .i64 m) 26 w.heap.size rfl)
  have HB := Lib.hid ((Below.refl w.heap.size w).alloc (Nat.le_refl _) (.cells #[.slice A zs.length c, .int .i64 m] 26))
  have HQ := Lib.hid (hQ.step HB.out)
  have HS := Lib.hid (hS.step HB.out)
  have hst := hS.top
  have HRF := Lib.hid (fun W h1 h2 => raceFrom_no A c lo hi zs m Q cq lo2 hi2 qs W h1 h2 hl hn hg)
  have HCH := Lib.hid (fun W h2 => choicesAt_any none 0 0 0 [] (.map none) A c lo hi zs m W ⟨Ints.nil, Nat.zero_le _⟩ h2 (by simp) (.inl rfl))
  have hnil : choL [] zs = [] := rfl
  rw [hnil] at HCH
  simp only [List.length_nil] at HCH
  clear hnil
  clear hS hQ hg
  go_enter Try.func22, Try.ntmps22
  go_wp2_with fail
  generalize w.alloc (.cells #[.slice A zs.length c, .int .i64 m] 26) = w0 at HT HB HQ HS ⊢
  have t0 := HT.out.c0
  have t1 := HT.out.c1
  go_wp2_with fail
  with_reducible refine (HRF.out w0 HS.out HQ.out).mono ?_
  rintro e w1 ⟨rfl, hb⟩
  replace HT := Lib.hid (HT.out.step hb)
  replace HQ := Lib.hid (HQ.out.step hb)
  replace HS := Lib.hid (HS.out.step hb)
  replace HB := Lib.hid (below_trans HB.out hb)
  clear hb t0 t1 HRF
  go_upto_region 2 with (fail)
  have HN := Lib.hid (Two.new w1 (.slice none 0 0) (.map none) 81 w1.heap.size rfl)
  have hb := (Below.refl w1.heap.size w1).alloc (Nat.le_refl _) (.cells #[.slice none 0 0, .map none] 81)
  replace HT := Lib.hid (HT.out.step hb)
  replace HQ := Lib.hid (HQ.out.step hb)
  replace HS := Lib.hid (HS.out.step hb)
  replace HB := Lib.hid (below_trans HB.out hb)
  clear hb
  generalize w1.alloc (.cells #[.slice none 0 0, .map none] 81) = w2 at HT HQ HS HB HN ⊢
  have t0 := HT.out.c0
  have t1 := HT.out.c1
  have n0 := HN.out.c0
  have n1 := HN.out.c1
  go_wp2_with fail
  with_reducible refine (HCH.out w2 HS.out).mono ?_
  rintro e w3 ⟨B, c', rfl, _, hr, hb⟩
  have hsz := HB.out.size
  have HX := Lib.hid (show Res w3 w.heap.size w3.heap.size B [] from ⟨hr.own.wide hsz (Nat.le_refl _), Nat.le_refl _⟩)
  replace HB := Lib.hid (below_trans HB.out hb)
  clear hb hr t0 t1 n0 n1
  go_wp2
  go_ret2
  first | exact ⟨_, _, rfl, HX.out, HB.out⟩ | exact ⟨_, ⟨_, rfl⟩, HX.out, HB.out⟩ | exact ⟨⟨_, rfl⟩, HX.out, HB.out⟩ | exact ⟨rfl, HX.out, HB.out⟩ | exact ⟨HX.out, HB.out⟩
set_option maxRecDepth 100000 in
set_option maxHeartbeats 8000000 in
theorem choicesAt_spec_no (A : Option Addr) (c lo hi : Nat) (zs : List Int) (m : Int) (Q : Option Addr) (cq lo2 hi2 : Nat) (qs : List Int) (w : World) (hS : Ins w lo hi A zs) (hQ : Ins w lo2 hi2 Q qs) (hl : zs.length ≤ 1048576) (hn : qs.length ≤ 1048576) (hg : (beginB zs m && choB zs.length qs) = false) :
    Calls Try.prog 23 #[.agg #[.slice A zs.length c, .int .i64 m], .slice Q qs.length cq] w fun e w' => ∃ B c', e = .returned (.tuple #[.slice B (([] : List Int)).length c', .bool false]) ∧ Res w' w.heap.size w'.heap.size B ([]) ∧ Below w.heap.size w w' := by
  have HT := Lib.hid (Two.new w (.slice A zs.length c) (.int .i64 m) 26 w.heap.size rfl)
  have HB := Lib.hid ((Below.refl w.heap.size w).alloc (Nat.le_refl _) (.cells #[.slice A zs.length c, .int .i64 m] 26))
  have HQ := Lib.hid (hQ.step HB.out)
  have HS := Lib.hid (hS.step HB.out)
  have hst := hS.top
  have HG := Lib.hid (fun W h1 h2 => l11Good_any A c lo hi zs m Q cq lo2 hi2 qs W h1 h2 hl hn)
  rw [hg] at HG
  clear hS hQ hg
  go_enter Try.func23, Try.ntmps23
  go_wp2_with fail
  generalize w.alloc (.cells #[.slice A zs.length c, .int .i64 m] 26) = w0 at HT HB HQ HS ⊢
  have t0 := HT.out.c0
  have t1 := HT.out.c1
  go_wp2_with fail
  with_reducible refine (HG.out w0 HS.out HQ.out).mono ?_
  rintro e w1 ⟨rfl, hb⟩
  replace HT := Lib.hid (HT.out.step hb)
  replace HQ := Lib.hid (HQ.out.step hb)
  replace HS := Lib.hid (HS.out.step hb)
  replace HB := Lib.hid (below_trans HB.out hb)
  clear hb t0 t1 HG
  have hsz := HB.out.size
  have HX := Lib.hid (empty_res w1 w.heap.size hsz)
  replace HB := Lib.hid (HB.out.alloc hsz (.cells #[] 3))
  go_wp2
  go_ret2
  first | exact ⟨_, _, rfl, HX.out, HB.out⟩ | exact ⟨_, ⟨_, rfl⟩, HX.out, HB.out⟩ | exact ⟨⟨_, rfl⟩, HX.out, HB.out⟩ | exact ⟨rfl, HX.out, HB.out⟩ | exact ⟨HX.out, HB.out⟩
set_option maxRecDepth 100000 in
set_option maxHeartbeats 8000000 in
theorem choicesAt_impl_yes (A : Option Addr) (c lo hi : Nat) (zs : List Int) (m : Int) (Q : Option Addr) (cq lo2 hi2 : Nat) (qs : List Int) (w : World) (hS : Ins w lo hi A zs) (hQ : Ins w lo2 hi2 Q qs) (hl : zs.length ≤ 1048576) (hn : qs.length ≤ 1048576) (hg : (beginB zs m && choB zs.length qs) = true) :
    Calls Try.prog 22 #[.agg #[.slice A zs.length c, .int .i64 m], .slice Q qs.length cq] w fun e w' => ∃ B c', e = .returned (.tuple #[.slice B (choL qs zs).length c', .bool true]) ∧ Res w' w.heap.size w'.heap.size B (choL qs zs) ∧ Below w.heap.size w w' := by
  have HT := Lib.hid (Two.new w (.slice A zs.length c) (.int .i64 m) 26 w.heap.size rfl)
  have HB := Lib.hid ((Below.refl w.heap.size w).alloc (Nat.le_refl _) (.cells #[.slice A zs.length c, .int .i64 m] 26))
  have HQ := Lib.hid (hQ.step HB.out)
  have HS := Lib.hid (hS.step HB.out)
  have hst := hS.top
  have HRF := Lib.hid (fun W h1 h2 => raceFrom_yes A c lo hi zs m Q cq lo2 hi2 qs W h1 h2 hl hn hg)
  have HCH := Lib.hid (fun g W h1 h2 => choicesAt_any Q cq lo2 hi2 qs (.map (some g)) A c lo hi zs m W h1 h2 hn (.inr ⟨by rw [Bool.and_eq_true] at hg; obtain ⟨M, rfl, hs, _⟩ := begin_short hg.1; exact hs.valid, by rw [Bool.and_eq_true] at hg; exact choB_ok hg.2⟩))
  clear hS hQ hg
  go_enter Try.func22, Try.ntmps22
  go_wp2_with fail
  generalize w.alloc (.cells #[.slice A zs.length c, .int .i64 m] 26) = w0 at HT HB HQ HS ⊢
  have t0 := HT.out.c0
  have t1 := HT.out.c1
  go_wp2_with fail
  with_reducible refine (HRF.out w0 HS.out HQ.out).mono ?_
  rintro e w1 ⟨g, rfl, hg, hm, hb⟩
  replace HT := Lib.hid (HT.out.step hb)
  replace HQ := Lib.hid (HQ.out.step hb)
  replace HS := Lib.hid (HS.out.step hb)
  replace HB := Lib.hid (below_trans HB.out hb)
  clear hb t0 t1 HRF
  go_upto_region 2 with (fail)
  have HN := Lib.hid (Two.new w1 (.slice Q qs.length cq) (.map (some g)) 81 w1.heap.size rfl)
  have hb := (Below.refl w1.heap.size w1).alloc (Nat.le_refl _) (.cells #[.slice Q qs.length cq, .map (some g)] 81)
  replace HT := Lib.hid (HT.out.step hb)
  replace HQ := Lib.hid (HQ.out.step hb)
  replace HS := Lib.hid (HS.out.step hb)
  replace HB := Lib.hid (below_trans HB.out hb)
  clear hb
  generalize w1.alloc (.cells #[.slice Q qs.length cq, .map (some g)] 81) = w2 at HT HQ HS HB HN ⊢
  have t0 := HT.out.c0
  have t1 := HT.out.c1
  have n0 := HN.out.c0
  have n1 := HN.out.c1
  go_wp2_with fail
  with_reducible refine (HCH.out g w2 HQ.out HS.out).mono ?_
  rintro e w3 ⟨B, c', rfl, _, hr, hb⟩
  have hsz := HB.out.size
  have HX := Lib.hid (show Res w3 w.heap.size w3.heap.size B (choL qs zs) from ⟨hr.own.wide hsz (Nat.le_refl _), Nat.le_refl _⟩)
  replace HB := Lib.hid (below_trans HB.out hb)
  clear hb hr t0 t1 n0 n1
  go_wp2
  go_ret2
  first | exact ⟨_, _, rfl, HX.out, HB.out⟩ | exact ⟨_, ⟨_, rfl⟩, HX.out, HB.out⟩ | exact ⟨⟨_, rfl⟩, HX.out, HB.out⟩ | exact ⟨rfl, HX.out, HB.out⟩ | exact ⟨HX.out, HB.out⟩
set_option maxRecDepth 100000 in
set_option maxHeartbeats 8000000 in
theorem choicesAt_spec_yes (A : Option Addr) (c lo hi : Nat) (zs : List Int) (m : Int) (Q : Option Addr) (cq lo2 hi2 : Nat) (qs : List Int) (w : World) (hS : Ins w lo hi A zs) (hQ : Ins w lo2 hi2 Q qs) (hl : zs.length ≤ 1048576) (hn : qs.length ≤ 1048576) (hg : (beginB zs m && choB zs.length qs) = true) :
    Calls Try.prog 23 #[.agg #[.slice A zs.length c, .int .i64 m], .slice Q qs.length cq] w fun e w' => ∃ B c', e = .returned (.tuple #[.slice B (choL qs zs).length c', .bool true]) ∧ Res w' w.heap.size w'.heap.size B (choL qs zs) ∧ Below w.heap.size w w' := by
  have HT := Lib.hid (Two.new w (.slice A zs.length c) (.int .i64 m) 26 w.heap.size rfl)
  have HB := Lib.hid ((Below.refl w.heap.size w).alloc (Nat.le_refl _) (.cells #[.slice A zs.length c, .int .i64 m] 26))
  have HQ := Lib.hid (hQ.step HB.out)
  have HS := Lib.hid (hS.step HB.out)
  have hst := hS.top
  have HG := Lib.hid (fun W h1 h2 => l11Good_any A c lo hi zs m Q cq lo2 hi2 qs W h1 h2 hl hn)
  rw [hg] at HG
  have HCH := Lib.hid (fun W h1 h2 => l11Choices_any A c lo hi zs m Q cq lo2 hi2 qs W h1 h2 hn (by rw [Bool.and_eq_true] at hg; obtain ⟨M, rfl, hs, _⟩ := begin_short hg.1; have := hs.len; omega))
  clear hS hQ hg
  go_enter Try.func23, Try.ntmps23
  go_wp2_with fail
  generalize w.alloc (.cells #[.slice A zs.length c, .int .i64 m] 26) = w0 at HT HB HQ HS ⊢
  have t0 := HT.out.c0
  have t1 := HT.out.c1
  go_wp2_with fail
  with_reducible refine (HG.out w0 HS.out HQ.out).mono ?_
  rintro e w1 ⟨rfl, hb⟩
  replace HT := Lib.hid (HT.out.step hb)
  replace HQ := Lib.hid (HQ.out.step hb)
  replace HS := Lib.hid (HS.out.step hb)
  replace HB := Lib.hid (below_trans HB.out hb)
  clear hb t0 t1 HG
  have t0 := HT.out.c0
  have t1 := HT.out.c1
  go_wp2_with fail
  with_reducible refine (HCH.out w1 HS.out HQ.out).mono ?_
  rintro e w3 ⟨B, c', rfl, _, hr, hb⟩
  have hsz := HB.out.size
  have HX := Lib.hid (show Res w3 w.heap.size w3.heap.size B (choL qs zs) from ⟨hr.own.wide hsz (Nat.le_refl _), Nat.le_refl _⟩)
  replace HB := Lib.hid (below_trans HB.out hb)
  clear hb hr t0 t1
  go_wp2
  go_ret2
  first | exact ⟨_, _, rfl, HX.out, HB.out⟩ | exact ⟨_, ⟨_, rfl⟩, HX.out, HB.out⟩ | exact ⟨⟨_, rfl⟩, HX.out, HB.out⟩ | exact ⟨rfl, HX.out, HB.out⟩ | exact ⟨HX.out, HB.out⟩
theorem choicesAt_both (zs : List Int) (m : Int) (h : zs.length ≤ 1048576) (qs : List Int) (h2 : qs.length ≤ 1048576) : ∃ (r0 : List Int) (r1 : Bool), r0.length ≤ 1048576 ∧
    (∀ (w : World) (B : Option Addr) (c lo hi : Nat) (B2 : Option Addr) (c2 lo2 hi2 : Nat), Ins w lo hi B zs → Ins w lo2 hi2 B2 qs → Calls Try.prog 22 #[.agg #[.slice B zs.length c, .int .i64 m], .slice B2 qs.length c2] w fun e w' => ∃ B c', e = .returned (.tuple #[.slice B r0.length c', .bool r1]) ∧ Res w' w.heap.size w'.heap.size B r0 ∧ Below w.heap.size w w') ∧
    (∀ (w : World) (B : Option Addr) (c lo hi : Nat) (B2 : Option Addr) (c2 lo2 hi2 : Nat), Ins w lo hi B zs → Ins w lo2 hi2 B2 qs → Calls Try.prog 23 #[.agg #[.slice B zs.length c, .int .i64 m], .slice B2 qs.length c2] w fun e w' => ∃ B c', e = .returned (.tuple #[.slice B r0.length c', .bool r1]) ∧ Res w' w.heap.size w'.heap.size B r0 ∧ Below w.heap.size w w') := by
  cases hg : (beginB zs m && choB zs.length qs) with
  | false => exact ⟨[], false, by simp, fun w B c lo hi B2 c2 lo2 hi2 hS hS2 => choicesAt_impl_no B c lo hi zs m B2 c2 lo2 hi2 qs w hS hS2 h h2 hg, fun w B c lo hi B2 c2 lo2 hi2 hS hS2 => choicesAt_spec_no B c lo hi zs m B2 c2 lo2 hi2 qs w hS hS2 h h2 hg⟩
  | true => exact ⟨choL qs zs, true, Nat.le_trans (List.length_filter_le _ _) h2, fun w B c lo hi B2 c2 lo2 hi2 hS hS2 => choicesAt_impl_yes B c lo hi zs m B2 c2 lo2 hi2 qs w hS hS2 h h2 hg, fun w B c lo hi B2 c2 lo2 hi2 hS hS2 => choicesAt_spec_yes B c lo hi zs m B2 c2 lo2 hi2 qs w hS hS2 h h2 hg⟩

end Go.Proofs.Ytopgccficjkenaa
