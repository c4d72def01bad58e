/- OneWayNeed, OneWayPaths, OneWaySplit, SavedOneWay: both. -/
import Derived.Test.YtdkffkgoalgjmaaL10Z
namespace Go.Proofs.Ytdkffkgoalgjmaa
open Go.RowKit Go.ChangeShapes Go.WideShapes Go.Maps
set_option linter.unusedVariables false

theorem planLO_need (zs : List Int) : ((planLO zs).need : Int) = if cOK zs then ((needO (rowL zs) : Nat) : Int) else 0 := by
  cases h : cOK zs with
  | false => rw [planLO_no h]; rfl
  | true =>
    obtain ⟨r, hr, hw, h8⟩ := cOK_row h
    rw [planLO_yes (p := 0) h hr hw, planO_need h8, rowL_eq hr hw]
    rfl
theorem planLO_few (zs : List Int) : ((planLO zs).few : Int) = if cOK zs then ((fewO (rowL zs) : Nat) : Int) else 0 := by
  cases h : cOK zs with
  | false => rw [planLO_no h]; rfl
  | true =>
    obtain ⟨r, hr, hw, h8⟩ := cOK_row h
    rw [planLO_yes (p := 0) h hr hw, planO_few h8, rowL_eq hr hw]
    rfl
set_option maxRecDepth 100000 in
set_option maxHeartbeats 4000000 in
theorem oneWayNeed_spec (A : Option Addr) (c lo hi : Nat) (zs : List Int) (w : World) (hS : Ins w lo hi A zs) (hn : zs.length ≤ 1048576) :
    Calls Try.prog 37 #[.slice A zs.length c] w fun e w' => e = .returned (.tuple #[.int .i64 (if cOK zs then ((needO (rowL zs) : Nat) : Int) else 0), .bool (cOK zs)]) ∧ Below w.heap.size w w' := by
  have HC := Lib.hid (fun W h => l4Counts_any A c lo hi zs W h hn)
  have HS := Lib.hid hS
  clear hS
  cases hok : cOK zs with
  | false =>
    rw [hok] at HC
    go_enter Try.func37, Try.ntmps37
    go_wp2_with fail
    refine (HC.out w HS.out).mono ?_
    rintro e w1 ⟨rfl, rfl⟩
    go_wp2
    go_ret2
    exact ⟨rfl, Below.refl _ _⟩
  | true =>
    rw [hok] at HC
    obtain ⟨r, hr, hw, h8⟩ := cOK_row hok
    rw [if_pos rfl, rowL_eq hr hw]
    have hp := hw.le
    generalize zs.length = p at *
    have HNs := Lib.hid (fun W => l10Needs_any p W hp)
    have HK := Lib.hid (fun W h => l4Key_any A c lo hi p r W h hw h8)
    rw [← hr] at HK
    have hkl := key_lt hw h8
    have HFA := Lib.hid (foundO_all h8)
    have HFL := Lib.hid (foundL_lenO p 10)
    clear hok hr
    generalize keyR r = ky at HK hkl HFA
    have hkyI : (ky : Int) < ((9 ^ p : Nat) : Int) := by omega
    go_enter Try.func37, Try.ntmps37
    go_wp2_with fail
    refine (HC.out w HS.out).mono ?_
    rintro e w1 ⟨rfl, rfl⟩
    clear HC
    go_wp2_with fail
    refine (HNs.out w1).mono ?_
    rintro e w2 ⟨g, cg, rfl, hg, ho, hb⟩
    have HB := Lib.hid hb
    have HS2 := Lib.hid (HS.out.step hb)
    have hcell := own_cell ho (k := ky) (by rw [HFL.out]; exact hkl)
    rw [show (foundLO p 10).getD ky 0 = ((needO r : Nat) : Int) from by rw [← HFA.out]; simp [foundLO, List.getD, hkl]] at hcell
    clear hb ho HNs
    go_wp2_with fail
    refine (HK.out w2 HS2.out).mono ?_
    rintro e w3 ⟨rfl, rfl⟩
    go_wp2
    go_ret2
    exact ⟨rfl, HB.out⟩
theorem oneWayNeed_both (zs : List Int) (h : zs.length ≤ 1048576) : ∃ (r0 : Int) (r1 : Bool),
    (∀ (w : World) (B : Option Addr) (c lo hi : Nat), Ins w lo hi B zs → Calls Try.prog 38 #[.slice B zs.length c] w fun e w' => e = .returned (.tuple #[.int .i64 r0, .bool r1]) ∧ Below w.heap.size w w') ∧
    (∀ (w : World) (B : Option Addr) (c lo hi : Nat), Ins w lo hi B zs → Calls Try.prog 37 #[.slice B zs.length c] w fun e w' => e = .returned (.tuple #[.int .i64 r0, .bool r1]) ∧ Below w.heap.size w w') := by
  refine ⟨_, _, fun w B c lo hi hS => ?_, fun w B c lo hi hS => oneWayNeed_spec B c lo hi zs w hS h⟩
  rw [← planLO_need]
  exact oneWayNeed_impl B c lo hi zs w hS h
set_option maxRecDepth 100000 in
set_option maxHeartbeats 4000000 in
theorem oneWayPaths_spec (A : Option Addr) (c lo hi : Nat) (zs : List Int) (w : World) (hS : Ins w lo hi A zs) (hn : zs.length ≤ 1048576) :
    Calls Try.prog 45 #[.slice A zs.length c] w fun e w' => e = .returned (.tuple #[.int .i64 (if cOK zs then ((fewO (rowL zs) : Nat) : Int) else 0), .int .i64 (if cOK zs then ((needO (rowL zs) : Nat) : Int) else 0), .bool (cOK zs)]) ∧ Below w.heap.size w w' := by
  have HC := Lib.hid (fun W h => l4Counts_any A c lo hi zs W h hn)
  have HS := Lib.hid hS
  clear hS
  cases hok : cOK zs with
  | false =>
    rw [hok] at HC
    go_enter Try.func45, Try.ntmps45
    go_wp2_with fail
    refine (HC.out w HS.out).mono ?_
    rintro e w1 ⟨rfl, rfl⟩
    go_wp2
    go_ret3
    exact ⟨rfl, Below.refl _ _⟩
  | true =>
    rw [hok] at HC
    obtain ⟨r, hr, hw, h8⟩ := cOK_row hok
    rw [if_pos rfl, if_pos rfl, rowL_eq hr hw]
    have hp := hw.le
    generalize zs.length = p at *
    have HNs := Lib.hid (fun W => l10Needs_any p W hp)
    have HPt := Lib.hid (fun g c2 W h h2 => pathsLess (massR r + 1) p r (Nat.lt_succ_self _) hw h8 A c lo hi (some ⟨g, 0, none⟩) c2 g (g + 1) W h h2)
    rw [← hr] at HPt
    clear hok hr
    generalize fewO r = fw at HPt ⊢
    generalize needO r = nd at HPt ⊢
    go_enter Try.func45, Try.ntmps45
    go_wp2_with fail
    refine (HC.out w HS.out).mono ?_
    rintro e w1 ⟨rfl, rfl⟩
    clear HC
    go_wp2_with fail
    refine (HNs.out w1).mono ?_
    rintro e w2 ⟨g, cg, rfl, hg, ho, hb⟩
    have HB := Lib.hid hb
    have HS2 := Lib.hid (HS.out.step hb)
    have HO := Lib.hid (own_insO ho)
    clear hb ho HNs
    go_wp2_with fail
    refine (HPt.out g cg w2 HS2.out HO.out).mono ?_
    rintro e w3 ⟨rfl, hb⟩
    have HB3 := Lib.hid (below_trans HB.out hb)
    clear hb
    go_wp2
    go_ret3
    exact ⟨rfl, HB3.out⟩
theorem oneWayPaths_both (zs : List Int) (h : zs.length ≤ 1048576) : ∃ (r0 r1 : Int) (r2 : Bool),
    (∀ (w : World) (B : Option Addr) (c lo hi : Nat), Ins w lo hi B zs → Calls Try.prog 46 #[.slice B zs.length c] w fun e w' => e = .returned (.tuple #[.int .i64 r0, .int .i64 r1, .bool r2]) ∧ Below w.heap.size w w') ∧
    (∀ (w : World) (B : Option Addr) (c lo hi : Nat), Ins w lo hi B zs → Calls Try.prog 45 #[.slice B zs.length c] w fun e w' => e = .returned (.tuple #[.int .i64 r0, .int .i64 r1, .bool r2]) ∧ Below w.heap.size w w') := by
  refine ⟨_, _, _, fun w B c lo hi hS => ?_, fun w B c lo hi hS => oneWayPaths_spec B c lo hi zs w hS h⟩
  rw [← planLO_need, ← planLO_few]
  exact oneWayPaths_impl B c lo hi zs w hS h
set_option maxRecDepth 100000 in
set_option maxHeartbeats 4000000 in
theorem oneWaySplit_spec_no (A : Option Addr) (c lo hi : Nat) (zs : List Int) (w : World) (hS : Ins w lo hi A zs) (hn : zs.length ≤ 1048576) (h : askO zs = false) :
    Calls Try.prog 39 #[.slice A zs.length c] w fun e w' => ∃ B c', e = .returned (.tuple #[.slice B 0 c', .bool false]) ∧ Res w' w.heap.size w'.heap.size B [] ∧ Below w.heap.size w w' := by
  have HC := Lib.hid (fun W h => l4Counts_any A c lo hi zs W h hn)
  have HS := Lib.hid hS
  clear hS
  cases hok : cOK zs with
  | false =>
    rw [hok] at HC
    go_enter Try.func39, Try.ntmps39
    go_wp2_with fail
    refine (HC.out w HS.out).mono ?_
    rintro e w1 ⟨rfl, rfl⟩
    go_wp2
    all_goals
      go_ret2
      exact ⟨_, 0, rfl, empty_res w1 w1.heap.size (Nat.le_refl _), (Below.refl _ _).alloc (Nat.le_refl _) _⟩
  | true =>
    rw [hok] at HC
    obtain ⟨r, hr, hw, h8⟩ := cOK_row hok
    have hT : rsum r ≤ 1 := by
      unfold askO at h
      rw [hok, rowL_eq hr hw] at h
      simpa using h
    have HTd := Lib.hid (fun W h => l4Told_any A c lo hi zs.length r W h hw (fun i => comp_le h8 i))
    rw [← hr, decide_eq_true hT] at HTd
    clear hok hr h hw
    go_enter Try.func39, Try.ntmps39
    go_wp2_with fail
    refine (HC.out w HS.out).mono ?_
    rintro e w1 ⟨rfl, rfl⟩
    go_wp2_with fail
    refine (HTd.out w1 HS.out).mono ?_
    rintro e w2 ⟨rfl, rfl⟩
    go_wp2
    all_goals
      go_ret2
      exact ⟨_, 0, rfl, empty_res w2 w2.heap.size (Nat.le_refl _), (Below.refl _ _).alloc (Nat.le_refl _) _⟩
set_option maxRecDepth 100000 in
set_option maxHeartbeats 4000000 in
theorem oneWaySplit_spec_yes (A : Option Addr) (c lo hi : Nat) (zs : List Int) (w : World) (hS : Ins w lo hi A zs) (hn : zs.length ≤ 1048576) (h : askO zs = true) :
    Calls Try.prog 39 #[.slice A zs.length c] w fun e w' => ∃ B c', e = .returned (.tuple #[.slice B zs.length c', .bool true]) ∧ Res w' w.heap.size w'.heap.size B (lstR zs.length (planLO zs).first) ∧ Below w.heap.size w w' := by
  have HC := Lib.hid (fun W h => l4Counts_any A c lo hi zs W h hn)
  have hok : cOK zs = true := by unfold askO at h; rw [Bool.and_eq_true] at h; exact h.1
  rw [hok] at HC
  obtain ⟨r, hr, hw, h8, h1, hpl⟩ := askO_row h
  rw [hpl]
  have HS := Lib.hid hS
  have hp := hw.le
  have hp9 := pow9 hp
  have hzl := lstR_len hw
  generalize zs.length = p at *
  have HTd := Lib.hid (fun W h => l4Told_any A c lo hi p r W h hw (fun i => comp_le h8 i))
  rw [← hr, decide_eq_false (by omega)] at HTd
  have HNs := Lib.hid (fun W => l10Needs_any p W hp)
  have HK := Lib.hid (fun W h => l4Key_any A c lo hi p r W h hw h8)
  have HBe := Lib.hid (fun g c2 W h h2 => l10First_any A c lo hi (some ⟨g, 0, none⟩) c2 g (g + 1) p r W h h2 hw h8 h1)
  rw [← hr] at HK HBe
  have HCell := Lib.hid (fun (W : World) (g : Nat) (h : Own W g (g + 1) (some ⟨g, 0, none⟩) (foundLO p 10)) => foundO_cell (own_insO h) hw h8)
  have hkl := key_lt hw h8
  have HFs : Hid ((lstR p (planO r).first).length = p) := Lib.hid (lst_len hp _)
  clear hok h hS hr hpl
  generalize keyR r = ky at HK hkl HCell
  generalize needO r = nd at HBe HCell
  generalize lstR p (planO r).first = L at HBe HFs ⊢
  generalize 9 ^ p = top at hkl hp9 HBe HNs
  have hkI : (ky : Int) < (top : Int) := by omega
  go_enter Try.func39, Try.ntmps39
  go_wp2_with fail
  refine (HC.out w HS.out).mono ?_
  rintro e w1 ⟨rfl, rfl⟩
  go_wp2_with fail
  refine (HTd.out w1 HS.out).mono ?_
  rintro e w2 ⟨rfl, rfl⟩
  clear HC HTd
  go_wp2_with fail
  refine (HNs.out w2).mono ?_
  rintro e w3 ⟨g, cg, rfl, hg, ho, hb⟩
  obtain ⟨b, o, e1, hbl, hcell⟩ := HCell.out w3 g ho
  injection e1 with e1
  injection e1 with e1 e2
  subst e1 e2
  rw [Nat.zero_add] at hcell
  have HB := Lib.hid hb
  have HS3 := Lib.hid (HS.out.step hb)
  have HO := Lib.hid (own_insO ho)
  clear hb ho HNs HCell
  go_wp2_with fail
  refine (HK.out w3 HS3.out).mono ?_
  rintro e w4 ⟨rfl, rfl⟩
  go_wp2_with fail
  refine (HBe.out g cg w4 HS3.out HO.out).mono ?_
  rintro e w5 ⟨gs, cs, rfl, hgs, hos, hb⟩
  have HB5 := Lib.hid (below_trans HB.out hb)
  have HOw := Lib.hid (l1OwnS_any gs cs L w5 hos (by have := HFs.out; omega))
  rw [HFs.out] at HOw
  clear hb hos HBe HK hcell
  go_wp2_with fail
  refine (HOw.out).mono ?_
  rintro e w6 ⟨v6, rfl, hown, hb⟩
  obtain ⟨g6, c6, rfl, hB6, hOw6⟩ := own_rowS hown HFs.out.symm (by omega)
  have hs5 := HB5.out.size
  have HO6 := Lib.hid hOw6
  have HB6 := Lib.hid (below_trans HB5.out hb)
  clear hown hb hOw6
  rw [HFs.out]
  go_wp2
  all_goals
    go_ret2
    exact ⟨_, c6, rfl, ⟨HO6.out.wide (by omega) (own_lt HO6.out), Nat.le_refl _⟩, HB6.out⟩
theorem oneWaySplit_both (zs : List Int) (h : zs.length ≤ 1048576) : ∃ (r0 : List Int) (r1 : Bool), r0.length ≤ 1048576 ∧
    (∀ (w : World) (B : Option Addr) (c lo hi : Nat), Ins w lo hi B zs → Calls Try.prog 40 #[.slice B zs.length c] w fun e w' => ∃ B c', e = .returned (.tuple #[.slice B r0.length c', .bool r1]) ∧ Res w' w.heap.size w'.heap.size B r0 ∧ Below w.heap.size w w') ∧
    (∀ (w : World) (B : Option Addr) (c lo hi : Nat), Ins w lo hi B zs → Calls Try.prog 39 #[.slice B zs.length c] w fun e w' => ∃ B c', e = .returned (.tuple #[.slice B r0.length c', .bool r1]) ∧ Res w' w.heap.size w'.heap.size B r0 ∧ Below w.heap.size w w') := by
  cases ha : askO zs with
  | false => exact ⟨[], false, by simp, fun w B c lo hi hS => oneWaySplit_impl_no B c lo hi zs w hS h ha, fun w B c lo hi hS => oneWaySplit_spec_no B c lo hi zs w hS h ha⟩
  | true =>
    obtain ⟨r, hr, hw, _, _, _⟩ := askO_row ha
    have hl : (lstR zs.length (planLO zs).first).length = zs.length := lst_len hw.le _
    refine ⟨lstR zs.length (planLO zs).first, true, by rw [hl]; exact h, fun w B c lo hi hS => ?_, fun w B c lo hi hS => ?_⟩
    · rw [hl]; exact oneWaySplit_impl_yes B c lo hi zs w hS h ha
    · rw [hl]; exact oneWaySplit_spec_yes B c lo hi zs w hS h ha
set_option maxRecDepth 100000 in
set_option maxHeartbeats 4000000 in
theorem savedOneWay_impl (A : Option Addr) (c lo hi : Nat) (zs : List Int) (w : World) (hS : Ins w lo hi A zs) (hn : zs.length ≤ 1048576) :
    Calls Try.prog 44 #[.slice A zs.length c] w fun e w' => e = .returned (.tuple #[.int .i64 ((if cOK zs then ((needR (rowL zs) : Nat) : Int) else 0) - (if cOK zs then ((needO (rowL zs) : Nat) : Int) else 0)), .bool (cOK zs)]) ∧ Below w.heap.size w w' := by
  have H1 := Lib.hid (fun W h => needOf_impl A c lo hi zs W h hn)
  have H2 := fun W h => oneWayNeed_impl A c lo hi zs W h hn
  simp only [planLO_need] at H2
  have H2 := Lib.hid H2
  have HS := Lib.hid hS
  have b1 : (0 : Int) ≤ (if cOK zs then ((needR (rowL zs) : Nat) : Int) else 0) ∧ (if cOK zs then ((needR (rowL zs) : Nat) : Int) else 0) ≤ 20 := by
    cases hok : cOK zs with
    | false => simp
    | true =>
      obtain ⟨r, hr, hw, h8⟩ := cOK_row hok
      rw [rowL_eq hr hw]
      have := need_le h8
      simp only [if_true]
      omega
  have b2 : (0 : Int) ≤ (if cOK zs then ((needO (rowL zs) : Nat) : Int) else 0) ∧ (if cOK zs then ((needO (rowL zs) : Nat) : Int) else 0) ≤ 20 := by
    cases hok : cOK zs with
    | false => simp
    | true =>
      obtain ⟨r, hr, hw, h8⟩ := cOK_row hok
      rw [rowL_eq hr hw]
      have := needO_le h8
      simp only [if_true]
      omega
  clear hS
  generalize (if cOK zs then ((needR (rowL zs) : Nat) : Int) else 0) = x at H1 b1 ⊢
  generalize (if cOK zs then ((needO (rowL zs) : Nat) : Int) else 0) = y at H2 b2 ⊢
  generalize cOK zs = b at H1 H2 ⊢
  go_enter Try.func44, Try.ntmps44
  go_wp2_with fail
  refine (H1.out w HS.out).mono ?_
  rintro e w1 ⟨rfl, hb⟩
  have HB := Lib.hid hb
  have HS1 := Lib.hid (HS.out.step hb)
  clear hb
  go_wp2_with fail
  refine (H2.out w1 HS1.out).mono ?_
  rintro e w2 ⟨rfl, hb⟩
  have HB2 := Lib.hid (below_trans HB.out hb)
  clear hb
  go_wp2
  go_ret2
  exact ⟨rfl, HB2.out⟩
set_option maxRecDepth 100000 in
set_option maxHeartbeats 4000000 in
theorem savedOneWay_spec (A : Option Addr) (c lo hi : Nat) (zs : List Int) (w : World) (hS : Ins w lo hi A zs) (hn : zs.length ≤ 1048576) :
    Calls Try.prog 43 #[.slice A zs.length c] w fun e w' => e = .returned (.tuple #[.int .i64 ((if cOK zs then ((needR (rowL zs) : Nat) : Int) else 0) - (if cOK zs then ((needO (rowL zs) : Nat) : Int) else 0)), .bool (cOK zs)]) ∧ Below w.heap.size w w' := by
  have HC := Lib.hid (fun W h => l4Counts_any A c lo hi zs W h hn)
  have HS := Lib.hid hS
  clear hS
  cases hok : cOK zs with
  | false =>
    rw [hok] at HC
    go_enter Try.func43, Try.ntmps43
    go_wp2_with fail
    refine (HC.out w HS.out).mono ?_
    rintro e w1 ⟨rfl, rfl⟩
    go_wp2
    go_ret2
    exact ⟨rfl, Below.refl _ _⟩
  | true =>
    rw [hok] at HC
    obtain ⟨r, hr, hw, h8⟩ := cOK_row hok
    rw [if_pos rfl, if_pos rfl, rowL_eq hr hw]
    have hp := hw.le
    have hp9 := pow9 hp
    generalize zs.length = p at *
    have HN4 := Lib.hid (fun W => l4Needs_any p W hp)
    have HN0 := Lib.hid (fun W => l10Needs_any p W hp)
    have HK := Lib.hid (fun W h => l4Key_any A c lo hi p r W h hw h8)
    rw [← hr] at HK
    have hkl := key_lt hw h8
    have HC4 : Hid (∀ (W : World) (g : Nat), Own W g (g + 1) (some ⟨g, 0, none⟩) (foundL p 10) → W.cell? ⟨g, keyR r, none⟩ = some (.int .i64 ((needR r : Nat) : Int))) := Lib.hid (fun W g ho => by
      have hcell := own_cell ho (k := keyR r) (by rw [foundL_len]; exact hkl)
      rw [show (foundL p 10).getD (keyR r) 0 = ((needR r : Nat) : Int) from by rw [← found_all h8]; simp [foundL, List.getD, hkl]] at hcell
      exact hcell)
    have HC0 : Hid (∀ (W : World) (g : Nat), Own W g (g + 1) (some ⟨g, 0, none⟩) (foundLO p 10) → W.cell? ⟨g, keyR r, none⟩ = some (.int .i64 ((needO r : Nat) : Int))) := Lib.hid (fun W g ho => by
      obtain ⟨b, o, e1, hbl, hcell⟩ := foundO_cell (own_insO ho) hw h8
      injection e1 with e1
      injection e1 with e1 e2
      subst e1 e2
      rw [Nat.zero_add] at hcell
      exact hcell)
    have b1 := need_le h8
    have b2 := needO_le h8
    clear hok hr hw h8
    generalize keyR r = ky at HK hkl HC4 HC0
    generalize needR r = n4 at HC4 b1 ⊢
    generalize needO r = n0 at HC0 b2 ⊢
    generalize 9 ^ p = top at hkl hp9 HN4 HN0
    have hkI : (ky : Int) < (top : Int) := by omega
    go_enter Try.func43, Try.ntmps43
    go_wp2_with fail
    refine (HC.out w HS.out).mono ?_
    rintro e w1 ⟨rfl, rfl⟩
    clear HC
    go_wp2_with fail
    refine (HK.out w1 HS.out).mono ?_
    rintro e w2 ⟨rfl, rfl⟩
    clear HK
    go_wp2_with fail
    go_region_with (first
      | (go_at_call 71; refine (HN0.out _).mono ?_; rintro e w5 ⟨g5, c5, rfl, hg5, ho5, hb5⟩; have hc5 := HC0.out _ _ ho5; have hc35 := (hb5.cell (p := ⟨g3, ky, none⟩) hg3l).trans hc3; have HB5 := Lib.hid (below_trans HB3.out hb5); clear ho5 hb5)
      | (go_at_call 80; refine (HN4.out _).mono ?_; rintro e w3 ⟨g3, c3, rfl, hg3, ho3, hb3⟩; have hc3 := HC4.out _ _ ho3; have hg3l := own_lt ho3; have HB3 := Lib.hid (below_trans (Below.refl _ w2).drew hb3); clear ho3 hb3))
    all_goals
      go_wp2
      go_ret2
      exact ⟨by first | rfl | (rw [IntWalk.i64_in _ (by omega)]; rfl) | (simp only [wrap64]; congr 4; omega) | (congr 4; omega), HB5.out⟩
theorem savedOneWay_both (zs : List Int) (h : zs.length ≤ 1048576) : ∃ (r0 : Int) (r1 : Bool),
    (∀ (w : World) (B : Option Addr) (c lo hi : Nat), Ins w lo hi B zs → Calls Try.prog 44 #[.slice B zs.length c] w fun e w' => e = .returned (.tuple #[.int .i64 r0, .bool r1]) ∧ Below w.heap.size w w') ∧
    (∀ (w : World) (B : Option Addr) (c lo hi : Nat), Ins w lo hi B zs → Calls Try.prog 43 #[.slice B zs.length c] w fun e w' => e = .returned (.tuple #[.int .i64 r0, .bool r1]) ∧ Below w.heap.size w w') :=
  ⟨_, _, fun w B c lo hi hS => savedOneWay_impl B c lo hi zs w hS h, fun w B c lo hi hS => savedOneWay_spec B c lo hi zs w hS h⟩
end Go.Proofs.Ytdkffkgoalgjmaa
