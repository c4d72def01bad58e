/- RaceWins, LongestRace, ShortestRace, CountRaces: both. -/
import Derived.Test.YtopgccficjkenaaL11Q
import Derived.Test.YtopgccficjkenaaL11F
import Derived.Test.YtopgccficjkenaaL11T
import Derived.Deep.RegionHeld3
namespace Go.Proofs.Ytopgccficjkenaa
open Go.RowKit Go.ChangeShapes Go.WideShapes Go.Maps
set_option linter.unusedVariables false


set_option maxRecDepth 100000 in
set_option maxHeartbeats 8000000 in
theorem outlookOf_no (A : Option Addr) (c lo hi : Nat) (zs : List Int) (m : Int) (Q : Option Addr) (cq lo2 hi2 : Nat) (qs : List Int) (w : World) (hS : Ins w lo hi A zs) (hQ : Ins w lo2 hi2 Q qs) (hl : zs.length ≤ 1048576) (hn : qs.length ≤ 1048576) (hg : (beginB zs m && choB zs.length qs) = false) :
    Calls Try.prog 63 #[.agg #[.slice A zs.length c, .int .i64 m], .slice Q qs.length cq] w fun e w' => e = .returned (.tuple #[.agg #[.bool false, .int .i64 0, .int .i64 0, .int .i64 0], .bool false]) ∧ Below w.heap.size w w' := by
  have HT := Lib.hid (Two.new w (.slice A zs.length c) (.int .i64 m) 26 w.heap.size rfl)
  have HB := Lib.hid ((Below.refl w.heap.size w).alloc (Nat.le_refl _) (.cells #[.slice A zs.length c, .int .i64 m] 26))
  have HO := Lib.hid (FourR.new (w.alloc (.cells #[.slice A zs.length c, .int .i64 m] 26)) (.bool false) (.int .i64 0) (.int .i64 0) (.int .i64 0) 70 (w.heap.size + 1) (by simp))
  replace HT := Lib.hid (HT.out.step ((Below.refl _ _).alloc (Nat.le_refl _) (.cells #[.bool false, .int .i64 0, .int .i64 0, .int .i64 0] 70)))
  replace HB := Lib.hid (HB.out.alloc HB.out.size (.cells #[.bool false, .int .i64 0, .int .i64 0, .int .i64 0] 70))
  have HQ := Lib.hid (hQ.step HB.out)
  have HS := Lib.hid (hS.step HB.out)
  have hqt := hQ.top
  have hst := hS.top
  have HRF := Lib.hid (fun W h1 h2 => raceFrom_no A c lo hi zs m Q cq lo2 hi2 qs W h1 h2 hl hn hg)
  clear hS hQ hg
  go_enter Try.func63, Try.ntmps63
  go_wp2_with fail
  generalize (w.alloc (.cells #[.slice A zs.length c, .int .i64 m] 26)).alloc (.cells #[.bool false, .int .i64 0, .int .i64 0, .int .i64 0] 70) = w0 at HT HO HB HQ HS ⊢
  have hl0 := HO.out.lt
  have t0 := HT.out.c0
  have t1 := HT.out.c1
  go_wp2_with fail
  with_reducible refine (HRF.out w0 HS.out HQ.out).mono ?_
  rintro e w1 ⟨rfl, hb⟩
  have hsz0 := HB.out.size
  replace HT := Lib.hid (HT.out.step hb)
  replace HO := Lib.hid (HO.out.step hb)
  replace HQ := Lib.hid (HQ.out.step hb)
  replace HS := Lib.hid (HS.out.step hb)
  replace HB := Lib.hid (below_trans HB.out hb)
  clear hb t0 t1 HRF
  go_upto_region 2 with (fail)
  have HN := Lib.hid (Two.new w1 (.slice none 0 0) (.map none) 81 w1.heap.size rfl)
  have hb := (Below.refl w1.heap.size w1).alloc (Nat.le_refl _) (.cells #[.slice none 0 0, .map none] 81)
  replace HT := Lib.hid (HT.out.step hb)
  replace HO := Lib.hid (HO.out.step hb)
  replace HQ := Lib.hid (HQ.out.step hb)
  replace HS := Lib.hid (HS.out.step hb)
  replace HB := Lib.hid (below_trans HB.out hb)
  clear hb
  have hlo := HO.out.lt
  generalize w1.alloc (.cells #[.slice none 0 0, .map none] 81) = w2 at HT HO HQ HS HB HN hlo ⊢
  have z0 := HO.out.c0
  have zf0 := HO.out.f 0
  have z1 := HO.out.c1
  have zf1 := HO.out.f 1
  have z2 := HO.out.c2
  have zf2 := HO.out.f 2
  have z3 := HO.out.c3
  have zf3 := HO.out.f 3
  go_wp2
  obtain ⟨hs, hw⟩ := HO.out.set (.bool false) (.int .i64 0) (.int .i64 0) (.int .i64 0)
  generalize (((w2.setCell ⟨w.heap.size + 1, 0, none⟩ (.bool false)).setCell ⟨w.heap.size + 1, 1, none⟩ (.int .i64 0)).setCell ⟨w.heap.size + 1, 2, none⟩ (.int .i64 0)).setCell ⟨w.heap.size + 1, 3, none⟩ (.int .i64 0) = wf at hs hw ⊢
  have e0 := hs.c0
  have e1 := hs.c1
  have e2 := hs.c2
  have e3 := hs.c3
  refine bodyPost_ret (v := .tuple #[.agg #[.bool false, .int .i64 0, .int .i64 0, .int .i64 0], .bool false]) (by simp [results, go_sem, e0, e1, e2, e3]) rfl ?_
  exact ⟨rfl, HB.out.trans (hw.below (by omega) HB.out.size)⟩
set_option maxRecDepth 100000 in
set_option maxHeartbeats 8000000 in
theorem outlookOf_yes (A : Option Addr) (c lo hi : Nat) (zs : List Int) (m : Int) (Q : Option Addr) (cq lo2 hi2 : Nat) (qs : List Int) (w : World) (hS : Ins w lo hi A zs) (hQ : Ins w lo2 hi2 Q qs) (hl : zs.length ≤ 1048576) (hn : qs.length ≤ 1048576) (hg : (beginB zs m && choB zs.length qs) = true) :
    Calls Try.prog 63 #[.agg #[.slice A zs.length c, .int .i64 m], .slice Q qs.length cq] w fun e w' => ∃ o, e = .returned (.tuple #[oV o, .bool true]) ∧ (∀ M : Nat, m = (M : Int) → o = raceL M qs zs) ∧ Below w.heap.size w w' := by
  have hg' := hg
  rw [Bool.and_eq_true] at hg'
  obtain ⟨M, rfl, hs, hd0⟩ := begin_short hg'.1
  have HT := Lib.hid (Two.new w (.slice A zs.length c) (.int .i64 (M : Int)) 26 w.heap.size rfl)
  have HB := Lib.hid ((Below.refl w.heap.size w).alloc (Nat.le_refl _) (.cells #[.slice A zs.length c, .int .i64 (M : Int)] 26))
  have HO := Lib.hid (FourR.new (w.alloc (.cells #[.slice A zs.length c, .int .i64 (M : Int)] 26)) (.bool false) (.int .i64 0) (.int .i64 0) (.int .i64 0) 70 (w.heap.size + 1) (by simp))
  replace HT := Lib.hid (HT.out.step ((Below.refl _ _).alloc (Nat.le_refl _) (.cells #[.bool false, .int .i64 0, .int .i64 0, .int .i64 0] 70)))
  replace HB := Lib.hid (HB.out.alloc HB.out.size (.cells #[.bool false, .int .i64 0, .int .i64 0, .int .i64 0] 70))
  have HQ := Lib.hid (hQ.step HB.out)
  have HS := Lib.hid (hS.step HB.out)
  have hqt := hQ.top
  have hst := hS.top
  have HRF := Lib.hid (fun W h1 h2 => raceFrom_yes A c lo hi zs (M : Int) Q cq lo2 hi2 qs W h1 h2 hl hn hg)
  rw [Bool.and_eq_true] at hg
  clear hg'
  have HC := Lib.hid (outlookAt_any M qs zs hs (choB_ok hg.2) (choB_len hg.2).2)
  clear hs hd0
  clear hS hQ hg
  go_enter Try.func63, Try.ntmps63
  go_wp2_with fail
  generalize (w.alloc (.cells #[.slice A zs.length c, .int .i64 (M : Int)] 26)).alloc (.cells #[.bool false, .int .i64 0, .int .i64 0, .int .i64 0] 70) = w0 at HT HO HB HQ HS ⊢
  have hl0 := HO.out.lt
  have t0 := HT.out.c0
  have t1 := HT.out.c1
  go_wp2_with fail
  with_reducible refine (HRF.out w0 HS.out HQ.out).mono ?_
  rintro e w1 ⟨g, rfl, hg, hm, hb⟩
  have hsz0 := HB.out.size
  replace HT := Lib.hid (HT.out.step hb)
  replace HO := Lib.hid (HO.out.step hb)
  replace HQ := Lib.hid (HQ.out.step hb)
  replace HS := Lib.hid (HS.out.step hb)
  replace HB := Lib.hid (below_trans HB.out hb)
  clear hb t0 t1 HRF
  go_upto_region 2 with (fail)
  have HM := Lib.hid hm
  clear hm
  have HN := Lib.hid (Two.new w1 (.slice Q qs.length cq) (.map (some g)) 81 w1.heap.size rfl)
  have hb := (Below.refl w1.heap.size w1).alloc (Nat.le_refl _) (.cells #[.slice Q qs.length cq, .map (some g)] 81)
  have hlg := HM.out.lt
  replace HT := Lib.hid (HT.out.step hb)
  replace HO := Lib.hid (HO.out.step hb)
  replace HQ := Lib.hid (HQ.out.step hb)
  replace HS := Lib.hid (HS.out.step hb)
  replace HM := Lib.hid (HM.out.step hb)
  replace HB := Lib.hid (below_trans HB.out hb)
  clear hb
  have hlo := HO.out.lt
  generalize w1.alloc (.cells #[.slice Q qs.length cq, .map (some g)] 81) = w2 at HT HO HQ HS HB HN HM hlo ⊢
  have t0 := HT.out.c0
  have t1 := HT.out.c1
  have n0 := HN.out.c0
  have n1 := HN.out.c1
  have HCk := Lib.hid (HC.out Q cq lo2 hi2 A c lo hi w2 g HM.out HQ.out (.inl (by omega)) HS.out (.inl (by omega)))
  go_wp2_with fail
  with_reducible refine HCk.out.mono ?_
  rintro e w3 ⟨rfl, _, hw3⟩
  have HO3 := Lib.hid (HO.out.within hw3 (.inl (by omega)))
  have HW := Lib.hid (HB.out.trans (hw3.below (by omega) HB.out.size))
  clear hw3 t0 t1 n0 n1 HCk HC HT HQ HS HM HN HO HB
  obtain ⟨r, hr⟩ : ∃ r, raceL M qs zs = r := ⟨_, rfl⟩
  rw [hr]
  have HRr := Lib.hid hr
  clear hr
  unfold oV
  have z0 := HO3.out.c0
  have zf0 := HO3.out.f 0
  have z1 := HO3.out.c1
  have zf1 := HO3.out.f 1
  have z2 := HO3.out.c2
  have zf2 := HO3.out.f 2
  have z3 := HO3.out.c3
  have zf3 := HO3.out.f 3
  go_wp2
  obtain ⟨hs, hw⟩ := HO3.out.set (.bool r.wins) (.int .i64 (r.long : Int)) (.int .i64 (r.short : Int)) (.int .i64 (r.many : Int))
  generalize (((w3.setCell ⟨w.heap.size + 1, 0, none⟩ (.bool r.wins)).setCell ⟨w.heap.size + 1, 1, none⟩ (.int .i64 (r.long : Int))).setCell ⟨w.heap.size + 1, 2, none⟩ (.int .i64 (r.short : Int))).setCell ⟨w.heap.size + 1, 3, none⟩ (.int .i64 (r.many : Int)) = wf at hs hw ⊢
  have e0 := hs.c0
  have e1 := hs.c1
  have e2 := hs.c2
  have e3 := hs.c3
  refine bodyPost_ret (v := .tuple #[.agg #[.bool r.wins, .int .i64 (r.long : Int), .int .i64 (r.short : Int), .int .i64 (r.many : Int)], .bool true]) (by simp [results, go_sem, e0, e1, e2, e3]) rfl ?_
  exact ⟨r, rfl, fun M' h => by rw [show M' = M by omega]; exact HRr.out.symm, HW.out.trans (hw.below (by omega) HW.out.size)⟩
set_option maxRecDepth 100000 in
set_option maxHeartbeats 8000000 in
theorem raceWins_impl_no (A : Option Addr) (c lo hi : Nat) (zs : List Int) (m : Int) (Q : Option Addr) (cq lo2 hi2 : Nat) (qs : List Int) (w : World) (hS : Ins w lo hi A zs) (hQ : Ins w lo2 hi2 Q qs) (hl : zs.length ≤ 1048576) (hn : qs.length ≤ 1048576) (hg : (beginB zs m && choB zs.length qs) = false) :
    Calls Try.prog 17 #[.agg #[.slice A zs.length c, .int .i64 m], .slice Q qs.length cq] w fun e w' => e = .returned (.tuple #[.bool false, .bool false]) ∧ Below w.heap.size w w' := by
  have HT := Lib.hid (Two.new w (.slice A zs.length c) (.int .i64 m) 26 w.heap.size rfl)
  have HB := Lib.hid ((Below.refl w.heap.size w).alloc (Nat.le_refl _) (.cells #[.slice A zs.length c, .int .i64 m] 26))
  have HQ := Lib.hid (hQ.step HB.out)
  have HS := Lib.hid (hS.step HB.out)
  have HC := Lib.hid (fun W h1 h2 => outlookOf_no A c lo hi zs m Q cq lo2 hi2 qs W h1 h2 hl hn hg)
  clear hS hQ hg
  go_enter Try.func17, Try.ntmps17
  go_wp2_with fail
  generalize w.alloc (.cells #[.slice A zs.length c, .int .i64 m] 26) = w0 at HT HB HQ HS ⊢
  have t0 := HT.out.c0
  have t1 := HT.out.c1
  go_wp2_with fail
  with_reducible refine (HC.out w0 HS.out HQ.out).mono ?_
  rintro e w1 ⟨rfl, hb⟩
  replace HB := Lib.hid (below_trans HB.out hb)
  clear hb t0 t1 HC HT HQ HS
  go_upto_region 2 with (fail)
  have HN := Lib.hid (FourR.new w1 (.bool false) (.int .i64 0) (.int .i64 0) (.int .i64 0) 70 w1.heap.size rfl)
  replace HB := Lib.hid (below_trans HB.out ((Below.refl w1.heap.size w1).alloc (Nat.le_refl _) (.cells #[.bool false, .int .i64 0, .int .i64 0, .int .i64 0] 70)))
  generalize w1.alloc (.cells #[.bool false, .int .i64 0, .int .i64 0, .int .i64 0] 70) = w2 at HB HN ⊢
  have n := HN.out.c0
  go_wp2
  go_ret2
  exact ⟨rfl, HB.out⟩
set_option maxRecDepth 100000 in
set_option maxHeartbeats 8000000 in
theorem raceWins_impl_yes (A : Option Addr) (c lo hi : Nat) (zs : List Int) (m : Int) (Q : Option Addr) (cq lo2 hi2 : Nat) (qs : List Int) (w : World) (hS : Ins w lo hi A zs) (hQ : Ins w lo2 hi2 Q qs) (hl : zs.length ≤ 1048576) (hn : qs.length ≤ 1048576) (hg : (beginB zs m && choB zs.length qs) = true) :
    Calls Try.prog 17 #[.agg #[.slice A zs.length c, .int .i64 m], .slice Q qs.length cq] w fun e w' => e = .returned (.tuple #[.bool (raceL m.toNat qs zs).wins, .bool true]) ∧ Below w.heap.size w w' := by
  have HT := Lib.hid (Two.new w (.slice A zs.length c) (.int .i64 m) 26 w.heap.size rfl)
  have HB := Lib.hid ((Below.refl w.heap.size w).alloc (Nat.le_refl _) (.cells #[.slice A zs.length c, .int .i64 m] 26))
  have HQ := Lib.hid (hQ.step HB.out)
  have HS := Lib.hid (hS.step HB.out)
  have HC := Lib.hid (fun W h1 h2 => outlookOf_yes A c lo hi zs m Q cq lo2 hi2 qs W h1 h2 hl hn hg)
  have hm0 : m = (m.toNat : Int) := by rw [Bool.and_eq_true] at hg; obtain ⟨M, rfl, _, _⟩ := begin_short hg.1; simp
  have HM0 := Lib.hid hm0
  clear hm0
  clear hS hQ hg
  go_enter Try.func17, Try.ntmps17
  go_wp2_with fail
  generalize w.alloc (.cells #[.slice A zs.length c, .int .i64 m] 26) = w0 at HT HB HQ HS ⊢
  have t0 := HT.out.c0
  have t1 := HT.out.c1
  go_wp2_with fail
  with_reducible refine (HC.out w0 HS.out HQ.out).mono ?_
  rintro e w1 ⟨r, rfl, hr, hb⟩
  have HRr := Lib.hid (hr m.toNat HM0.out)
  clear hr HM0
  unfold oV
  replace HB := Lib.hid (below_trans HB.out hb)
  clear hb t0 t1 HC HT HQ HS
  go_upto_region 2 with (fail)
  have HN := Lib.hid (FourR.new w1 (.bool r.wins) (.int .i64 (r.long : Int)) (.int .i64 (r.short : Int)) (.int .i64 (r.many : Int)) 70 w1.heap.size rfl)
  replace HB := Lib.hid (below_trans HB.out ((Below.refl w1.heap.size w1).alloc (Nat.le_refl _) (.cells #[.bool r.wins, .int .i64 (r.long : Int), .int .i64 (r.short : Int), .int .i64 (r.many : Int)] 70)))
  generalize w1.alloc (.cells #[.bool r.wins, .int .i64 (r.long : Int), .int .i64 (r.short : Int), .int .i64 (r.many : Int)] 70) = w2 at HB HN ⊢
  have n := HN.out.c0
  go_wp2
  go_ret2
  exact ⟨by rw [← HRr.out]; rfl, HB.out⟩
set_option maxRecDepth 100000 in
set_option maxHeartbeats 8000000 in
theorem longestRace_impl_no (A : Option Addr) (c lo hi : Nat) (zs : List Int) (m : Int) (Q : Option Addr) (cq lo2 hi2 : Nat) (qs : List Int) (w : World) (hS : Ins w lo hi A zs) (hQ : Ins w lo2 hi2 Q qs) (hl : zs.length ≤ 1048576) (hn : qs.length ≤ 1048576) (hg : (beginB zs m && choB zs.length qs) = false) :
    Calls Try.prog 24 #[.agg #[.slice A zs.length c, .int .i64 m], .slice Q qs.length cq] w fun e w' => e = .returned (.tuple #[.int .i64 0, .bool false]) ∧ Below w.heap.size w w' := by
  have HT := Lib.hid (Two.new w (.slice A zs.length c) (.int .i64 m) 26 w.heap.size rfl)
  have HB := Lib.hid ((Below.refl w.heap.size w).alloc (Nat.le_refl _) (.cells #[.slice A zs.length c, .int .i64 m] 26))
  have HQ := Lib.hid (hQ.step HB.out)
  have HS := Lib.hid (hS.step HB.out)
  have HC := Lib.hid (fun W h1 h2 => outlookOf_no A c lo hi zs m Q cq lo2 hi2 qs W h1 h2 hl hn hg)
  clear hS hQ hg
  go_enter Try.func24, Try.ntmps24
  go_wp2_with fail
  generalize w.alloc (.cells #[.slice A zs.length c, .int .i64 m] 26) = w0 at HT HB HQ HS ⊢
  have t0 := HT.out.c0
  have t1 := HT.out.c1
  go_wp2_with fail
  with_reducible refine (HC.out w0 HS.out HQ.out).mono ?_
  rintro e w1 ⟨rfl, hb⟩
  replace HB := Lib.hid (below_trans HB.out hb)
  clear hb t0 t1 HC HT HQ HS
  go_upto_region 2 with (fail)
  have HN := Lib.hid (FourR.new w1 (.bool false) (.int .i64 0) (.int .i64 0) (.int .i64 0) 70 w1.heap.size rfl)
  replace HB := Lib.hid (below_trans HB.out ((Below.refl w1.heap.size w1).alloc (Nat.le_refl _) (.cells #[.bool false, .int .i64 0, .int .i64 0, .int .i64 0] 70)))
  generalize w1.alloc (.cells #[.bool false, .int .i64 0, .int .i64 0, .int .i64 0] 70) = w2 at HB HN ⊢
  have n := HN.out.c1
  go_wp2
  go_ret2
  exact ⟨rfl, HB.out⟩
set_option maxRecDepth 100000 in
set_option maxHeartbeats 8000000 in
theorem longestRace_impl_yes (A : Option Addr) (c lo hi : Nat) (zs : List Int) (m : Int) (Q : Option Addr) (cq lo2 hi2 : Nat) (qs : List Int) (w : World) (hS : Ins w lo hi A zs) (hQ : Ins w lo2 hi2 Q qs) (hl : zs.length ≤ 1048576) (hn : qs.length ≤ 1048576) (hg : (beginB zs m && choB zs.length qs) = true) :
    Calls Try.prog 24 #[.agg #[.slice A zs.length c, .int .i64 m], .slice Q qs.length cq] w fun e w' => e = .returned (.tuple #[.int .i64 ((raceL m.toNat qs zs).long : Int), .bool true]) ∧ Below w.heap.size w w' := by
  have HT := Lib.hid (Two.new w (.slice A zs.length c) (.int .i64 m) 26 w.heap.size rfl)
  have HB := Lib.hid ((Below.refl w.heap.size w).alloc (Nat.le_refl _) (.cells #[.slice A zs.length c, .int .i64 m] 26))
  have HQ := Lib.hid (hQ.step HB.out)
  have HS := Lib.hid (hS.step HB.out)
  have HC := Lib.hid (fun W h1 h2 => outlookOf_yes A c lo hi zs m Q cq lo2 hi2 qs W h1 h2 hl hn hg)
  have hm0 : m = (m.toNat : Int) := by rw [Bool.and_eq_true] at hg; obtain ⟨M, rfl, _, _⟩ := begin_short hg.1; simp
  have HM0 := Lib.hid hm0
  clear hm0
  clear hS hQ hg
  go_enter Try.func24, Try.ntmps24
  go_wp2_with fail
  generalize w.alloc (.cells #[.slice A zs.length c, .int .i64 m] 26) = w0 at HT HB HQ HS ⊢
  have t0 := HT.out.c0
  have t1 := HT.out.c1
  go_wp2_with fail
  with_reducible refine (HC.out w0 HS.out HQ.out).mono ?_
  rintro e w1 ⟨r, rfl, hr, hb⟩
  have HRr := Lib.hid (hr m.toNat HM0.out)
  clear hr HM0
  unfold oV
  replace HB := Lib.hid (below_trans HB.out hb)
  clear hb t0 t1 HC HT HQ HS
  go_upto_region 2 with (fail)
  have HN := Lib.hid (FourR.new w1 (.bool r.wins) (.int .i64 (r.long : Int)) (.int .i64 (r.short : Int)) (.int .i64 (r.many : Int)) 70 w1.heap.size rfl)
  replace HB := Lib.hid (below_trans HB.out ((Below.refl w1.heap.size w1).alloc (Nat.le_refl _) (.cells #[.bool r.wins, .int .i64 (r.long : Int), .int .i64 (r.short : Int), .int .i64 (r.many : Int)] 70)))
  generalize w1.alloc (.cells #[.bool r.wins, .int .i64 (r.long : Int), .int .i64 (r.short : Int), .int .i64 (r.many : Int)] 70) = w2 at HB HN ⊢
  have n := HN.out.c1
  go_wp2
  go_ret2
  exact ⟨by rw [← HRr.out]; rfl, HB.out⟩
set_option maxRecDepth 100000 in
set_option maxHeartbeats 8000000 in
theorem shortestRace_impl_no (A : Option Addr) (c lo hi : Nat) (zs : List Int) (m : Int) (Q : Option Addr) (cq lo2 hi2 : Nat) (qs : List Int) (w : World) (hS : Ins w lo hi A zs) (hQ : Ins w lo2 hi2 Q qs) (hl : zs.length ≤ 1048576) (hn : qs.length ≤ 1048576) (hg : (beginB zs m && choB zs.length qs) = false) :
    Calls Try.prog 26 #[.agg #[.slice A zs.length c, .int .i64 m], .slice Q qs.length cq] w fun e w' => e = .returned (.tuple #[.int .i64 0, .bool false]) ∧ Below w.heap.size w w' := by
  have HT := Lib.hid (Two.new w (.slice A zs.length c) (.int .i64 m) 26 w.heap.size rfl)
  have HB := Lib.hid ((Below.refl w.heap.size w).alloc (Nat.le_refl _) (.cells #[.slice A zs.length c, .int .i64 m] 26))
  have HQ := Lib.hid (hQ.step HB.out)
  have HS := Lib.hid (hS.step HB.out)
  have HC := Lib.hid (fun W h1 h2 => outlookOf_no A c lo hi zs m Q cq lo2 hi2 qs W h1 h2 hl hn hg)
  clear hS hQ hg
  go_enter Try.func26, Try.ntmps26
  go_wp2_with fail
  generalize w.alloc (.cells #[.slice A zs.length c, .int .i64 m] 26) = w0 at HT HB HQ HS ⊢
  have t0 := HT.out.c0
  have t1 := HT.out.c1
  go_wp2_with fail
  with_reducible refine (HC.out w0 HS.out HQ.out).mono ?_
  rintro e w1 ⟨rfl, hb⟩
  replace HB := Lib.hid (below_trans HB.out hb)
  clear hb t0 t1 HC HT HQ HS
  go_upto_region 2 with (fail)
  have HN := Lib.hid (FourR.new w1 (.bool false) (.int .i64 0) (.int .i64 0) (.int .i64 0) 70 w1.heap.size rfl)
  replace HB := Lib.hid (below_trans HB.out ((Below.refl w1.heap.size w1).alloc (Nat.le_refl _) (.cells #[.bool false, .int .i64 0, .int .i64 0, .int .i64 0] 70)))
  generalize w1.alloc (.cells #[.bool false, .int .i64 0, .int .i64 0, .int .i64 0] 70) = w2 at HB HN ⊢
  have n := HN.out.c2
  go_wp2
  go_ret2
  exact ⟨rfl, HB.out⟩
set_option maxRecDepth 100000 in
set_option maxHeartbeats 8000000 in
theorem shortestRace_impl_yes (A : Option Addr) (c lo hi : Nat) (zs : List Int) (m : Int) (Q : Option Addr) (cq lo2 hi2 : Nat) (qs : List Int) (w : World) (hS : Ins w lo hi A zs) (hQ : Ins w lo2 hi2 Q qs) (hl : zs.length ≤ 1048576) (hn : qs.length ≤ 1048576) (hg : (beginB zs m && choB zs.length qs) = true) :
    Calls Try.prog 26 #[.agg #[.slice A zs.length c, .int .i64 m], .slice Q qs.length cq] w fun e w' => e = .returned (.tuple #[.int .i64 ((raceL m.toNat qs zs).short : Int), .bool true]) ∧ Below w.heap.size w w' := by
  have HT := Lib.hid (Two.new w (.slice A zs.length c) (.int .i64 m) 26 w.heap.size rfl)
  have HB := Lib.hid ((Below.refl w.heap.size w).alloc (Nat.le_refl _) (.cells #[.slice A zs.length c, .int .i64 m] 26))
  have HQ := Lib.hid (hQ.step HB.out)
  have HS := Lib.hid (hS.step HB.out)
  have HC := Lib.hid (fun W h1 h2 => outlookOf_yes A c lo hi zs m Q cq lo2 hi2 qs W h1 h2 hl hn hg)
  have hm0 : m = (m.toNat : Int) := by rw [Bool.and_eq_true] at hg; obtain ⟨M, rfl, _, _⟩ := begin_short hg.1; simp
  have HM0 := Lib.hid hm0
  clear hm0
  clear hS hQ hg
  go_enter Try.func26, Try.ntmps26
  go_wp2_with fail
  generalize w.alloc (.cells #[.slice A zs.length c, .int .i64 m] 26) = w0 at HT HB HQ HS ⊢
  have t0 := HT.out.c0
  have t1 := HT.out.c1
  go_wp2_with fail
  with_reducible refine (HC.out w0 HS.out HQ.out).mono ?_
  rintro e w1 ⟨r, rfl, hr, hb⟩
  have HRr := Lib.hid (hr m.toNat HM0.out)
  clear hr HM0
  unfold oV
  replace HB := Lib.hid (below_trans HB.out hb)
  clear hb t0 t1 HC HT HQ HS
  go_upto_region 2 with (fail)
  have HN := Lib.hid (FourR.new w1 (.bool r.wins) (.int .i64 (r.long : Int)) (.int .i64 (r.short : Int)) (.int .i64 (r.many : Int)) 70 w1.heap.size rfl)
  replace HB := Lib.hid (below_trans HB.out ((Below.refl w1.heap.size w1).alloc (Nat.le_refl _) (.cells #[.bool r.wins, .int .i64 (r.long : Int), .int .i64 (r.short : Int), .int .i64 (r.many : Int)] 70)))
  generalize w1.alloc (.cells #[.bool r.wins, .int .i64 (r.long : Int), .int .i64 (r.short : Int), .int .i64 (r.many : Int)] 70) = w2 at HB HN ⊢
  have n := HN.out.c2
  go_wp2
  go_ret2
  exact ⟨by rw [← HRr.out]; rfl, HB.out⟩
set_option maxRecDepth 100000 in
set_option maxHeartbeats 8000000 in
theorem countRaces_impl_no (A : Option Addr) (c lo hi : Nat) (zs : List Int) (m : Int) (Q : Option Addr) (cq lo2 hi2 : Nat) (qs : List Int) (w : World) (hS : Ins w lo hi A zs) (hQ : Ins w lo2 hi2 Q qs) (hl : zs.length ≤ 1048576) (hn : qs.length ≤ 1048576) (hg : (beginB zs m && choB zs.length qs) = false) :
    Calls Try.prog 28 #[.agg #[.slice A zs.length c, .int .i64 m], .slice Q qs.length cq] w fun e w' => e = .returned (.tuple #[.int .i64 0, .bool false]) ∧ Below w.heap.size w w' := by
  have HT := Lib.hid (Two.new w (.slice A zs.length c) (.int .i64 m) 26 w.heap.size rfl)
  have HB := Lib.hid ((Below.refl w.heap.size w).alloc (Nat.le_refl _) (.cells #[.slice A zs.length c, .int .i64 m] 26))
  have HQ := Lib.hid (hQ.step HB.out)
  have HS := Lib.hid (hS.step HB.out)
  have HC := Lib.hid (fun W h1 h2 => outlookOf_no A c lo hi zs m Q cq lo2 hi2 qs W h1 h2 hl hn hg)
  clear hS hQ hg
  go_enter Try.func28, Try.ntmps28
  go_wp2_with fail
  generalize w.alloc (.cells #[.slice A zs.length c, .int .i64 m] 26) = w0 at HT HB HQ HS ⊢
  have t0 := HT.out.c0
  have t1 := HT.out.c1
  go_wp2_with fail
  with_reducible refine (HC.out w0 HS.out HQ.out).mono ?_
  rintro e w1 ⟨rfl, hb⟩
  replace HB := Lib.hid (below_trans HB.out hb)
  clear hb t0 t1 HC HT HQ HS
  go_upto_region 2 with (fail)
  have HN := Lib.hid (FourR.new w1 (.bool false) (.int .i64 0) (.int .i64 0) (.int .i64 0) 70 w1.heap.size rfl)
  replace HB := Lib.hid (below_trans HB.out ((Below.refl w1.heap.size w1).alloc (Nat.le_refl _) (.cells #[.bool false, .int .i64 0, .int .i64 0, .int .i64 0] 70)))
  generalize w1.alloc (.cells #[.bool false, .int .i64 0, .int .i64 0, .int .i64 0] 70) = w2 at HB HN ⊢
  have n := HN.out.c3
  go_wp2
  go_ret2
  exact ⟨rfl, HB.out⟩
set_option maxRecDepth 100000 in
set_option maxHeartbeats 8000000 in
theorem countRaces_impl_yes (A : Option Addr) (c lo hi : Nat) (zs : List Int) (m : Int) (Q : Option Addr) (cq lo2 hi2 : Nat) (qs : List Int) (w : World) (hS : Ins w lo hi A zs) (hQ : Ins w lo2 hi2 Q qs) (hl : zs.length ≤ 1048576) (hn : qs.length ≤ 1048576) (hg : (beginB zs m && choB zs.length qs) = true) :
    Calls Try.prog 28 #[.agg #[.slice A zs.length c, .int .i64 m], .slice Q qs.length cq] w fun e w' => e = .returned (.tuple #[.int .i64 ((raceL m.toNat qs zs).many : Int), .bool true]) ∧ Below w.heap.size w w' := by
  have HT := Lib.hid (Two.new w (.slice A zs.length c) (.int .i64 m) 26 w.heap.size rfl)
  have HB := Lib.hid ((Below.refl w.heap.size w).alloc (Nat.le_refl _) (.cells #[.slice A zs.length c, .int .i64 m] 26))
  have HQ := Lib.hid (hQ.step HB.out)
  have HS := Lib.hid (hS.step HB.out)
  have HC := Lib.hid (fun W h1 h2 => outlookOf_yes A c lo hi zs m Q cq lo2 hi2 qs W h1 h2 hl hn hg)
  have hm0 : m = (m.toNat : Int) := by rw [Bool.and_eq_true] at hg; obtain ⟨M, rfl, _, _⟩ := begin_short hg.1; simp
  have HM0 := Lib.hid hm0
  clear hm0
  clear hS hQ hg
  go_enter Try.func28, Try.ntmps28
  go_wp2_with fail
  generalize w.alloc (.cells #[.slice A zs.length c, .int .i64 m] 26) = w0 at HT HB HQ HS ⊢
  have t0 := HT.out.c0
  have t1 := HT.out.c1
  go_wp2_with fail
  with_reducible refine (HC.out w0 HS.out HQ.out).mono ?_
  rintro e w1 ⟨r, rfl, hr, hb⟩
  have HRr := Lib.hid (hr m.toNat HM0.out)
  clear hr HM0
  unfold oV
  replace HB := Lib.hid (below_trans HB.out hb)
  clear hb t0 t1 HC HT HQ HS
  go_upto_region 2 with (fail)
  have HN := Lib.hid (FourR.new w1 (.bool r.wins) (.int .i64 (r.long : Int)) (.int .i64 (r.short : Int)) (.int .i64 (r.many : Int)) 70 w1.heap.size rfl)
  replace HB := Lib.hid (below_trans HB.out ((Below.refl w1.heap.size w1).alloc (Nat.le_refl _) (.cells #[.bool r.wins, .int .i64 (r.long : Int), .int .i64 (r.short : Int), .int .i64 (r.many : Int)] 70)))
  generalize w1.alloc (.cells #[.bool r.wins, .int .i64 (r.long : Int), .int .i64 (r.short : Int), .int .i64 (r.many : Int)] 70) = w2 at HB HN ⊢
  have n := HN.out.c3
  go_wp2
  go_ret2
  exact ⟨by rw [← HRr.out]; rfl, HB.out⟩
set_option maxRecDepth 100000 in
set_option maxHeartbeats 8000000 in
theorem l11Facts_any (A : Option Addr) (c lo hi : Nat) (zs : List Int) (M : Nat) (Q : Option Addr) (cq lo2 hi2 : Nat) (qs : List Int) (w : World) (hS : Ins w lo hi A zs) (hQ : Ins w lo2 hi2 Q qs) (hs : Short M zs) (hq : ∀ q ∈ qs, qOK zs.length q = true) (hq5 : qs.length ≤ 5) :
    Calls Try.prog 65 #[.agg #[.slice A zs.length c, .int .i64 (M : Int)], .slice Q qs.length cq] w fun e w' => ∃ g T, e = .returned (.slice (some ⟨g, 0, none⟩) ((M + 2) ^ zs.length) ((M + 2) ^ zs.length)) ∧ w.heap.size ≤ g ∧ FTab w' g M zs.length qs T ∧ T (keyS M zs) = true ∧ Below w.heap.size w w' := by
  have hl5 := hs.len
  have hm1 := hs.m
  have htop := top_bd hs.m hs.len
  have hst := hS.top
  have hqt := hQ.top
  have HT := Lib.hid (Two.new w (.slice A zs.length c) (.int .i64 (M : Int)) 26 w.heap.size rfl)
  have HB := Lib.hid ((Below.refl w.heap.size w).alloc (Nat.le_refl _) (.cells #[.slice A zs.length c, .int .i64 (M : Int)] 26))
  have HQ := Lib.hid (hQ.step HB.out)
  have HS := Lib.hid (hS.step HB.out)
  have HFL := Lib.hid (l11Fill_any M qs zs hs hq hq5)
  clear hS hQ hq hs
  go_enter Try.func65, Try.ntmps65
  go_upto_region 1 with (fail)
  generalize w.alloc (.cells #[.slice A zs.length c, .int .i64 (M : Int)] 26) = w0 at HT HB HQ HS ⊢
  have t0 := HT.out.c0
  have t1 := HT.out.c1
  go_wp2_with fail
  go_loopw [5, 6] (fun x i wr => ∃ (k v : Nat), k ≤ zs.length ∧ i = .int .i64 k ∧ x = .int .i64 (v : Int) ∧ Hid (v = (M + 2) ^ k) ∧ wr = w0) (fun _ i _ => zs.length - (intOf i).toNat)
  case atStart => exact ⟨0, 1, Nat.zero_le _, rfl, rfl, Lib.hid rfl, rfl⟩
  case round =>
    obtain ⟨k, v, hk, rfl, rfl, HV, rfl⟩ := hrel
    by_cases hlt : k < zs.length
    · have hltI : (k : Int) < (zs.length : Int) := by omega
      have hvb : v ≤ 243 := by rw [HV.out]; exact top_bd hm1 (by omega)
      have HN : Hid (v * (M + 2) = (M + 2) ^ (k + 1)) := Lib.hid (by rw [HV.out, Nat.pow_succ])
      have hp : (v : Int) * ((M : Int) + 2) = ((v * (M + 2) : Nat) : Int) := by simp
      have hpb : v * (M + 2) ≤ 243 * 3 := Nat.mul_le_mul hvb (by omega)
      have HE := Lib.hid hp
      have W1 : IntKind.i64.wrap ((M : Int) + 2) = (M : Int) + 2 := IntWalk.i64_in _ (by omega)
      have W2 : IntKind.i64.wrap ((v : Int) * ((M : Int) + 2)) = (v : Int) * ((M : Int) + 2) := IntWalk.i64_in _ (by omega)
      clear hp
      go_wp2
      go_roundw
      case rel => exact ⟨k + 1, v * (M + 2), by omega, by go_num, by rw [HE.out], HN, by first | rfl | trivial⟩
      case measure => simp [intOf]; omega
    · obtain rfl : k = zs.length := by omega
      have hltI : ¬ (zs.length : Int) < (zs.length : Int) := by omega
      rename World => w0
      have hvb : v ≤ 243 := by rw [HV.out]; exact htop
      have hmk := fun W => makeFacts v (by omega) W
      go_upto_region 7 with (fail)
      clear hmk
      have HF := Lib.hid (FTab.made w0 M zs.length qs)
      rw [← HV.out] at HF
      have hb := (Below.refl w0.heap.size w0).alloc (Nat.le_refl _) (.cells (madeCells #[.bool false, .bool false, .int .i64 0, .int .i64 0, .int .i64 0] (v * 5)) 75)
      have hsz0 := HB.out.size
      have hlt0 := HT.out.lt
      replace HT := Lib.hid (HT.out.step hb)
      replace HQ := Lib.hid (HQ.out.step hb)
      replace HS := Lib.hid (HS.out.step hb)
      replace HB := Lib.hid (below_trans HB.out hb)
      clear hb t0 t1
      generalize hgb : w0.heap.size = g at HF hsz0 hlt0 ⊢
      clear hgb
      generalize w0.alloc (.cells (madeCells #[.bool false, .bool false, .int .i64 0, .int .i64 0, .int .i64 0] (v * 5)) 75) = w1 at HF HT HQ HS HB ⊢
      have t0 := HT.out.c0
      have t1 := HT.out.c1
      have HFk := Lib.hid (HFL.out A c lo hi Q cq lo2 hi2 v w1 g (fun _ => false) HF.out HS.out (.inl (by omega)) HQ.out (.inl (by omega)))
      rw [← HV.out] at HFk
      go_wp2_with fail
      with_reducible refine HFk.out.mono ?_
      rintro e w2 ⟨rfl, ⟨T, hF, _, hTk⟩, hw⟩
      have HF2 := Lib.hid hF
      have HTk := Lib.hid hTk
      have HW := Lib.hid (HB.out.trans (hw.below (by omega) HB.out.size))
      clear hF hTk hw t0 t1 HFk HFL HF HT HQ HS HB
      unfold fV
      go_wp2
      go_ret
      first | exact ⟨g, T, by rw [HV.out]; rfl, by omega, HF2.out, HTk.out, HW.out⟩ | exact ⟨g, by rw [HV.out]; rfl, by omega, T, HF2.out, HTk.out, HW.out⟩ | exact ⟨g, T, ⟨by rw [HV.out]; rfl, by omega, HF2.out, HTk.out, HW.out⟩⟩
set_option maxRecDepth 100000 in
set_option maxHeartbeats 8000000 in
theorem raceWins_spec_no (A : Option Addr) (c lo hi : Nat) (zs : List Int) (m : Int) (Q : Option Addr) (cq lo2 hi2 : Nat) (qs : List Int) (w : World) (hS : Ins w lo hi A zs) (hQ : Ins w lo2 hi2 Q qs) (hl : zs.length ≤ 1048576) (hn : qs.length ≤ 1048576) (hg : (beginB zs m && choB zs.length qs) = false) :
    Calls Try.prog 18 #[.agg #[.slice A zs.length c, .int .i64 m], .slice Q qs.length cq] w fun e w' => e = .returned (.tuple #[.bool false, .bool false]) ∧ Below w.heap.size w w' := by
  have HGd := Lib.hid (fun W h1 h2 => l11Good_any A c lo hi zs m Q cq lo2 hi2 qs W h1 h2 hl hn)
  rw [hg] at HGd
  have HT := Lib.hid (Two.new w (.slice A zs.length c) (.int .i64 m) 26 w.heap.size rfl)
  have HB := Lib.hid ((Below.refl w.heap.size w).alloc (Nat.le_refl _) (.cells #[.slice A zs.length c, .int .i64 m] 26))
  have HQ := Lib.hid (hQ.step HB.out)
  have HS := Lib.hid (hS.step HB.out)
  clear hS hQ hg
  go_enter Try.func18, Try.ntmps18
  go_wp2_with fail
  generalize w.alloc (.cells #[.slice A zs.length c, .int .i64 m] 26) = w0 at HT HB HQ HS ⊢
  have t0 := HT.out.c0
  have t1 := HT.out.c1
  go_wp2_with fail
  with_reducible refine (HGd.out w0 HS.out HQ.out).mono ?_
  rintro e w1 ⟨rfl, hb⟩
  replace HT := Lib.hid (HT.out.step hb)
  replace HQ := Lib.hid (HQ.out.step hb)
  replace HS := Lib.hid (HS.out.step hb)
  replace HB := Lib.hid (below_trans HB.out hb)
  clear hb t0 t1 HGd
  go_wp2
  go_ret2
  exact ⟨rfl, HB.out⟩
set_option maxRecDepth 100000 in
set_option maxHeartbeats 8000000 in
theorem raceWins_spec_yes (A : Option Addr) (c lo hi : Nat) (zs : List Int) (m : Int) (Q : Option Addr) (cq lo2 hi2 : Nat) (qs : List Int) (w : World) (hS : Ins w lo hi A zs) (hQ : Ins w lo2 hi2 Q qs) (hl : zs.length ≤ 1048576) (hn : qs.length ≤ 1048576) (hg : (beginB zs m && choB zs.length qs) = true) :
    Calls Try.prog 18 #[.agg #[.slice A zs.length c, .int .i64 m], .slice Q qs.length cq] w fun e w' => e = .returned (.tuple #[.bool (raceL m.toNat qs zs).wins, .bool true]) ∧ Below w.heap.size w w' := by
  have HGd := Lib.hid (fun W h1 h2 => l11Good_any A c lo hi zs m Q cq lo2 hi2 qs W h1 h2 hl hn)
  rw [hg] at HGd
  rw [Bool.and_eq_true] at hg
  obtain ⟨M, rfl, hs, hd0⟩ := begin_short hg.1
  have hkt := keyTo_lt hs.fit
  have HSH := Lib.hid hs
  have HFc := Lib.hid (fun W h1 h2 => l11Facts_any A c lo hi zs M Q cq lo2 hi2 qs W h1 h2 hs (choB_ok hg.2) (choB_len hg.2).2)
  have HK := Lib.hid (fun W h => l6Key_any A c lo hi zs M W h hs)
  clear hs hd0
  rw [Int.toNat_natCast]
  have HT := Lib.hid (Two.new w (.slice A zs.length c) (.int .i64 (M : Int)) 26 w.heap.size rfl)
  have HB := Lib.hid ((Below.refl w.heap.size w).alloc (Nat.le_refl _) (.cells #[.slice A zs.length c, .int .i64 (M : Int)] 26))
  have HQ := Lib.hid (hQ.step HB.out)
  have HS := Lib.hid (hS.step HB.out)
  clear hS hQ hg
  go_enter Try.func18, Try.ntmps18
  go_wp2_with fail
  generalize w.alloc (.cells #[.slice A zs.length c, .int .i64 (M : Int)] 26) = w0 at HT HB HQ HS ⊢
  have t0 := HT.out.c0
  have t1 := HT.out.c1
  go_wp2_with fail
  with_reducible refine (HGd.out w0 HS.out HQ.out).mono ?_
  rintro e w1 ⟨rfl, hb⟩
  replace HT := Lib.hid (HT.out.step hb)
  replace HQ := Lib.hid (HQ.out.step hb)
  replace HS := Lib.hid (HS.out.step hb)
  replace HB := Lib.hid (below_trans HB.out hb)
  clear hb t0 t1 HGd
  have t0 := HT.out.c0
  have t1 := HT.out.c1
  have hkI : (keyS M zs : Int) < (((M + 2) ^ zs.length : Nat) : Int) := by omega
  clear hkt
  obtain ⟨κ, hκ⟩ : ∃ k, k = keyS M zs := ⟨_, rfl⟩
  have HKE := Lib.hid hκ
  rw [← hκ] at HK hkI
  clear hκ
  obtain ⟨top, htp⟩ : ∃ t, t = (M + 2) ^ zs.length := ⟨_, rfl⟩
  have HTP := Lib.hid htp
  rw [← htp] at HFc hkI
  clear htp
  go_wp2_with fail
  go_region_with (first
     | (go_at_call 66; (with_reducible refine (HK.out v1 (HS.out.step HZ1.out)).mono ?_); rintro e v2 ⟨rfl, hb⟩; have HZ2 := Lib.hid (below_trans HZ1.out hb); have h5 := (HFT.out.step hb).at5 HSH.out rfl; rw [HTK.out, foR_t, ← HKE.out] at h5; have k1 := h5.c1; clear hb h5)
     | (go_at_call 65; (with_reducible refine (HFc.out w1.drew (HS.out.step (Below.refl _ w1).drew) (HQ.out.step (Below.refl _ w1).drew)).mono ?_); rintro e v1 ⟨g, T, rfl, hg, hf, htk, hb⟩; have HZ1 := Lib.hid (below_trans (Below.refl _ w1).drew hb); have HT_1 := Lib.hid (HT.out.step HZ1.out); have t2 := HT_1.out.c0; have t3 := HT_1.out.c1; have HFT := Lib.hid hf; have HTK := Lib.hid htk; clear hb hf htk))
  all_goals
    have HW := Lib.hid (below_trans HB.out HZ2.out)
    go_wp2
    go_ret2
    exact ⟨rfl, HW.out⟩
set_option maxRecDepth 100000 in
set_option maxHeartbeats 8000000 in
theorem longestRace_spec_no (A : Option Addr) (c lo hi : Nat) (zs : List Int) (m : Int) (Q : Option Addr) (cq lo2 hi2 : Nat) (qs : List Int) (w : World) (hS : Ins w lo hi A zs) (hQ : Ins w lo2 hi2 Q qs) (hl : zs.length ≤ 1048576) (hn : qs.length ≤ 1048576) (hg : (beginB zs m && choB zs.length qs) = false) :
    Calls Try.prog 25 #[.agg #[.slice A zs.length c, .int .i64 m], .slice Q qs.length cq] w fun e w' => e = .returned (.tuple #[.int .i64 0, .bool false]) ∧ Below w.heap.size w w' := by
  have HGd := Lib.hid (fun W h1 h2 => l11Good_any A c lo hi zs m Q cq lo2 hi2 qs W h1 h2 hl hn)
  rw [hg] at HGd
  have HT := Lib.hid (Two.new w (.slice A zs.length c) (.int .i64 m) 26 w.heap.size rfl)
  have HB := Lib.hid ((Below.refl w.heap.size w).alloc (Nat.le_refl _) (.cells #[.slice A zs.length c, .int .i64 m] 26))
  have HQ := Lib.hid (hQ.step HB.out)
  have HS := Lib.hid (hS.step HB.out)
  clear hS hQ hg
  go_enter Try.func25, Try.ntmps25
  go_wp2_with fail
  generalize w.alloc (.cells #[.slice A zs.length c, .int .i64 m] 26) = w0 at HT HB HQ HS ⊢
  have t0 := HT.out.c0
  have t1 := HT.out.c1
  go_wp2_with fail
  with_reducible refine (HGd.out w0 HS.out HQ.out).mono ?_
  rintro e w1 ⟨rfl, hb⟩
  replace HT := Lib.hid (HT.out.step hb)
  replace HQ := Lib.hid (HQ.out.step hb)
  replace HS := Lib.hid (HS.out.step hb)
  replace HB := Lib.hid (below_trans HB.out hb)
  clear hb t0 t1 HGd
  go_wp2
  go_ret2
  exact ⟨rfl, HB.out⟩
set_option maxRecDepth 100000 in
set_option maxHeartbeats 8000000 in
theorem longestRace_spec_yes (A : Option Addr) (c lo hi : Nat) (zs : List Int) (m : Int) (Q : Option Addr) (cq lo2 hi2 : Nat) (qs : List Int) (w : World) (hS : Ins w lo hi A zs) (hQ : Ins w lo2 hi2 Q qs) (hl : zs.length ≤ 1048576) (hn : qs.length ≤ 1048576) (hg : (beginB zs m && choB zs.length qs) = true) :
    Calls Try.prog 25 #[.agg #[.slice A zs.length c, .int .i64 m], .slice Q qs.length cq] w fun e w' => e = .returned (.tuple #[.int .i64 ((raceL m.toNat qs zs).long : Int), .bool true]) ∧ Below w.heap.size w w' := by
  have HGd := Lib.hid (fun W h1 h2 => l11Good_any A c lo hi zs m Q cq lo2 hi2 qs W h1 h2 hl hn)
  rw [hg] at HGd
  rw [Bool.and_eq_true] at hg
  obtain ⟨M, rfl, hs, hd0⟩ := begin_short hg.1
  have hkt := keyTo_lt hs.fit
  have HSH := Lib.hid hs
  have HFc := Lib.hid (fun W h1 h2 => l11Facts_any A c lo hi zs M Q cq lo2 hi2 qs W h1 h2 hs (choB_ok hg.2) (choB_len hg.2).2)
  have HK := Lib.hid (fun W h => l6Key_any A c lo hi zs M W h hs)
  clear hs hd0
  rw [Int.toNat_natCast]
  have HT := Lib.hid (Two.new w (.slice A zs.length c) (.int .i64 (M : Int)) 26 w.heap.size rfl)
  have HB := Lib.hid ((Below.refl w.heap.size w).alloc (Nat.le_refl _) (.cells #[.slice A zs.length c, .int .i64 (M : Int)] 26))
  have HQ := Lib.hid (hQ.step HB.out)
  have HS := Lib.hid (hS.step HB.out)
  clear hS hQ hg
  go_enter Try.func25, Try.ntmps25
  go_wp2_with fail
  generalize w.alloc (.cells #[.slice A zs.length c, .int .i64 (M : Int)] 26) = w0 at HT HB HQ HS ⊢
  have t0 := HT.out.c0
  have t1 := HT.out.c1
  go_wp2_with fail
  with_reducible refine (HGd.out w0 HS.out HQ.out).mono ?_
  rintro e w1 ⟨rfl, hb⟩
  replace HT := Lib.hid (HT.out.step hb)
  replace HQ := Lib.hid (HQ.out.step hb)
  replace HS := Lib.hid (HS.out.step hb)
  replace HB := Lib.hid (below_trans HB.out hb)
  clear hb t0 t1 HGd
  have t0 := HT.out.c0
  have t1 := HT.out.c1
  have hkI : (keyS M zs : Int) < (((M + 2) ^ zs.length : Nat) : Int) := by omega
  clear hkt
  obtain ⟨κ, hκ⟩ : ∃ k, k = keyS M zs := ⟨_, rfl⟩
  have HKE := Lib.hid hκ
  rw [← hκ] at HK hkI
  clear hκ
  obtain ⟨top, htp⟩ : ∃ t, t = (M + 2) ^ zs.length := ⟨_, rfl⟩
  have HTP := Lib.hid htp
  rw [← htp] at HFc hkI
  clear htp
  go_wp2_with fail
  go_region_with (first
     | (go_at_call 66; (with_reducible refine (HK.out v1 (HS.out.step HZ1.out)).mono ?_); rintro e v2 ⟨rfl, hb⟩; have HZ2 := Lib.hid (below_trans HZ1.out hb); have h5 := (HFT.out.step hb).at5 HSH.out rfl; rw [HTK.out, foR_t, ← HKE.out] at h5; have k2 := h5.c2; clear hb h5)
     | (go_at_call 65; (with_reducible refine (HFc.out w1.drew (HS.out.step (Below.refl _ w1).drew) (HQ.out.step (Below.refl _ w1).drew)).mono ?_); rintro e v1 ⟨g, T, rfl, hg, hf, htk, hb⟩; have HZ1 := Lib.hid (below_trans (Below.refl _ w1).drew hb); have HT_1 := Lib.hid (HT.out.step HZ1.out); have t2 := HT_1.out.c0; have t3 := HT_1.out.c1; have HFT := Lib.hid hf; have HTK := Lib.hid htk; clear hb hf htk))
  all_goals
    have HW := Lib.hid (below_trans HB.out HZ2.out)
    go_wp2
    go_ret2
    exact ⟨rfl, HW.out⟩
set_option maxRecDepth 100000 in
set_option maxHeartbeats 8000000 in
theorem shortestRace_spec_no (A : Option Addr) (c lo hi : Nat) (zs : List Int) (m : Int) (Q : Option Addr) (cq lo2 hi2 : Nat) (qs : List Int) (w : World) (hS : Ins w lo hi A zs) (hQ : Ins w lo2 hi2 Q qs) (hl : zs.length ≤ 1048576) (hn : qs.length ≤ 1048576) (hg : (beginB zs m && choB zs.length qs) = false) :
    Calls Try.prog 27 #[.agg #[.slice A zs.length c, .int .i64 m], .slice Q qs.length cq] w fun e w' => e = .returned (.tuple #[.int .i64 0, .bool false]) ∧ Below w.heap.size w w' := by
  have HGd := Lib.hid (fun W h1 h2 => l11Good_any A c lo hi zs m Q cq lo2 hi2 qs W h1 h2 hl hn)
  rw [hg] at HGd
  have HT := Lib.hid (Two.new w (.slice A zs.length c) (.int .i64 m) 26 w.heap.size rfl)
  have HB := Lib.hid ((Below.refl w.heap.size w).alloc (Nat.le_refl _) (.cells #[.slice A zs.length c, .int .i64 m] 26))
  have HQ := Lib.hid (hQ.step HB.out)
  have HS := Lib.hid (hS.step HB.out)
  clear hS hQ hg
  go_enter Try.func27, Try.ntmps27
  go_wp2_with fail
  generalize w.alloc (.cells #[.slice A zs.length c, .int .i64 m] 26) = w0 at HT HB HQ HS ⊢
  have t0 := HT.out.c0
  have t1 := HT.out.c1
  go_wp2_with fail
  with_reducible refine (HGd.out w0 HS.out HQ.out).mono ?_
  rintro e w1 ⟨rfl, hb⟩
  replace HT := Lib.hid (HT.out.step hb)
  replace HQ := Lib.hid (HQ.out.step hb)
  replace HS := Lib.hid (HS.out.step hb)
  replace HB := Lib.hid (below_trans HB.out hb)
  clear hb t0 t1 HGd
  go_wp2
  go_ret2
  exact ⟨rfl, HB.out⟩
set_option maxRecDepth 100000 in
set_option maxHeartbeats 8000000 in
theorem shortestRace_spec_yes (A : Option Addr) (c lo hi : Nat) (zs : List Int) (m : Int) (Q : Option Addr) (cq lo2 hi2 : Nat) (qs : List Int) (w : World) (hS : Ins w lo hi A zs) (hQ : Ins w lo2 hi2 Q qs) (hl : zs.length ≤ 1048576) (hn : qs.length ≤ 1048576) (hg : (beginB zs m && choB zs.length qs) = true) :
    Calls Try.prog 27 #[.agg #[.slice A zs.length c, .int .i64 m], .slice Q qs.length cq] w fun e w' => e = .returned (.tuple #[.int .i64 ((raceL m.toNat qs zs).short : Int), .bool true]) ∧ Below w.heap.size w w' := by
  have HGd := Lib.hid (fun W h1 h2 => l11Good_any A c lo hi zs m Q cq lo2 hi2 qs W h1 h2 hl hn)
  rw [hg] at HGd
  rw [Bool.and_eq_true] at hg
  obtain ⟨M, rfl, hs, hd0⟩ := begin_short hg.1
  have hkt := keyTo_lt hs.fit
  have HSH := Lib.hid hs
  have HFc := Lib.hid (fun W h1 h2 => l11Facts_any A c lo hi zs M Q cq lo2 hi2 qs W h1 h2 hs (choB_ok hg.2) (choB_len hg.2).2)
  have HK := Lib.hid (fun W h => l6Key_any A c lo hi zs M W h hs)
  clear hs hd0
  rw [Int.toNat_natCast]
  have HT := Lib.hid (Two.new w (.slice A zs.length c) (.int .i64 (M : Int)) 26 w.heap.size rfl)
  have HB := Lib.hid ((Below.refl w.heap.size w).alloc (Nat.le_refl _) (.cells #[.slice A zs.length c, .int .i64 (M : Int)] 26))
  have HQ := Lib.hid (hQ.step HB.out)
  have HS := Lib.hid (hS.step HB.out)
  clear hS hQ hg
  go_enter Try.func27, Try.ntmps27
  go_wp2_with fail
  generalize w.alloc (.cells #[.slice A zs.length c, .int .i64 (M : Int)] 26) = w0 at HT HB HQ HS ⊢
  have t0 := HT.out.c0
  have t1 := HT.out.c1
  go_wp2_with fail
  with_reducible refine (HGd.out w0 HS.out HQ.out).mono ?_
  rintro e w1 ⟨rfl, hb⟩
  replace HT := Lib.hid (HT.out.step hb)
  replace HQ := Lib.hid (HQ.out.step hb)
  replace HS := Lib.hid (HS.out.step hb)
  replace HB := Lib.hid (below_trans HB.out hb)
  clear hb t0 t1 HGd
  have t0 := HT.out.c0
  have t1 := HT.out.c1
  have hkI : (keyS M zs : Int) < (((M + 2) ^ zs.length : Nat) : Int) := by omega
  clear hkt
  obtain ⟨κ, hκ⟩ : ∃ k, k = keyS M zs := ⟨_, rfl⟩
  have HKE := Lib.hid hκ
  rw [← hκ] at HK hkI
  clear hκ
  obtain ⟨top, htp⟩ : ∃ t, t = (M + 2) ^ zs.length := ⟨_, rfl⟩
  have HTP := Lib.hid htp
  rw [← htp] at HFc hkI
  clear htp
  go_wp2_with fail
  go_region_with (first
     | (go_at_call 66; (with_reducible refine (HK.out v1 (HS.out.step HZ1.out)).mono ?_); rintro e v2 ⟨rfl, hb⟩; have HZ2 := Lib.hid (below_trans HZ1.out hb); have h5 := (HFT.out.step hb).at5 HSH.out rfl; rw [HTK.out, foR_t, ← HKE.out] at h5; have k3 := h5.c3; clear hb h5)
     | (go_at_call 65; (with_reducible refine (HFc.out w1.drew (HS.out.step (Below.refl _ w1).drew) (HQ.out.step (Below.refl _ w1).drew)).mono ?_); rintro e v1 ⟨g, T, rfl, hg, hf, htk, hb⟩; have HZ1 := Lib.hid (below_trans (Below.refl _ w1).drew hb); have HT_1 := Lib.hid (HT.out.step HZ1.out); have t2 := HT_1.out.c0; have t3 := HT_1.out.c1; have HFT := Lib.hid hf; have HTK := Lib.hid htk; clear hb hf htk))
  all_goals
    have HW := Lib.hid (below_trans HB.out HZ2.out)
    go_wp2
    go_ret2
    exact ⟨rfl, HW.out⟩
set_option maxRecDepth 100000 in
set_option maxHeartbeats 8000000 in
theorem countRaces_spec_no (A : Option Addr) (c lo hi : Nat) (zs : List Int) (m : Int) (Q : Option Addr) (cq lo2 hi2 : Nat) (qs : List Int) (w : World) (hS : Ins w lo hi A zs) (hQ : Ins w lo2 hi2 Q qs) (hl : zs.length ≤ 1048576) (hn : qs.length ≤ 1048576) (hg : (beginB zs m && choB zs.length qs) = false) :
    Calls Try.prog 29 #[.agg #[.slice A zs.length c, .int .i64 m], .slice Q qs.length cq] w fun e w' => e = .returned (.tuple #[.int .i64 0, .bool false]) ∧ Below w.heap.size w w' := by
  have HGd := Lib.hid (fun W h1 h2 => l11Good_any A c lo hi zs m Q cq lo2 hi2 qs W h1 h2 hl hn)
  rw [hg] at HGd
  have HT := Lib.hid (Two.new w (.slice A zs.length c) (.int .i64 m) 26 w.heap.size rfl)
  have HB := Lib.hid ((Below.refl w.heap.size w).alloc (Nat.le_refl _) (.cells #[.slice A zs.length c, .int .i64 m] 26))
  have HQ := Lib.hid (hQ.step HB.out)
  have HS := Lib.hid (hS.step HB.out)
  clear hS hQ hg
  go_enter Try.func29, Try.ntmps29
  go_wp2_with fail
  generalize w.alloc (.cells #[.slice A zs.length c, .int .i64 m] 26) = w0 at HT HB HQ HS ⊢
  have t0 := HT.out.c0
  have t1 := HT.out.c1
  go_wp2_with fail
  with_reducible refine (HGd.out w0 HS.out HQ.out).mono ?_
  rintro e w1 ⟨rfl, hb⟩
  replace HT := Lib.hid (HT.out.step hb)
  replace HQ := Lib.hid (HQ.out.step hb)
  replace HS := Lib.hid (HS.out.step hb)
  replace HB := Lib.hid (below_trans HB.out hb)
  clear hb t0 t1 HGd
  go_wp2
  go_ret2
  exact ⟨rfl, HB.out⟩
set_option maxRecDepth 100000 in
set_option maxHeartbeats 8000000 in
theorem countRaces_spec_yes (A : Option Addr) (c lo hi : Nat) (zs : List Int) (m : Int) (Q : Option Addr) (cq lo2 hi2 : Nat) (qs : List Int) (w : World) (hS : Ins w lo hi A zs) (hQ : Ins w lo2 hi2 Q qs) (hl : zs.length ≤ 1048576) (hn : qs.length ≤ 1048576) (hg : (beginB zs m && choB zs.length qs) = true) :
    Calls Try.prog 29 #[.agg #[.slice A zs.length c, .int .i64 m], .slice Q qs.length cq] w fun e w' => e = .returned (.tuple #[.int .i64 ((raceL m.toNat qs zs).many : Int), .bool true]) ∧ Below w.heap.size w w' := by
  have HGd := Lib.hid (fun W h1 h2 => l11Good_any A c lo hi zs m Q cq lo2 hi2 qs W h1 h2 hl hn)
  rw [hg] at HGd
  rw [Bool.and_eq_true] at hg
  obtain ⟨M, rfl, hs, hd0⟩ := begin_short hg.1
  have hkt := keyTo_lt hs.fit
  have HSH := Lib.hid hs
  have HFc := Lib.hid (fun W h1 h2 => l11Facts_any A c lo hi zs M Q cq lo2 hi2 qs W h1 h2 hs (choB_ok hg.2) (choB_len hg.2).2)
  have HK := Lib.hid (fun W h => l6Key_any A c lo hi zs M W h hs)
  clear hs hd0
  rw [Int.toNat_natCast]
  have HT := Lib.hid (Two.new w (.slice A zs.length c) (.int .i64 (M : Int)) 26 w.heap.size rfl)
  have HB := Lib.hid ((Below.refl w.heap.size w).alloc (Nat.le_refl _) (.cells #[.slice A zs.length c, .int .i64 (M : Int)] 26))
  have HQ := Lib.hid (hQ.step HB.out)
  have HS := Lib.hid (hS.step HB.out)
  clear hS hQ hg
  go_enter Try.func29, Try.ntmps29
  go_wp2_with fail
  generalize w.alloc (.cells #[.slice A zs.length c, .int .i64 (M : Int)] 26) = w0 at HT HB HQ HS ⊢
  have t0 := HT.out.c0
  have t1 := HT.out.c1
  go_wp2_with fail
  with_reducible refine (HGd.out w0 HS.out HQ.out).mono ?_
  rintro e w1 ⟨rfl, hb⟩
  replace HT := Lib.hid (HT.out.step hb)
  replace HQ := Lib.hid (HQ.out.step hb)
  replace HS := Lib.hid (HS.out.step hb)
  replace HB := Lib.hid (below_trans HB.out hb)
  clear hb t0 t1 HGd
  have t0 := HT.out.c0
  have t1 := HT.out.c1
  have hkI : (keyS M zs : Int) < (((M + 2) ^ zs.length : Nat) : Int) := by omega
  clear hkt
  obtain ⟨κ, hκ⟩ : ∃ k, k = keyS M zs := ⟨_, rfl⟩
  have HKE := Lib.hid hκ
  rw [← hκ] at HK hkI
  clear hκ
  obtain ⟨top, htp⟩ : ∃ t, t = (M + 2) ^ zs.length := ⟨_, rfl⟩
  have HTP := Lib.hid htp
  rw [← htp] at HFc hkI
  clear htp
  go_wp2_with fail
  go_region_with (first
     | (go_at_call 66; (with_reducible refine (HK.out v1 (HS.out.step HZ1.out)).mono ?_); rintro e v2 ⟨rfl, hb⟩; have HZ2 := Lib.hid (below_trans HZ1.out hb); have h5 := (HFT.out.step hb).at5 HSH.out rfl; rw [HTK.out, foR_t, ← HKE.out] at h5; have k4 := h5.c4; clear hb h5)
     | (go_at_call 65; (with_reducible refine (HFc.out w1.drew (HS.out.step (Below.refl _ w1).drew) (HQ.out.step (Below.refl _ w1).drew)).mono ?_); rintro e v1 ⟨g, T, rfl, hg, hf, htk, hb⟩; have HZ1 := Lib.hid (below_trans (Below.refl _ w1).drew hb); have HT_1 := Lib.hid (HT.out.step HZ1.out); have t2 := HT_1.out.c0; have t3 := HT_1.out.c1; have HFT := Lib.hid hf; have HTK := Lib.hid htk; clear hb hf htk))
  all_goals
    have HW := Lib.hid (below_trans HB.out HZ2.out)
    go_wp2
    go_ret2
    exact ⟨rfl, HW.out⟩
theorem raceWins_both (zs : List Int) (m : Int) (h : zs.length ≤ 1048576) (qs : List Int) (h2 : qs.length ≤ 1048576) : ∃ (r0 : Bool) (r1 : Bool),
    (∀ (w : World) (B : Option Addr) (c lo hi : Nat) (B2 : Option Addr) (c2 lo2 hi2 : Nat), Ins w lo hi B zs → Ins w lo2 hi2 B2 qs → Calls Try.prog 17 #[.agg #[.slice B zs.length c, .int .i64 m], .slice B2 qs.length c2] w fun e w' => e = .returned (.tuple #[.bool r0, .bool r1]) ∧ Below w.heap.size w w') ∧
    (∀ (w : World) (B : Option Addr) (c lo hi : Nat) (B2 : Option Addr) (c2 lo2 hi2 : Nat), Ins w lo hi B zs → Ins w lo2 hi2 B2 qs → Calls Try.prog 18 #[.agg #[.slice B zs.length c, .int .i64 m], .slice B2 qs.length c2] w fun e w' => e = .returned (.tuple #[.bool r0, .bool r1]) ∧ Below w.heap.size w w') := by
  cases hg : (beginB zs m && choB zs.length qs) with
  | false => exact ⟨false, false, fun w B c lo hi B2 c2 lo2 hi2 hS hS2 => raceWins_impl_no B c lo hi zs m B2 c2 lo2 hi2 qs w hS hS2 h h2 hg, fun w B c lo hi B2 c2 lo2 hi2 hS hS2 => raceWins_spec_no B c lo hi zs m B2 c2 lo2 hi2 qs w hS hS2 h h2 hg⟩
  | true => exact ⟨(raceL m.toNat qs zs).wins, true, fun w B c lo hi B2 c2 lo2 hi2 hS hS2 => raceWins_impl_yes B c lo hi zs m B2 c2 lo2 hi2 qs w hS hS2 h h2 hg, fun w B c lo hi B2 c2 lo2 hi2 hS hS2 => raceWins_spec_yes B c lo hi zs m B2 c2 lo2 hi2 qs w hS hS2 h h2 hg⟩

theorem longestRace_both (zs : List Int) (m : Int) (h : zs.length ≤ 1048576) (qs : List Int) (h2 : qs.length ≤ 1048576) : ∃ (r0 : Int) (r1 : Bool),
    (∀ (w : World) (B : Option Addr) (c lo hi : Nat) (B2 : Option Addr) (c2 lo2 hi2 : Nat), Ins w lo hi B zs → Ins w lo2 hi2 B2 qs → Calls Try.prog 24 #[.agg #[.slice B zs.length c, .int .i64 m], .slice B2 qs.length c2] w fun e w' => e = .returned (.tuple #[.int .i64 r0, .bool r1]) ∧ Below w.heap.size w w') ∧
    (∀ (w : World) (B : Option Addr) (c lo hi : Nat) (B2 : Option Addr) (c2 lo2 hi2 : Nat), Ins w lo hi B zs → Ins w lo2 hi2 B2 qs → Calls Try.prog 25 #[.agg #[.slice B zs.length c, .int .i64 m], .slice B2 qs.length c2] w fun e w' => e = .returned (.tuple #[.int .i64 r0, .bool r1]) ∧ Below w.heap.size w w') := by
  cases hg : (beginB zs m && choB zs.length qs) with
  | false => exact ⟨0, false, fun w B c lo hi B2 c2 lo2 hi2 hS hS2 => longestRace_impl_no B c lo hi zs m B2 c2 lo2 hi2 qs w hS hS2 h h2 hg, fun w B c lo hi B2 c2 lo2 hi2 hS hS2 => longestRace_spec_no B c lo hi zs m B2 c2 lo2 hi2 qs w hS hS2 h h2 hg⟩
  | true => exact ⟨((raceL m.toNat qs zs).long : Int), true, fun w B c lo hi B2 c2 lo2 hi2 hS hS2 => longestRace_impl_yes B c lo hi zs m B2 c2 lo2 hi2 qs w hS hS2 h h2 hg, fun w B c lo hi B2 c2 lo2 hi2 hS hS2 => longestRace_spec_yes B c lo hi zs m B2 c2 lo2 hi2 qs w hS hS2 h h2 hg⟩

theorem shortestRace_both (zs : List Int) (m : Int) (h : zs.length ≤ 1048576) (qs : List Int) (h2 : qs.length ≤ 1048576) : ∃ (r0 : Int) (r1 : Bool),
    (∀ (w : World) (B : Option Addr) (c lo hi : Nat) (B2 : Option Addr) (c2 lo2 hi2 : Nat), Ins w lo hi B zs → Ins w lo2 hi2 B2 qs → Calls Try.prog 26 #[.agg #[.slice B zs.length c, .int .i64 m], .slice B2 qs.length c2] w fun e w' => e = .returned (.tuple #[.int .i64 r0, .bool r1]) ∧ Below w.heap.size w w') ∧
    (∀ (w : World) (B : Option Addr) (c lo hi : Nat) (B2 : Option Addr) (c2 lo2 hi2 : Nat), Ins w lo hi B zs → Ins w lo2 hi2 B2 qs → Calls Try.prog 27 #[.agg #[.slice B zs.length c, .int .i64 m], .slice B2 qs.length c2] w fun e w' => e = .returned (.tuple #[.int .i64 r0, .bool r1]) ∧ Below w.heap.size w w') := by
  cases hg : (beginB zs m && choB zs.length qs) with
  | false => exact ⟨0, false, fun w B c lo hi B2 c2 lo2 hi2 hS hS2 => shortestRace_impl_no B c lo hi zs m B2 c2 lo2 hi2 qs w hS hS2 h h2 hg, fun w B c lo hi B2 c2 lo2 hi2 hS hS2 => shortestRace_spec_no B c lo hi zs m B2 c2 lo2 hi2 qs w hS hS2 h h2 hg⟩
  | true => exact ⟨((raceL m.toNat qs zs).short : Int), true, fun w B c lo hi B2 c2 lo2 hi2 hS hS2 => shortestRace_impl_yes B c lo hi zs m B2 c2 lo2 hi2 qs w hS hS2 h h2 hg, fun w B c lo hi B2 c2 lo2 hi2 hS hS2 => shortestRace_spec_yes B c lo hi zs m B2 c2 lo2 hi2 qs w hS hS2 h h2 hg⟩

theorem countRaces_both (zs : List Int) (m : Int) (h : zs.length ≤ 1048576) (qs : List Int) (h2 : qs.length ≤ 1048576) : ∃ (r0 : Int) (r1 : Bool),
    (∀ (w : World) (B : Option Addr) (c lo hi : Nat) (B2 : Option Addr) (c2 lo2 hi2 : Nat), Ins w lo hi B zs → Ins w lo2 hi2 B2 qs → Calls Try.prog 28 #[.agg #[.slice B zs.length c, .int .i64 m], .slice B2 qs.length c2] w fun e w' => e = .returned (.tuple #[.int .i64 r0, .bool r1]) ∧ Below w.heap.size w w') ∧
    (∀ (w : World) (B : Option Addr) (c lo hi : Nat) (B2 : Option Addr) (c2 lo2 hi2 : Nat), Ins w lo hi B zs → Ins w lo2 hi2 B2 qs → Calls Try.prog 29 #[.agg #[.slice B zs.length c, .int .i64 m], .slice B2 qs.length c2] w fun e w' => e = .returned (.tuple #[.int .i64 r0, .bool r1]) ∧ Below w.heap.size w w') := by
  cases hg : (beginB zs m && choB zs.length qs) with
  | false => exact ⟨0, false, fun w B c lo hi B2 c2 lo2 hi2 hS hS2 => countRaces_impl_no B c lo hi zs m B2 c2 lo2 hi2 qs w hS hS2 h h2 hg, fun w B c lo hi B2 c2 lo2 hi2 hS hS2 => countRaces_spec_no B c lo hi zs m B2 c2 lo2 hi2 qs w hS hS2 h h2 hg⟩
  | true => exact ⟨((raceL m.toNat qs zs).many : Int), true, fun w B c lo hi B2 c2 lo2 hi2 hS hS2 => countRaces_impl_yes B c lo hi zs m B2 c2 lo2 hi2 qs w hS hS2 h h2 hg, fun w B c lo hi B2 c2 lo2 hi2 hS hS2 => countRaces_spec_yes B c lo hi zs m B2 c2 lo2 hi2 qs w hS hS2 h h2 hg⟩

end Go.Proofs.Ytopgccficjkenaa
