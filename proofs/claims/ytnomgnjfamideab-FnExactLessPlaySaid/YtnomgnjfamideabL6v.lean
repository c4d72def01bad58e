/- LessPlay: of the program. -/
import Derived.Test.YtnomgnjfamideabL6z
namespace Go.Proofs.Ytnomgnjfamideab
open Go.RowKit Go.ChangeShapes Go.WideShapes Go.Maps
set_option linter.unusedVariables false

set_option maxHeartbeats 1000000 in
theorem lessPlay_no (x lie : Int) (A : Option Addr) (c lo hi : Nat) (zs : List Int) (m : Int) (w : World) (hS : Ins w lo hi A zs) (hn : zs.length ≤ 1048576) (hsh : shortB zs m = false) :
    Calls Try.prog 21 #[.agg #[.slice A zs.length c, .int .i64 m], .int .i64 x, .int .i64 lie] w fun e w' => ∃ B c', e = .returned (.tuple #[.slice B ([] : List (Int × Bool)).length c', .bool false]) ∧ AMade w' w.heap.size w'.heap.size B ([] : List (Int × Bool)) ∧ Below w.heap.size w w' := by
  have HX := Lib.hid (Arg.next (Below.refl w.heap.size w) (.slice A zs.length c) (.int .i64 m) 44 w.heap.size rfl)
  have HI := Lib.hid (hS.step HX.out.below)
  have HH := Lib.hid (fun W h => isShort_any A c lo hi zs m W h hn)
  rw [hsh] at HH
  clear hS hsh
  go_enter Try.func21, Try.ntmps21
  go_wp2_with fail
  generalize w.alloc (.cells #[.slice A zs.length c, .int .i64 m] 44) = w0 at HX HI ⊢
  refine (HH.out w0 HI.out).mono ?_
  rintro e w1 ⟨rfl, hb⟩
  replace HX := Lib.hid (HX.out.step hb)
  clear hb HH HI
  go_wp2
  go_ret2
  exact ⟨_, _, rfl, empty_madeA w1 w.heap.size HX.out.below.size, HX.out.below.alloc HX.out.below.size _⟩
set_option maxHeartbeats 1000000 in
theorem lessPlay_low (x lie : Int) (A : Option Addr) (c lo hi : Nat) (zs : List Int) (m : Int) (w : World) (hS : Ins w lo hi A zs) (hn : zs.length ≤ 1048576) (hsh : shortB zs m = true) (hlo : lie < -1) :
    Calls Try.prog 21 #[.agg #[.slice A zs.length c, .int .i64 m], .int .i64 x, .int .i64 lie] w fun e w' => ∃ B c', e = .returned (.tuple #[.slice B ([] : List (Int × Bool)).length c', .bool false]) ∧ AMade w' w.heap.size w'.heap.size B ([] : List (Int × Bool)) ∧ Below w.heap.size w w' := by
  have HX := Lib.hid (Arg.next (Below.refl w.heap.size w) (.slice A zs.length c) (.int .i64 m) 44 w.heap.size rfl)
  have HI := Lib.hid (hS.step HX.out.below)
  have HH := Lib.hid (fun W h => isShort_any A c lo hi zs m W h hn)
  rw [hsh] at HH
  clear hS hsh
  go_enter Try.func21, Try.ntmps21
  go_wp2_with fail
  generalize w.alloc (.cells #[.slice A zs.length c, .int .i64 m] 44) = w0 at HX HI ⊢
  refine (HH.out w0 HI.out).mono ?_
  rintro e w1 ⟨rfl, hb⟩
  replace HX := Lib.hid (HX.out.step hb)
  clear hb HH HI
  go_wp2
  go_ret2
  exact ⟨_, _, rfl, empty_madeA w1 w.heap.size HX.out.below.size, HX.out.below.alloc HX.out.below.size _⟩
set_option maxRecDepth 100000 in
set_option maxHeartbeats 4000000 in
theorem lessPlay_yes (x lie : Int) (A : Option Addr) (c lo hi : Nat) (zs : List Int) (M : Nat) (w : World) (hS : Ins w lo hi A zs) (hs : Short M zs) (hlo : ¬ lie < -1) (ht : opens (pSt M x lie zs 10) = [x]) (hl2 : lie < ((pL M x lie zs 10).length : Int)) :
    Calls Try.prog 21 #[.agg #[.slice A zs.length c, .int .i64 (M : Int)], .int .i64 x, .int .i64 lie] w fun e w' => ∃ B c', e = .returned (.tuple #[.slice B (pL M x lie zs 10).length c', .bool true]) ∧ AMade w' w.heap.size w'.heap.size B (pL M x lie zs 10) ∧ Below w.heap.size w w' := by
  have HX := Lib.hid (Arg.next (Below.refl w.heap.size w) (.slice A zs.length c) (.int .i64 (M : Int)) 44 w.heap.size rfl)
  have HTw := Lib.hid (Two.new w (.slice A zs.length c) (.int .i64 (M : Int)) 44 w.heap.size rfl)
  have HI := Lib.hid (hS.step HX.out.below)
  have HH := Lib.hid (fun W h => isShort_any A c lo hi zs (M : Int) W h (by have := hs.len; omega))
  rw [shortB_iff.2 ⟨M, rfl, hs⟩] at HH
  have HSH := Lib.hid hs
  have HSn := Lib.hid (pSt_short (x := x) (lie := lie) hs 10)
  have HTO := fun A' c' lo' hi' W h => told_one A' c' lo' hi' (pSt M x lie zs 10) (M : Int) x W h HSn.out.1.valid ht
  rw [HSn.out.2] at HTO
  have HPO := fun W B h1 h2 h3 => playOf_any x lie A c lo hi zs M W B h1 h2 h3 hs
  have HSn2 := HSn.out.2
  clear ht HSn hs
  generalize pSt M x lie zs 10 = E at HTO HPO HSn2
  generalize pL M x lie zs 10 = L at HPO hl2 ⊢
  have HTO := Lib.hid HTO
  have HPO := Lib.hid HPO
  clear hS HSn2
  go_enter Try.func21, Try.ntmps21
  go_wp2_with fail
  generalize w.alloc (.cells #[.slice A zs.length c, .int .i64 (M : Int)] 44) = w0 at HX HI HTw ⊢
  refine (HH.out w0 HI.out).mono ?_
  rintro e w1 ⟨rfl, hb⟩
  replace HX := Lib.hid (HX.out.step hb)
  replace HI := Lib.hid (HI.out.step hb)
  replace HTw := Lib.hid (HTw.out.step hb)
  have hhi := HI.out.top
  have hn1 := HTw.out.lt
  have HB1 := Lib.hid HX.out.below
  have hbm := (Below.refl w1.heap.size w1).alloc (Nat.le_refl _) (.map #[] 0)
  have HPM := Lib.hid (LPlanM.made w1)
  replace HI := Lib.hid (HI.out.step hbm)
  replace HTw := Lib.hid (HTw.out.step hbm)
  replace HB1 := Lib.hid (below_trans HB1.out hbm)
  have x0 := HTw.out.c0
  have x1 := HTw.out.c1
  clear hb hbm HX HH
  have hmk := makeLPlans
  go_wp2_with fail
  generalize w1.alloc (.map #[] 0) = w2 at HI HTw HB1 HPM x0 x1 ⊢
  have hsm := HPM.out.lt
  refine (HPO.out w2 w1.heap.size HPM.out HI.out (.inl hhi)).mono ?_
  rintro e w3 ⟨v, A', c', lo', hi', rfl, hrow, hin, hwi⟩
  have hba := (Below.refl w3.heap.size w3).alloc (Nat.le_refl _) (.cells #[.slice A' zs.length c', .int .i64 (M : Int)] 44)
  have HRow := Lib.hid (pastA hrow (Past.of_below hba))
  have HIn := Lib.hid (hin.step hba)
  have HTn := Lib.hid (Two.new w3 (.slice A' zs.length c') (.int .i64 (M : Int)) 44 w3.heap.size rfl)
  replace HB1 := Lib.hid (below_trans (HB1.out.trans (hwi.below (Nat.le_of_lt hn1) HB1.out.size)) hba)
  have y0 := HTn.out.c0
  have y1 := HTn.out.c1
  have hsz2 := hwi.size
  have hw2 : w.heap.size ≤ w2.heap.size := by omega
  clear hrow hin hwi hba HI HTw HPM x0 x1
  go_wp2_with fail
  generalize w3.alloc (.cells #[.slice A' zs.length c', .int .i64 (M : Int)] 44) = w4 at HRow HIn HTn HB1 y0 y1 ⊢
  refine (HTO.out A' c' lo' hi' w4 HIn.out).mono ?_
  rintro e w5 ⟨rfl, hb⟩
  replace HRow := Lib.hid (pastA HRow.out (Past.of_below hb))
  replace HB1 := Lib.hid (below_trans HB1.out hb)
  obtain ⟨Av, cv, rfl⟩ := ownsRow_sliceA HRow.out
  clear hb HIn HTn y0 y1 HTO
  have hnle : ¬ (L.length : Int) ≤ lie := by omega
  generalize hn : L.length = n at hl2 hnle ⊢
  go_wp2
  go_ret2
  obtain ⟨A9, c9, e9, hm⟩ := own_resA (baseA HRow.out hw2) rfl
  subst hn
  cases e9
  exact ⟨_, _, rfl, hm, HB1.out⟩
set_option maxRecDepth 100000 in
set_option maxHeartbeats 4000000 in
theorem lessPlay_other (x lie : Int) (A : Option Addr) (c lo hi : Nat) (zs : List Int) (M : Nat) (w : World) (hS : Ins w lo hi A zs) (hs : Short M zs) (hlo : ¬ lie < -1) (t : Int) (ht : opens (pSt M x lie zs 10) = [t]) (htx : ¬ t = x) :
    Calls Try.prog 21 #[.agg #[.slice A zs.length c, .int .i64 (M : Int)], .int .i64 x, .int .i64 lie] w fun e w' => ∃ B c', e = .returned (.tuple #[.slice B ([] : List (Int × Bool)).length c', .bool false]) ∧ AMade w' w.heap.size w'.heap.size B ([] : List (Int × Bool)) ∧ Below w.heap.size w w' := by
  have HX := Lib.hid (Arg.next (Below.refl w.heap.size w) (.slice A zs.length c) (.int .i64 (M : Int)) 44 w.heap.size rfl)
  have HTw := Lib.hid (Two.new w (.slice A zs.length c) (.int .i64 (M : Int)) 44 w.heap.size rfl)
  have HI := Lib.hid (hS.step HX.out.below)
  have HH := Lib.hid (fun W h => isShort_any A c lo hi zs (M : Int) W h (by have := hs.len; omega))
  rw [shortB_iff.2 ⟨M, rfl, hs⟩] at HH
  have HSH := Lib.hid hs
  have HSn := Lib.hid (pSt_short (x := x) (lie := lie) hs 10)
  have HTO := fun A' c' lo' hi' W h => told_one A' c' lo' hi' (pSt M x lie zs 10) (M : Int) t W h HSn.out.1.valid ht
  rw [HSn.out.2] at HTO
  have HPO := fun W B h1 h2 h3 => playOf_any x lie A c lo hi zs M W B h1 h2 h3 hs
  have HSn2 := HSn.out.2
  clear ht HSn hs
  generalize pSt M x lie zs 10 = E at HTO HPO HSn2
  generalize pL M x lie zs 10 = L at HPO ⊢
  have HTO := Lib.hid HTO
  have HPO := Lib.hid HPO
  clear hS HSn2
  go_enter Try.func21, Try.ntmps21
  go_wp2_with fail
  generalize w.alloc (.cells #[.slice A zs.length c, .int .i64 (M : Int)] 44) = w0 at HX HI HTw ⊢
  refine (HH.out w0 HI.out).mono ?_
  rintro e w1 ⟨rfl, hb⟩
  replace HX := Lib.hid (HX.out.step hb)
  replace HI := Lib.hid (HI.out.step hb)
  replace HTw := Lib.hid (HTw.out.step hb)
  have hhi := HI.out.top
  have hn1 := HTw.out.lt
  have HB1 := Lib.hid HX.out.below
  have hbm := (Below.refl w1.heap.size w1).alloc (Nat.le_refl _) (.map #[] 0)
  have HPM := Lib.hid (LPlanM.made w1)
  replace HI := Lib.hid (HI.out.step hbm)
  replace HTw := Lib.hid (HTw.out.step hbm)
  replace HB1 := Lib.hid (below_trans HB1.out hbm)
  have x0 := HTw.out.c0
  have x1 := HTw.out.c1
  clear hb hbm HX HH
  have hmk := makeLPlans
  go_wp2_with fail
  generalize w1.alloc (.map #[] 0) = w2 at HI HTw HB1 HPM x0 x1 ⊢
  have hsm := HPM.out.lt
  refine (HPO.out w2 w1.heap.size HPM.out HI.out (.inl hhi)).mono ?_
  rintro e w3 ⟨v, A', c', lo', hi', rfl, hrow, hin, hwi⟩
  have hba := (Below.refl w3.heap.size w3).alloc (Nat.le_refl _) (.cells #[.slice A' zs.length c', .int .i64 (M : Int)] 44)
  have HRow := Lib.hid (pastA hrow (Past.of_below hba))
  have HIn := Lib.hid (hin.step hba)
  have HTn := Lib.hid (Two.new w3 (.slice A' zs.length c') (.int .i64 (M : Int)) 44 w3.heap.size rfl)
  replace HB1 := Lib.hid (below_trans (HB1.out.trans (hwi.below (Nat.le_of_lt hn1) HB1.out.size)) hba)
  have y0 := HTn.out.c0
  have y1 := HTn.out.c1
  have hsz2 := hwi.size
  have hw2 : w.heap.size ≤ w2.heap.size := by omega
  clear hrow hin hwi hba HI HTw HPM x0 x1
  go_wp2_with fail
  generalize w3.alloc (.cells #[.slice A' zs.length c', .int .i64 (M : Int)] 44) = w4 at HRow HIn HTn HB1 y0 y1 ⊢
  refine (HTO.out A' c' lo' hi' w4 HIn.out).mono ?_
  rintro e w5 ⟨rfl, hb⟩
  replace HRow := Lib.hid (pastA HRow.out (Past.of_below hb))
  replace HB1 := Lib.hid (below_trans HB1.out hb)
  obtain ⟨Av, cv, rfl⟩ := ownsRow_sliceA HRow.out
  clear hb HIn HTn y0 y1 HTO
  go_wp2
  go_ret2
  exact ⟨_, _, rfl, empty_madeA w5 w.heap.size HB1.out.size, HB1.out.alloc HB1.out.size _⟩
set_option maxRecDepth 100000 in
set_option maxHeartbeats 4000000 in
theorem lessPlay_none (x lie : Int) (A : Option Addr) (c lo hi : Nat) (zs : List Int) (M : Nat) (w : World) (hS : Ins w lo hi A zs) (hs : Short M zs) (hlo : ¬ lie < -1) (ht : (opens (pSt M x lie zs 10)).length ≠ 1) :
    Calls Try.prog 21 #[.agg #[.slice A zs.length c, .int .i64 (M : Int)], .int .i64 x, .int .i64 lie] w fun e w' => ∃ B c', e = .returned (.tuple #[.slice B ([] : List (Int × Bool)).length c', .bool false]) ∧ AMade w' w.heap.size w'.heap.size B ([] : List (Int × Bool)) ∧ Below w.heap.size w w' := by
  have HX := Lib.hid (Arg.next (Below.refl w.heap.size w) (.slice A zs.length c) (.int .i64 (M : Int)) 44 w.heap.size rfl)
  have HTw := Lib.hid (Two.new w (.slice A zs.length c) (.int .i64 (M : Int)) 44 w.heap.size rfl)
  have HI := Lib.hid (hS.step HX.out.below)
  have HH := Lib.hid (fun W h => isShort_any A c lo hi zs (M : Int) W h (by have := hs.len; omega))
  rw [shortB_iff.2 ⟨M, rfl, hs⟩] at HH
  have HSH := Lib.hid hs
  have HSn := Lib.hid (pSt_short (x := x) (lie := lie) hs 10)
  have HTO := fun A' c' lo' hi' W h => told_none A' c' lo' hi' (pSt M x lie zs 10) (M : Int) W h HSn.out.1.valid ht
  rw [HSn.out.2] at HTO
  have HPO := fun W B h1 h2 h3 => playOf_any x lie A c lo hi zs M W B h1 h2 h3 hs
  have HSn2 := HSn.out.2
  clear ht HSn hs
  generalize pSt M x lie zs 10 = E at HTO HPO HSn2
  generalize pL M x lie zs 10 = L at HPO ⊢
  have HTO := Lib.hid HTO
  have HPO := Lib.hid HPO
  clear hS HSn2
  go_enter Try.func21, Try.ntmps21
  go_wp2_with fail
  generalize w.alloc (.cells #[.slice A zs.length c, .int .i64 (M : Int)] 44) = w0 at HX HI HTw ⊢
  refine (HH.out w0 HI.out).mono ?_
  rintro e w1 ⟨rfl, hb⟩
  replace HX := Lib.hid (HX.out.step hb)
  replace HI := Lib.hid (HI.out.step hb)
  replace HTw := Lib.hid (HTw.out.step hb)
  have hhi := HI.out.top
  have hn1 := HTw.out.lt
  have HB1 := Lib.hid HX.out.below
  have hbm := (Below.refl w1.heap.size w1).alloc (Nat.le_refl _) (.map #[] 0)
  have HPM := Lib.hid (LPlanM.made w1)
  replace HI := Lib.hid (HI.out.step hbm)
  replace HTw := Lib.hid (HTw.out.step hbm)
  replace HB1 := Lib.hid (below_trans HB1.out hbm)
  have x0 := HTw.out.c0
  have x1 := HTw.out.c1
  clear hb hbm HX HH
  have hmk := makeLPlans
  go_wp2_with fail
  generalize w1.alloc (.map #[] 0) = w2 at HI HTw HB1 HPM x0 x1 ⊢
  have hsm := HPM.out.lt
  refine (HPO.out w2 w1.heap.size HPM.out HI.out (.inl hhi)).mono ?_
  rintro e w3 ⟨v, A', c', lo', hi', rfl, hrow, hin, hwi⟩
  have hba := (Below.refl w3.heap.size w3).alloc (Nat.le_refl _) (.cells #[.slice A' zs.length c', .int .i64 (M : Int)] 44)
  have HRow := Lib.hid (pastA hrow (Past.of_below hba))
  have HIn := Lib.hid (hin.step hba)
  have HTn := Lib.hid (Two.new w3 (.slice A' zs.length c') (.int .i64 (M : Int)) 44 w3.heap.size rfl)
  replace HB1 := Lib.hid (below_trans (HB1.out.trans (hwi.below (Nat.le_of_lt hn1) HB1.out.size)) hba)
  have y0 := HTn.out.c0
  have y1 := HTn.out.c1
  have hsz2 := hwi.size
  have hw2 : w.heap.size ≤ w2.heap.size := by omega
  clear hrow hin hwi hba HI HTw HPM x0 x1
  go_wp2_with fail
  generalize w3.alloc (.cells #[.slice A' zs.length c', .int .i64 (M : Int)] 44) = w4 at HRow HIn HTn HB1 y0 y1 ⊢
  refine (HTO.out A' c' lo' hi' w4 HIn.out).mono ?_
  rintro e w5 ⟨rfl, hb⟩
  replace HRow := Lib.hid (pastA HRow.out (Past.of_below hb))
  replace HB1 := Lib.hid (below_trans HB1.out hb)
  obtain ⟨Av, cv, rfl⟩ := ownsRow_sliceA HRow.out
  clear hb HIn HTn y0 y1 HTO
  go_wp2
  go_ret2
  exact ⟨_, _, rfl, empty_madeA w5 w.heap.size HB1.out.size, HB1.out.alloc HB1.out.size _⟩
set_option maxRecDepth 100000 in
set_option maxHeartbeats 4000000 in
theorem lessPlay_past (x lie : Int) (A : Option Addr) (c lo hi : Nat) (zs : List Int) (M : Nat) (w : World) (hS : Ins w lo hi A zs) (hs : Short M zs) (hlo : ¬ lie < -1) (ht : opens (pSt M x lie zs 10) = [x]) (hl2 : ((pL M x lie zs 10).length : Int) ≤ lie) :
    Calls Try.prog 21 #[.agg #[.slice A zs.length c, .int .i64 (M : Int)], .int .i64 x, .int .i64 lie] w fun e w' => ∃ B c', e = .returned (.tuple #[.slice B ([] : List (Int × Bool)).length c', .bool false]) ∧ AMade w' w.heap.size w'.heap.size B ([] : List (Int × Bool)) ∧ Below w.heap.size w w' := by
  have HX := Lib.hid (Arg.next (Below.refl w.heap.size w) (.slice A zs.length c) (.int .i64 (M : Int)) 44 w.heap.size rfl)
  have HTw := Lib.hid (Two.new w (.slice A zs.length c) (.int .i64 (M : Int)) 44 w.heap.size rfl)
  have HI := Lib.hid (hS.step HX.out.below)
  have HH := Lib.hid (fun W h => isShort_any A c lo hi zs (M : Int) W h (by have := hs.len; omega))
  rw [shortB_iff.2 ⟨M, rfl, hs⟩] at HH
  have HSH := Lib.hid hs
  have HSn := Lib.hid (pSt_short (x := x) (lie := lie) hs 10)
  have HTO := fun A' c' lo' hi' W h => told_one A' c' lo' hi' (pSt M x lie zs 10) (M : Int) x W h HSn.out.1.valid ht
  rw [HSn.out.2] at HTO
  have HPO := fun W B h1 h2 h3 => playOf_any x lie A c lo hi zs M W B h1 h2 h3 hs
  have HSn2 := HSn.out.2
  clear ht HSn hs
  generalize pSt M x lie zs 10 = E at HTO HPO HSn2
  generalize pL M x lie zs 10 = L at HPO hl2 ⊢
  have HTO := Lib.hid HTO
  have HPO := Lib.hid HPO
  clear hS HSn2
  go_enter Try.func21, Try.ntmps21
  go_wp2_with fail
  generalize w.alloc (.cells #[.slice A zs.length c, .int .i64 (M : Int)] 44) = w0 at HX HI HTw ⊢
  refine (HH.out w0 HI.out).mono ?_
  rintro e w1 ⟨rfl, hb⟩
  replace HX := Lib.hid (HX.out.step hb)
  replace HI := Lib.hid (HI.out.step hb)
  replace HTw := Lib.hid (HTw.out.step hb)
  have hhi := HI.out.top
  have hn1 := HTw.out.lt
  have HB1 := Lib.hid HX.out.below
  have hbm := (Below.refl w1.heap.size w1).alloc (Nat.le_refl _) (.map #[] 0)
  have HPM := Lib.hid (LPlanM.made w1)
  replace HI := Lib.hid (HI.out.step hbm)
  replace HTw := Lib.hid (HTw.out.step hbm)
  replace HB1 := Lib.hid (below_trans HB1.out hbm)
  have x0 := HTw.out.c0
  have x1 := HTw.out.c1
  clear hb hbm HX HH
  have hmk := makeLPlans
  go_wp2_with fail
  generalize w1.alloc (.map #[] 0) = w2 at HI HTw HB1 HPM x0 x1 ⊢
  have hsm := HPM.out.lt
  refine (HPO.out w2 w1.heap.size HPM.out HI.out (.inl hhi)).mono ?_
  rintro e w3 ⟨v, A', c', lo', hi', rfl, hrow, hin, hwi⟩
  have hba := (Below.refl w3.heap.size w3).alloc (Nat.le_refl _) (.cells #[.slice A' zs.length c', .int .i64 (M : Int)] 44)
  have HRow := Lib.hid (pastA hrow (Past.of_below hba))
  have HIn := Lib.hid (hin.step hba)
  have HTn := Lib.hid (Two.new w3 (.slice A' zs.length c') (.int .i64 (M : Int)) 44 w3.heap.size rfl)
  replace HB1 := Lib.hid (below_trans (HB1.out.trans (hwi.below (Nat.le_of_lt hn1) HB1.out.size)) hba)
  have y0 := HTn.out.c0
  have y1 := HTn.out.c1
  have hsz2 := hwi.size
  have hw2 : w.heap.size ≤ w2.heap.size := by omega
  clear hrow hin hwi hba HI HTw HPM x0 x1
  go_wp2_with fail
  generalize w3.alloc (.cells #[.slice A' zs.length c', .int .i64 (M : Int)] 44) = w4 at HRow HIn HTn HB1 y0 y1 ⊢
  refine (HTO.out A' c' lo' hi' w4 HIn.out).mono ?_
  rintro e w5 ⟨rfl, hb⟩
  replace HRow := Lib.hid (pastA HRow.out (Past.of_below hb))
  replace HB1 := Lib.hid (below_trans HB1.out hb)
  obtain ⟨Av, cv, rfl⟩ := ownsRow_sliceA HRow.out
  clear hb HIn HTn y0 y1 HTO
  go_wp2
  go_ret2
  exact ⟨_, _, rfl, empty_madeA w5 w.heap.size HB1.out.size, HB1.out.alloc HB1.out.size _⟩
end Go.Proofs.Ytnomgnjfamideab
