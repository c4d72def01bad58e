/- LessNeed, BestLess, NeedOfLess: both. -/
import Derived.Test.YtichjhahnahaoaaL6j
import Derived.Test.YtichjhahnahaoaaL6q
namespace Go.Proofs.Ytichjhahnahaoaa
open Go.RowKit Go.ChangeShapes Go.WideShapes Go.Maps
set_option linter.unusedVariables false

theorem needs_cell {w : World} {g M : Nat} {zs : List Int} (h : Own w g (g + 1) (some ⟨g, 0, none⟩) (needsL M zs.length)) (hs : Short M zs) : w.cell? ⟨g, keyS M zs, none⟩ = some (.int .i64 (needL M zs : Int)) := by
  have hk : keyS M zs < (needsL M zs.length).length := by rw [needsL_len]; exact keyTo_lt hs.fit
  have := own_cell h hk
  rw [show (needsL M zs.length).getD (keyS M zs) 0 = (needL M zs : Int) from by
    have h2 := needsL_at hs hk
    simp only [List.getD, List.getElem?_eq_getElem hk, Option.getD_some]
    exact h2] at this
  exact this
theorem shortB_long {zs : List Int} {m : Int} (h : 5 < zs.length) : shortB zs m = false := shortB_l (by omega)

set_option maxRecDepth 100000 in
set_option maxHeartbeats 4000000 in
theorem lessNeed_no (A : Option Addr) (c lo hi : Nat) (zs : List Int) (m : Int) (w : World) (hS : Ins w lo hi A zs) (hn : zs.length ≤ 1048576) (hsh : shortB zs m = false) :
    Calls Try.prog 19 #[.agg #[.slice A zs.length c, .int .i64 m]] w fun e w' => e = .returned (.tuple #[.int .i64 0, .bool false]) ∧ Below w.heap.size w w' := by
  have HX := Lib.hid (Arg.next (Below.refl w.heap.size w) (.slice A zs.length c) (.int .i64 m) 30 w.heap.size rfl)
  have HI := Lib.hid (hS.step HX.out.below)
  have HH := Lib.hid (fun W h => isShort_any A c lo hi zs m W h hn)
  rw [hsh] at HH
  clear hS
  go_enter Try.func19, Try.ntmps19
  go_wp2_with fail
  generalize w.alloc (.cells #[.slice A zs.length c, .int .i64 m] 30) = w0 at HX HI ⊢
  have h0 := HX.out.c0
  have h1 := HX.out.c1
  refine (HH.out w0 HI.out).mono ?_
  rintro e w1 ⟨rfl, hb⟩
  replace HX := Lib.hid (HX.out.step hb)
  replace HI := Lib.hid (HI.out.step hb)
  replace h0 := HX.out.c0
  replace h1 := HX.out.c1
  clear hb
  go_wp2
  go_ret2
  exact ⟨rfl, HX.out.below⟩
set_option maxRecDepth 100000 in
set_option maxHeartbeats 4000000 in
theorem lessNeedS_no (A : Option Addr) (c lo hi : Nat) (zs : List Int) (m : Int) (w : World) (hS : Ins w lo hi A zs) (hn : zs.length ≤ 1048576) (hsh : shortB zs m = false) :
    Calls Try.prog 17 #[.agg #[.slice A zs.length c, .int .i64 m]] w fun e w' => e = .returned (.tuple #[.int .i64 0, .bool false]) ∧ Below w.heap.size w w' := by
  have HX := Lib.hid (Arg.next (Below.refl w.heap.size w) (.slice A zs.length c) (.int .i64 m) 30 w.heap.size rfl)
  have HI := Lib.hid (hS.step HX.out.below)
  have HH := Lib.hid (fun W h => l6Short_any A c lo hi zs m W h hn)
  rw [hsh] at HH
  clear hS
  go_enter Try.func17, Try.ntmps17
  go_wp2_with fail
  generalize w.alloc (.cells #[.slice A zs.length c, .int .i64 m] 30) = w0 at HX HI ⊢
  have h0 := HX.out.c0
  have h1 := HX.out.c1
  refine (HH.out w0 HI.out).mono ?_
  rintro e w1 ⟨rfl, hb⟩
  replace HX := Lib.hid (HX.out.step hb)
  replace HI := Lib.hid (HI.out.step hb)
  replace h0 := HX.out.c0
  replace h1 := HX.out.c1
  clear hb
  go_wp2
  go_ret2
  exact ⟨rfl, HX.out.below⟩
set_option maxRecDepth 100000 in
set_option maxHeartbeats 4000000 in
theorem bestLess_no (A : Option Addr) (c lo hi : Nat) (zs : List Int) (m : Int) (w : World) (hS : Ins w lo hi A zs) (hn : zs.length ≤ 1048576) (hsh : shortB zs m = false) :
    Calls Try.prog 22 #[.agg #[.slice A zs.length c, .int .i64 m]] w fun e w' => e = .returned (.tuple #[.int .i64 0, .bool false]) ∧ Below w.heap.size w w' := by
  have HX := Lib.hid (Arg.next (Below.refl w.heap.size w) (.slice A zs.length c) (.int .i64 m) 30 w.heap.size rfl)
  have HI := Lib.hid (hS.step HX.out.below)
  have HH := Lib.hid (fun W h => isShort_any A c lo hi zs m W h hn)
  rw [hsh] at HH
  clear hS
  go_enter Try.func22, Try.ntmps22
  go_wp2_with fail
  generalize w.alloc (.cells #[.slice A zs.length c, .int .i64 m] 30) = w0 at HX HI ⊢
  have h0 := HX.out.c0
  have h1 := HX.out.c1
  refine (HH.out w0 HI.out).mono ?_
  rintro e w1 ⟨rfl, hb⟩
  replace HX := Lib.hid (HX.out.step hb)
  replace HI := Lib.hid (HI.out.step hb)
  replace h0 := HX.out.c0
  replace h1 := HX.out.c1
  clear hb
  go_wp2
  go_ret2
  exact ⟨rfl, HX.out.below⟩
set_option maxRecDepth 100000 in
set_option maxHeartbeats 4000000 in
theorem bestLessS_no (A : Option Addr) (c lo hi : Nat) (zs : List Int) (m : Int) (w : World) (hS : Ins w lo hi A zs) (hn : zs.length ≤ 1048576) (hsh : shortB zs m = false) :
    Calls Try.prog 21 #[.agg #[.slice A zs.length c, .int .i64 m]] w fun e w' => e = .returned (.tuple #[.int .i64 0, .bool false]) ∧ Below w.heap.size w w' := by
  have HX := Lib.hid (Arg.next (Below.refl w.heap.size w) (.slice A zs.length c) (.int .i64 m) 30 w.heap.size rfl)
  have HI := Lib.hid (hS.step HX.out.below)
  have HH := Lib.hid (fun W h => l6Short_any A c lo hi zs m W h hn)
  rw [hsh] at HH
  clear hS
  go_enter Try.func21, Try.ntmps21
  go_wp2_with fail
  generalize w.alloc (.cells #[.slice A zs.length c, .int .i64 m] 30) = w0 at HX HI ⊢
  have h0 := HX.out.c0
  have h1 := HX.out.c1
  refine (HH.out w0 HI.out).mono ?_
  rintro e w1 ⟨rfl, hb⟩
  replace HX := Lib.hid (HX.out.step hb)
  replace HI := Lib.hid (HI.out.step hb)
  replace h0 := HX.out.c0
  replace h1 := HX.out.c1
  clear hb
  go_wp2
  go_ret2
  exact ⟨rfl, HX.out.below⟩
set_option maxRecDepth 100000 in
set_option maxHeartbeats 4000000 in
theorem lessNeed_yes (A : Option Addr) (c lo hi : Nat) (zs : List Int) (M : Nat) (w : World) (hS : Ins w lo hi A zs) (hs : Short M zs) :
    Calls Try.prog 19 #[.agg #[.slice A zs.length c, .int .i64 (M : Int)]] w fun e w' => e = .returned (.tuple #[.int .i64 (needL M zs : Int), .bool true]) ∧ Below w.heap.size w w' := by
  have HX := Lib.hid (Arg.next (Below.refl w.heap.size w) (.slice A zs.length c) (.int .i64 (M : Int)) 30 w.heap.size rfl)
  have HI := Lib.hid (hS.step HX.out.below)
  have HH := Lib.hid (fun W h => isShort_any A c lo hi zs (M : Int) W h (by have := hs.len; omega))
  rw [shortB_iff.2 ⟨M, rfl, hs⟩] at HH
  have HN := Lib.hid (need_plan hs)
  have HSH := Lib.hid hs
  have hfd := field_lp
  clear hs
  clear hS
  go_enter Try.func19, Try.ntmps19
  go_wp2_with fail
  generalize w.alloc (.cells #[.slice A zs.length c, .int .i64 (M : Int)] 30) = w0 at HX HI ⊢
  have h0 := HX.out.c0
  have h1 := HX.out.c1
  refine (HH.out w0 HI.out).mono ?_
  rintro e w1 ⟨rfl, hb⟩
  replace HX := Lib.hid (HX.out.step hb)
  replace HI := Lib.hid (HI.out.step hb)
  replace h0 := HX.out.c0
  replace h1 := HX.out.c1
  clear hb
  have HX1l := HX.out.hi
  have hbm := (Below.refl w1.heap.size w1).alloc (Nat.le_refl _) (.map #[] 0)
  have HPM := Lib.hid (LPlanM.made w1)
  have hhi := HI.out.top
  replace HX := Lib.hid (HX.out.step hbm)
  replace HI := Lib.hid (HI.out.step hbm)
  replace h0 := HX.out.c0
  replace h1 := HX.out.c1
  clear hbm
  have hmk := makeLPlans
  have HXl : Hid (w.heap.size < w1.heap.size) := Lib.hid HX1l
  go_wp2_with fail
  generalize w1.alloc (.map #[] 0) = w2 at HX HI h0 h1 HPM ⊢
  refine (planOf6_any M zs HSH.out A c lo hi w2 w1.heap.size HPM.out HI.out (.inl hhi)).mono ?_
  rintro e w3 ⟨rfl, hpm, hw⟩
  have HB := Lib.hid (HX.out.below.trans (hw.below (Nat.le_of_lt HXl.out) HX.out.below.size))
  clear hpm hw
  unfold lpV
  generalize planS M zs = p at HN ⊢
  go_wp2
  go_ret2
  exact ⟨by rw [← HN.out]; rfl, HB.out⟩
set_option maxRecDepth 100000 in
set_option maxHeartbeats 8000000 in
theorem lessNeedS_yes (A : Option Addr) (c lo hi : Nat) (zs : List Int) (M : Nat) (w : World) (hS : Ins w lo hi A zs) (hs : Short M zs) :
    Calls Try.prog 17 #[.agg #[.slice A zs.length c, .int .i64 (M : Int)]] w fun e w' => e = .returned (.tuple #[.int .i64 (needL M zs : Int), .bool true]) ∧ Below w.heap.size w w' := by
  have HX := Lib.hid (Arg.next (Below.refl w.heap.size w) (.slice A zs.length c) (.int .i64 (M : Int)) 30 w.heap.size rfl)
  have HI := Lib.hid (hS.step HX.out.below)
  have HH := Lib.hid (fun W h => l6Short_any A c lo hi zs (M : Int) W h (by have := hs.len; omega))
  rw [shortB_iff.2 ⟨M, rfl, hs⟩] at HH
  have HSH := Lib.hid hs
  have HND := Lib.hid (fun W => l6Needs_any zs.length M W hs.m hs.pos hs.len)
  have HKY := Lib.hid (fun W h => l6Key_any A c lo hi zs M W h hs)
  have hky := keyTo_lt hs.fit
  have hpw := pow_top hs.m hs.pos hs.len
  clear hs
  clear hS
  go_enter Try.func17, Try.ntmps17
  go_wp2_with fail
  generalize w.alloc (.cells #[.slice A zs.length c, .int .i64 (M : Int)] 30) = w0 at HX HI ⊢
  have h0 := HX.out.c0
  have h1 := HX.out.c1
  refine (HH.out w0 HI.out).mono ?_
  rintro e w1 ⟨rfl, hb⟩
  replace HX := Lib.hid (HX.out.step hb)
  replace HI := Lib.hid (HI.out.step hb)
  replace h0 := HX.out.c0
  replace h1 := HX.out.c1
  clear hb
  clear HH
  have HTp : Hid ((M + 2) ^ zs.length = (M + 2) ^ zs.length) := Lib.hid rfl
  have HNC := Lib.hid (fun w g h => needs_cell (w := w) (g := g) h HSH.out)
  have hkyI : ((keyS M zs : Nat) : Int) < (((M + 2) ^ zs.length : Nat) : Int) := by omega
  generalize (M + 2) ^ zs.length = top at hky hpw HND hkyI
  generalize keyS M zs = ky at HKY hky hkyI HNC
  clear HTp
  generalize hnl : needL M zs = nl at HNC
  have HNE := Lib.hid hnl
  clear hnl
  go_wp2_with fail
  go_region_with (first
    | (go_at_call 60; refine (HKY.out _ (HI.out.step HZ1.out)).mono ?_; rintro e v2 ⟨rfl, hb⟩; have HZ2 := Lib.hid (below_trans HZ1.out hb); have HN2 := Lib.hid (own_same HN1.out (hb.block _ (own_lt HN1.out))); have hcy := HNC.out _ _ HN2.out; clear hb)
    | (go_at_call 59; refine (HND.out _).mono ?_; rintro e v1 ⟨g, cg, rfl, hg, ho, hb⟩; have HZ1 := Lib.hid (below_trans (Below.refl _ w1).drew hb); have HN1 := Lib.hid ho; have k0 := (HX.out.step HZ1.out).c0; have k1 := (HX.out.step HZ1.out).c1; clear ho hb))
  all_goals
    go_wp2
    go_ret2
    exact ⟨by rw [HNE.out]; rfl, below_trans HX.out.below HZ2.out⟩
set_option maxRecDepth 100000 in
set_option maxHeartbeats 4000000 in
theorem bestLess_yes (A : Option Addr) (c lo hi : Nat) (zs : List Int) (M : Nat) (w : World) (hS : Ins w lo hi A zs) (hs : Short M zs) :
    Calls Try.prog 22 #[.agg #[.slice A zs.length c, .int .i64 (M : Int)]] w fun e w' => e = .returned (.tuple #[.int .i64 ((planS M zs).2 : Int), .bool (!doneL zs)]) ∧ Below w.heap.size w w' := by
  have HX := Lib.hid (Arg.next (Below.refl w.heap.size w) (.slice A zs.length c) (.int .i64 (M : Int)) 30 w.heap.size rfl)
  have HI := Lib.hid (hS.step HX.out.below)
  have HH := Lib.hid (fun W h => isShort_any A c lo hi zs (M : Int) W h (by have := hs.len; omega))
  rw [shortB_iff.2 ⟨M, rfl, hs⟩] at HH
  have HD : Hid ((decide (((planS M zs).1 : Int) = 0) && decide (((planS M zs).2 : Int) = 0)) = doneL zs) := Lib.hid (by
      rcases done_iff hs with ⟨h, _, h2⟩ | ⟨h, h1, _, h3, h4⟩
      · rw [h, h2]; rfl
      · rw [h, need_plan hs, decide_eq_false (by omega)]; rfl)
  have HSH := Lib.hid hs
  clear hs
  clear hS
  go_enter Try.func22, Try.ntmps22
  go_wp2_with fail
  generalize w.alloc (.cells #[.slice A zs.length c, .int .i64 (M : Int)] 30) = w0 at HX HI ⊢
  have h0 := HX.out.c0
  have h1 := HX.out.c1
  refine (HH.out w0 HI.out).mono ?_
  rintro e w1 ⟨rfl, hb⟩
  replace HX := Lib.hid (HX.out.step hb)
  replace HI := Lib.hid (HI.out.step hb)
  replace h0 := HX.out.c0
  replace h1 := HX.out.c1
  clear hb
  have HX1l := HX.out.hi
  have hbm := (Below.refl w1.heap.size w1).alloc (Nat.le_refl _) (.map #[] 0)
  have HPM := Lib.hid (LPlanM.made w1)
  have hhi := HI.out.top
  replace HX := Lib.hid (HX.out.step hbm)
  replace HI := Lib.hid (HI.out.step hbm)
  replace h0 := HX.out.c0
  replace h1 := HX.out.c1
  clear hbm
  have hmk := makeLPlans
  have HXl : Hid (w.heap.size < w1.heap.size) := Lib.hid HX1l
  go_wp2_with fail
  generalize w1.alloc (.map #[] 0) = w2 at HX HI h0 h1 HPM ⊢
  refine (planOf6_any M zs HSH.out A c lo hi w2 w1.heap.size HPM.out HI.out (.inl hhi)).mono ?_
  rintro e w3 ⟨rfl, hpm, hw⟩
  have HB := Lib.hid (HX.out.below.trans (hw.below (Nat.le_of_lt HXl.out) HX.out.below.size))
  clear hpm hw
  unfold lpV
  generalize hp : planS M zs = p at HD ⊢
  generalize hdd : doneL zs = d at HD ⊢
  have HPE := Lib.hid hp
  have HDE := Lib.hid hdd
  clear hp hdd
  obtain ⟨a, b⟩ := p
  simp only at HD ⊢
  have heq := eq_lp (a : Int) (b : Int)
  simp only [HD.out] at heq
  have T4 := Two.new w3 (.int .i64 (a : Int)) (.int .i64 (b : Int)) 71 w3.heap.size rfl
  have q0 := T4.c0
  have q1 := T4.c1
  replace HB := Lib.hid (HB.out.alloc HB.out.size (.cells #[.int .i64 (a : Int), .int .i64 (b : Int)] 71))
  clear T4
  go_wp2_with fail
  generalize w3.alloc (.cells #[.int .i64 (a : Int), .int .i64 (b : Int)] 71) = w4 at HB q0 q1 ⊢
  go_quiet (fail)
  go_wp2
  go_ret2
  exact ⟨by rw [HPE.out, HDE.out]; rfl, below_drewN HB.out _⟩
set_option maxRecDepth 100000 in
set_option maxHeartbeats 4000000 in
theorem bestLessS_done (A : Option Addr) (c lo hi : Nat) (zs : List Int) (M : Nat) (w : World) (hS : Ins w lo hi A zs) (hs : Short M zs) (hd : doneL zs = true) :
    Calls Try.prog 21 #[.agg #[.slice A zs.length c, .int .i64 (M : Int)]] w fun e w' => e = .returned (.tuple #[.int .i64 0, .bool false]) ∧ Below w.heap.size w w' := by
  have HX := Lib.hid (Arg.next (Below.refl w.heap.size w) (.slice A zs.length c) (.int .i64 (M : Int)) 30 w.heap.size rfl)
  have HI := Lib.hid (hS.step HX.out.below)
  have HH := Lib.hid (fun W h => l6Short_any A c lo hi zs (M : Int) W h (by have := hs.len; omega))
  rw [shortB_iff.2 ⟨M, rfl, hs⟩] at HH
  have HDn := Lib.hid (fun W h => l6Done_any A c lo hi zs (M : Int) W h (by have := hs.len; omega))
  rw [hd] at HDn
  clear hs hd
  clear hS
  go_enter Try.func21, Try.ntmps21
  go_wp2_with fail
  generalize w.alloc (.cells #[.slice A zs.length c, .int .i64 (M : Int)] 30) = w0 at HX HI ⊢
  have h0 := HX.out.c0
  have h1 := HX.out.c1
  refine (HH.out w0 HI.out).mono ?_
  rintro e w1 ⟨rfl, hb⟩
  replace HX := Lib.hid (HX.out.step hb)
  replace HI := Lib.hid (HI.out.step hb)
  replace h0 := HX.out.c0
  replace h1 := HX.out.c1
  clear hb
  go_wp2_with fail
  refine (HDn.out w1 HI.out).mono ?_
  rintro e w2 ⟨rfl, hb⟩
  replace HX := Lib.hid (HX.out.step hb)
  replace HI := Lib.hid (HI.out.step hb)
  replace h0 := HX.out.c0
  replace h1 := HX.out.c1
  clear hb
  go_wp2
  go_ret2
  exact ⟨rfl, HX.out.below⟩
set_option maxRecDepth 100000 in
set_option maxHeartbeats 8000000 in
theorem bestLessS_yes (A : Option Addr) (c lo hi : Nat) (zs : List Int) (M : Nat) (w : World) (hS : Ins w lo hi A zs) (hs : Short M zs) (hd : doneL zs = false) :
    Calls Try.prog 21 #[.agg #[.slice A zs.length c, .int .i64 (M : Int)]] w fun e w' => e = .returned (.tuple #[.int .i64 ((planS M zs).2 : Int), .bool true]) ∧ Below w.heap.size w w' := by
  have HX := Lib.hid (Arg.next (Below.refl w.heap.size w) (.slice A zs.length c) (.int .i64 (M : Int)) 30 w.heap.size rfl)
  have HI := Lib.hid (hS.step HX.out.below)
  have HH := Lib.hid (fun W h => l6Short_any A c lo hi zs (M : Int) W h (by have := hs.len; omega))
  rw [shortB_iff.2 ⟨M, rfl, hs⟩] at HH
  have HDn := Lib.hid (fun W h => l6Done_any A c lo hi zs (M : Int) W h (by have := hs.len; omega))
  rw [hd] at HDn
  have HND := Lib.hid (fun W => l6Needs_any zs.length M W hs.m hs.pos hs.len)
  have HBS := Lib.hid (fun g c2 W h h2 => l6Best_any A c lo hi zs M (some ⟨g, 0, none⟩) c2 g (g + 1) W h h2 hs hd)
  clear hs hd
  clear hS
  go_enter Try.func21, Try.ntmps21
  go_wp2_with fail
  generalize w.alloc (.cells #[.slice A zs.length c, .int .i64 (M : Int)] 30) = w0 at HX HI ⊢
  have h0 := HX.out.c0
  have h1 := HX.out.c1
  refine (HH.out w0 HI.out).mono ?_
  rintro e w1 ⟨rfl, hb⟩
  replace HX := Lib.hid (HX.out.step hb)
  replace HI := Lib.hid (HI.out.step hb)
  replace h0 := HX.out.c0
  replace h1 := HX.out.c1
  clear hb
  go_wp2_with fail
  refine (HDn.out w1 HI.out).mono ?_
  rintro e w2 ⟨rfl, hb⟩
  replace HX := Lib.hid (HX.out.step hb)
  replace HI := Lib.hid (HI.out.step hb)
  replace h0 := HX.out.c0
  replace h1 := HX.out.c1
  clear hb
  clear HH HDn
  generalize (M + 2) ^ zs.length = top at HND HBS
  generalize hbe : (planS M zs).2 = best at HBS
  have HBE := Lib.hid hbe
  clear hbe
  go_wp2_with fail
  go_region_held3 (fun w' => w'.cell? ⟨w.heap.size, 0, none⟩ = some (.slice A zs.length c) ∧ w'.cell? ⟨w.heap.size, 1, none⟩ = some (.int .i64 (M : Int)))
    (first
     | exact ⟨(HX.out.step (Below.refl _ w2).drew).c0, (HX.out.step (Below.refl _ w2).drew).c1⟩
     | exact ⟨(HX.out.step HZ1.out).c0, (HX.out.step HZ1.out).c1⟩
     | exact ⟨(HX.out.step HZ2.out).c0, (HX.out.step HZ2.out).c1⟩)
    (first
     | (go_at_call 65; refine (HBS.out _ _ _ (HI.out.step HZ1.out) HN1.out).mono ?_; rintro e v2 ⟨rfl, hb⟩; have HZ2 := Lib.hid (below_trans HZ1.out hb); clear hb)
     | (go_at_call 59; refine (HND.out _).mono ?_; rintro e v1 ⟨g, cg, rfl, hg, ho, hb⟩; have HZ1 := Lib.hid (below_trans (Below.refl _ w2).drew hb); have HN1 := Lib.hid (own_insB ho); clear ho; clear hb))
  all_goals
    go_wp2
    go_ret2
    exact ⟨by rw [HBE.out]; rfl, below_trans HX.out.below HZ2.out⟩
end Go.Proofs.Ytichjhahnahaoaa
