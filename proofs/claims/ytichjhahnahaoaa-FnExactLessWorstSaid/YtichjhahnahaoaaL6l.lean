/- LessNeed, BestLess, NeedOfLess: both. -/
import Derived.Test.YtichjhahnahaoaaL6k
namespace Go.Proofs.Ytichjhahnahaoaa
open Go.RowKit Go.ChangeShapes Go.WideShapes Go.Maps
set_option linter.unusedVariables false

theorem lessNeed_both (zs : List Int) (m : Int) (h : zs.length ≤ 1048576) : ∃ (r0 : Int) (r1 : Bool),
    (∀ (w : World) (B : Option Addr) (c lo hi : Nat), Ins w lo hi B zs → Calls Try.prog 19 #[.agg #[.slice B zs.length c, .int .i64 m]] w fun e w' => e = .returned (.tuple #[.int .i64 r0, .bool r1]) ∧ Below w.heap.size w w') ∧
    (∀ (w : World) (B : Option Addr) (c lo hi : Nat), Ins w lo hi B zs → Calls Try.prog 17 #[.agg #[.slice B zs.length c, .int .i64 m]] w fun e w' => e = .returned (.tuple #[.int .i64 r0, .bool r1]) ∧ Below w.heap.size w w') := by
  cases hsh : shortB zs m with
  | false => exact ⟨0, false, fun w B c lo hi hS => lessNeed_no B c lo hi zs m w hS h hsh, fun w B c lo hi hS => lessNeedS_no B c lo hi zs m w hS h hsh⟩
  | true =>
    obtain ⟨M, rfl, hs⟩ := shortB_iff.1 hsh
    exact ⟨_, _, fun w B c lo hi hS => lessNeed_yes B c lo hi zs M w hS hs, fun w B c lo hi hS => lessNeedS_yes B c lo hi zs M w hS hs⟩
theorem bestLess_both (zs : List Int) (m : Int) (h : zs.length ≤ 1048576) : ∃ (r0 : Int) (r1 : Bool),
    (∀ (w : World) (B : Option Addr) (c lo hi : Nat), Ins w lo hi B zs → Calls Try.prog 22 #[.agg #[.slice B zs.length c, .int .i64 m]] w fun e w' => e = .returned (.tuple #[.int .i64 r0, .bool r1]) ∧ Below w.heap.size w w') ∧
    (∀ (w : World) (B : Option Addr) (c lo hi : Nat), Ins w lo hi B zs → Calls Try.prog 21 #[.agg #[.slice B zs.length c, .int .i64 m]] w fun e w' => e = .returned (.tuple #[.int .i64 r0, .bool r1]) ∧ Below w.heap.size w w') := by
  cases hsh : shortB zs m with
  | false => exact ⟨0, false, fun w B c lo hi hS => bestLess_no B c lo hi zs m w hS h hsh, fun w B c lo hi hS => bestLessS_no B c lo hi zs m w hS h hsh⟩
  | true =>
    obtain ⟨M, rfl, hs⟩ := shortB_iff.1 hsh
    cases hd : doneL zs with
    | false =>
      refine ⟨_, _, fun w B c lo hi hS => ?_, fun w B c lo hi hS => bestLessS_yes B c lo hi zs M w hS hs hd⟩
      have := bestLess_yes B c lo hi zs M w hS hs
      rw [hd] at this
      exact this
    | true =>
      refine ⟨_, _, fun w B c lo hi hS => ?_, fun w B c lo hi hS => bestLessS_done B c lo hi zs M w hS hs hd⟩
      have := bestLess_yes B c lo hi zs M w hS hs
      have hp : (planS M zs).2 = 0 := by
        rcases done_iff hs with ⟨_, _, h⟩ | ⟨h, _⟩
        · rw [h]
        · rw [hd] at h; cases h
      rw [hd, hp] at this
      exact this
set_option maxRecDepth 100000 in
set_option maxHeartbeats 4000000 in
theorem needOfLess_no (A : Option Addr) (c lo hi : Nat) (zs : List Int) (m k : Int) (w : World) (hS : Ins w lo hi A zs) (hn : zs.length ≤ 1048576) (hsh : shortB zs m = false) :
    Calls Try.prog 24 #[.agg #[.slice A zs.length c, .int .i64 m], .int .i64 k] w fun e w' => e = .returned (.tuple #[.int .i64 0, .bool false]) ∧ Below w.heap.size w w' := by
  have HX := Lib.hid (Arg.next (Below.refl w.heap.size w) (.slice A zs.length c) (.int .i64 m) 30 w.heap.size rfl)
  have HI := Lib.hid (hS.step HX.out.below)
  have HP := Lib.hid (fun W h => openSpan_impl_not A c lo hi zs m W h hn hsh)
  clear hS
  go_enter Try.func24, Try.ntmps24
  go_wp2_with fail
  generalize w.alloc (.cells #[.slice A zs.length c, .int .i64 m] 30) = w0 at HX HI ⊢
  have h0 := HX.out.c0
  have h1 := HX.out.c1
  refine (HP.out w0 HI.out).mono ?_
  rintro e w1 ⟨rfl, hb⟩
  replace HX := Lib.hid (HX.out.step hb)
  replace HI := Lib.hid (HI.out.step hb)
  replace h0 := HX.out.c0
  replace h1 := HX.out.c1
  clear hb
  go_wp2
  go_ret2
  exact ⟨rfl, HX.out.below⟩
set_option maxRecDepth 100000 in
set_option maxHeartbeats 4000000 in
theorem needOfLessS_no (A : Option Addr) (c lo hi : Nat) (zs : List Int) (m k : Int) (w : World) (hS : Ins w lo hi A zs) (hn : zs.length ≤ 1048576) (hsh : shortB zs m = false) :
    Calls Try.prog 23 #[.agg #[.slice A zs.length c, .int .i64 m], .int .i64 k] w fun e w' => e = .returned (.tuple #[.int .i64 0, .bool false]) ∧ Below w.heap.size w w' := by
  have HX := Lib.hid (Arg.next (Below.refl w.heap.size w) (.slice A zs.length c) (.int .i64 m) 30 w.heap.size rfl)
  have HI := Lib.hid (hS.step HX.out.below)
  have HH := Lib.hid (fun W h => l6Short_any A c lo hi zs m W h hn)
  rw [hsh] at HH
  clear hS
  go_enter Try.func23, Try.ntmps23
  go_wp2_with fail
  generalize w.alloc (.cells #[.slice A zs.length c, .int .i64 m] 30) = w0 at HX HI ⊢
  have h0 := HX.out.c0
  have h1 := HX.out.c1
  refine (HH.out w0 HI.out).mono ?_
  rintro e w1 ⟨rfl, hb⟩
  replace HX := Lib.hid (HX.out.step hb)
  replace HI := Lib.hid (HI.out.step hb)
  replace h0 := HX.out.c0
  replace h1 := HX.out.c1
  clear hb
  go_wp2
  go_ret2
  exact ⟨rfl, HX.out.below⟩
set_option maxRecDepth 100000 in
set_option maxHeartbeats 4000000 in
theorem needOfLess_out (A : Option Addr) (c lo hi : Nat) (zs : List Int) (M : Nat) (k : Int) (w : World) (hS : Ins w lo hi A zs) (hs : Short M zs) (hk : k ≤ (lowN zs : Int) ∨ (highN zs : Int) < k) :
    Calls Try.prog 24 #[.agg #[.slice A zs.length c, .int .i64 (M : Int)], .int .i64 k] w fun e w' => e = .returned (.tuple #[.int .i64 0, .bool false]) ∧ Below w.heap.size w w' := by
  have HX := Lib.hid (Arg.next (Below.refl w.heap.size w) (.slice A zs.length c) (.int .i64 (M : Int)) 30 w.heap.size rfl)
  have HI := Lib.hid (hS.step HX.out.below)
  have HP := Lib.hid (fun W h => openSpan_impl_short A c lo hi zs M W h hs)
  clear hS hs
  skip
  generalize decide (0 < (opens zs).length) = d at HP
  generalize lowN zs = low at HP hk
  generalize highN zs = high at HP hk
  go_enter Try.func24, Try.ntmps24
  go_wp2_with fail
  generalize w.alloc (.cells #[.slice A zs.length c, .int .i64 (M : Int)] 30) = w0 at HX HI ⊢
  have h0 := HX.out.c0
  have h1 := HX.out.c1
  refine (HP.out w0 HI.out).mono ?_
  rintro e w1 ⟨rfl, hb⟩
  replace HX := Lib.hid (HX.out.step hb)
  replace HI := Lib.hid (HI.out.step hb)
  replace h0 := HX.out.c0
  replace h1 := HX.out.c1
  clear hb
  cases d with
  | false =>
    go_wp2
    go_ret2
    exact ⟨rfl, HX.out.below⟩
  | true =>
    by_cases hk1 : k ≤ (low : Int)
    · go_wp2
      go_ret2
      exact ⟨rfl, HX.out.below⟩
    · have hk2 : (high : Int) < k := by omega
      go_wp2
      go_ret2
      exact ⟨rfl, HX.out.below⟩
set_option maxRecDepth 100000 in
set_option maxHeartbeats 4000000 in
theorem needOfLess_in (A : Option Addr) (c lo hi : Nat) (zs : List Int) (M k : Nat) (w : World) (hS : Ins w lo hi A zs) (hs : Short M zs) (hk1 : lowN zs < k) (hk2 : k ≤ highN zs) :
    Calls Try.prog 24 #[.agg #[.slice A zs.length c, .int .i64 (M : Int)], .int .i64 (k : Int)] w fun e w' => e = .returned (.tuple #[.int .i64 (nofL M zs k : Int), .bool true]) ∧ Below w.heap.size w w' := by
  have HX := Lib.hid (Arg.next (Below.refl w.heap.size w) (.slice A zs.length c) (.int .i64 (M : Int)) 30 w.heap.size rfl)
  have HI := Lib.hid (hS.step HX.out.below)
  have HP := Lib.hid (fun W h => openSpan_impl_short A c lo hi zs M W h hs)
  have hop : 0 < (opens zs).length := by
      rcases Nat.lt_or_ge 0 (opens zs).length with h | h
      · exact h
      · have := span_none (zs := zs) (by omega)
        omega
  rw [decide_eq_true hop] at HP
  have HNB := Lib.hid (fun W B h1 h2 => needBehind_any (massL M zs) (planOf6_less _) A c lo hi zs M k W B h1 h2 hs (Nat.lt_succ_self _) hk1 hk2)
  have hk12 : k ≤ 20 := by have := span_bd hs; have := hs.len; omega
  clear hS hs hop
  have hk1I : ¬ (k : Int) ≤ (lowN zs : Int) := by omega
  have hk2I : ¬ (highN zs : Int) < (k : Int) := by omega
  generalize lowN zs = low at HP hk1 hk1I
  generalize highN zs = high at HP hk2 hk2I
  go_enter Try.func24, Try.ntmps24
  go_wp2_with fail
  generalize w.alloc (.cells #[.slice A zs.length c, .int .i64 (M : Int)] 30) = w0 at HX HI ⊢
  have h0 := HX.out.c0
  have h1 := HX.out.c1
  refine (HP.out w0 HI.out).mono ?_
  rintro e w1 ⟨rfl, hb⟩
  replace HX := Lib.hid (HX.out.step hb)
  replace HI := Lib.hid (HI.out.step hb)
  replace h0 := HX.out.c0
  replace h1 := HX.out.c1
  clear hb
  have HX1l := HX.out.hi
  have hbm := (Below.refl w1.heap.size w1).alloc (Nat.le_refl _) (.map #[] 0)
  have HPM := Lib.hid (LPlanM.made w1)
  replace HX := Lib.hid (HX.out.step hbm)
  replace HI := Lib.hid (HI.out.step hbm)
  replace h0 := HX.out.c0
  replace h1 := HX.out.c1
  clear hbm
  have hmk := makeLPlans
  have HXl : Hid (w.heap.size < w1.heap.size) := Lib.hid HX1l
  go_wp2_with fail
  generalize w1.alloc (.map #[] 0) = w2 at HX HI h0 h1 HPM ⊢
  refine (HNB.out w2 w1.heap.size HPM.out HI.out).mono ?_
  rintro e w3 ⟨rfl, hpm, hw⟩
  have HB := Lib.hid (HX.out.below.trans (hw.below (Nat.le_of_lt HXl.out) HX.out.below.size))
  clear hpm hw
  go_wp2
  go_ret2
  exact ⟨rfl, HB.out⟩
set_option maxRecDepth 100000 in
set_option maxHeartbeats 4000000 in
theorem needOfLessS_done (A : Option Addr) (c lo hi : Nat) (zs : List Int) (M : Nat) (k : Int) (w : World) (hS : Ins w lo hi A zs) (hs : Short M zs) (hd : doneL zs = true) :
    Calls Try.prog 23 #[.agg #[.slice A zs.length c, .int .i64 (M : Int)], .int .i64 k] w fun e w' => e = .returned (.tuple #[.int .i64 0, .bool false]) ∧ Below w.heap.size w w' := by
  have HX := Lib.hid (Arg.next (Below.refl w.heap.size w) (.slice A zs.length c) (.int .i64 (M : Int)) 30 w.heap.size rfl)
  have HI := Lib.hid (hS.step HX.out.below)
  have HH := Lib.hid (fun W h => l6Short_any A c lo hi zs (M : Int) W h (by have := hs.len; omega))
  rw [shortB_iff.2 ⟨M, rfl, hs⟩] at HH
  have HDn := Lib.hid (fun W h => l6Done_any A c lo hi zs (M : Int) W h (by have := hs.len; omega))
  rw [hd] at HDn
  clear hs hd
  clear hS
  go_enter Try.func23, Try.ntmps23
  go_wp2_with fail
  generalize w.alloc (.cells #[.slice A zs.length c, .int .i64 (M : Int)] 30) = w0 at HX HI ⊢
  have h0 := HX.out.c0
  have h1 := HX.out.c1
  refine (HH.out w0 HI.out).mono ?_
  rintro e w1 ⟨rfl, hb⟩
  replace HX := Lib.hid (HX.out.step hb)
  replace HI := Lib.hid (HI.out.step hb)
  replace h0 := HX.out.c0
  replace h1 := HX.out.c1
  clear hb
  go_wp2_with fail
  refine (HDn.out w1 HI.out).mono ?_
  rintro e w2 ⟨rfl, hb⟩
  replace HX := Lib.hid (HX.out.step hb)
  replace HI := Lib.hid (HI.out.step hb)
  replace h0 := HX.out.c0
  replace h1 := HX.out.c1
  clear hb
  go_wp2
  go_ret2
  exact ⟨rfl, HX.out.below⟩
set_option maxRecDepth 100000 in
set_option maxHeartbeats 4000000 in
theorem needOfLessS_bad (A : Option Addr) (c lo hi : Nat) (zs : List Int) (M : Nat) (k : Int) (w : World) (hS : Ins w lo hi A zs) (hs : Short M zs) (hd : doneL zs = false) (hk : ¬ (1 ≤ k ∧ k ≤ (zs.length : Int) - 1)) :
    Calls Try.prog 23 #[.agg #[.slice A zs.length c, .int .i64 (M : Int)], .int .i64 k] w fun e w' => e = .returned (.tuple #[.int .i64 0, .bool false]) ∧ Below w.heap.size w w' := by
  have HX := Lib.hid (Arg.next (Below.refl w.heap.size w) (.slice A zs.length c) (.int .i64 (M : Int)) 30 w.heap.size rfl)
  have HI := Lib.hid (hS.step HX.out.below)
  have HH := Lib.hid (fun W h => l6Short_any A c lo hi zs (M : Int) W h (by have := hs.len; omega))
  rw [shortB_iff.2 ⟨M, rfl, hs⟩] at HH
  have HDn := Lib.hid (fun W h => l6Done_any A c lo hi zs (M : Int) W h (by have := hs.len; omega))
  rw [hd] at HDn
  have HCm := Lib.hid (fun W => l6Compare_any (zs.length : Int) k W)
  have hcm : (inB (zs.length : Int) 1 12 && inB k 1 ((zs.length : Int) - 1)) = false := by
      rw [Bool.eq_false_iff]
      intro h
      simp only [Bool.and_eq_true] at h
      exact hk (inB_iff.1 h.2)
  rw [hcm] at HCm
  clear hs hd hcm hk
  clear hS
  go_enter Try.func23, Try.ntmps23
  go_wp2_with fail
  generalize w.alloc (.cells #[.slice A zs.length c, .int .i64 (M : Int)] 30) = w0 at HX HI ⊢
  have h0 := HX.out.c0
  have h1 := HX.out.c1
  refine (HH.out w0 HI.out).mono ?_
  rintro e w1 ⟨rfl, hb⟩
  replace HX := Lib.hid (HX.out.step hb)
  replace HI := Lib.hid (HI.out.step hb)
  replace h0 := HX.out.c0
  replace h1 := HX.out.c1
  clear hb
  go_wp2_with fail
  refine (HDn.out w1 HI.out).mono ?_
  rintro e w2 ⟨rfl, hb⟩
  replace HX := Lib.hid (HX.out.step hb)
  replace HI := Lib.hid (HI.out.step hb)
  replace h0 := HX.out.c0
  replace h1 := HX.out.c1
  clear hb
  go_wp2_with fail
  refine (HCm.out w2).mono ?_
  rintro e w3 ⟨rfl, hww⟩
  have hww := hww.symm
  subst hww
  go_wp2
  go_ret2
  exact ⟨rfl, HX.out.below⟩
set_option maxRecDepth 100000 in
set_option maxHeartbeats 8000000 in
theorem needOfLessS_yes (A : Option Addr) (c lo hi : Nat) (zs : List Int) (M k : Nat) (w : World) (hS : Ins w lo hi A zs) (hs : Short M zs) (hd : doneL zs = false) (hk1 : 1 ≤ k) (hk2 : k < zs.length) (nn : Nat) (hsv : snofL M zs k = (nn : Int)) :
    Calls Try.prog 23 #[.agg #[.slice A zs.length c, .int .i64 (M : Int)], .int .i64 (k : Int)] w fun e w' => e = .returned (.tuple #[.int .i64 (nn : Int), .bool true]) ∧ Below w.heap.size w w' := by
  have HX := Lib.hid (Arg.next (Below.refl w.heap.size w) (.slice A zs.length c) (.int .i64 (M : Int)) 30 w.heap.size rfl)
  have HI := Lib.hid (hS.step HX.out.below)
  have HH := Lib.hid (fun W h => l6Short_any A c lo hi zs (M : Int) W h (by have := hs.len; omega))
  rw [shortB_iff.2 ⟨M, rfl, hs⟩] at HH
  have HDn := Lib.hid (fun W h => l6Done_any A c lo hi zs (M : Int) W h (by have := hs.len; omega))
  rw [hd] at HDn
  have HCm := Lib.hid (fun W => l6Compare_any (zs.length : Int) (k : Int) W)
  rw [inB_t (x := (zs.length : Int)) (a := 1) (b := 12) (by omega) (by have := hs.len; omega), inB_t (x := (k : Int)) (a := 1) (b := (zs.length : Int) - 1) (by omega) (by omega), Bool.true_and] at HCm
  have HND := Lib.hid (fun W => l6Needs_any zs.length M W hs.m hs.pos hs.len)
  have HNO := Lib.hid (fun g c2 W h h2 => l6NeedOf_any A c lo hi zs M k (some ⟨g, 0, none⟩) c2 g (g + 1) W h h2 hs (by have := hs.len; omega))
  rw [hsv] at HNO
  have HM := Lib.hid (fun W => l1Most_any (nn : Int) 0 W)
  rw [if_pos (by omega)] at HM
  clear hs hd hsv
  clear hS
  go_enter Try.func23, Try.ntmps23
  go_wp2_with fail
  generalize w.alloc (.cells #[.slice A zs.length c, .int .i64 (M : Int)] 30) = w0 at HX HI ⊢
  have h0 := HX.out.c0
  have h1 := HX.out.c1
  refine (HH.out w0 HI.out).mono ?_
  rintro e w1 ⟨rfl, hb⟩
  replace HX := Lib.hid (HX.out.step hb)
  replace HI := Lib.hid (HI.out.step hb)
  replace h0 := HX.out.c0
  replace h1 := HX.out.c1
  clear hb
  go_wp2_with fail
  refine (HDn.out w1 HI.out).mono ?_
  rintro e w2 ⟨rfl, hb⟩
  replace HX := Lib.hid (HX.out.step hb)
  replace HI := Lib.hid (HI.out.step hb)
  replace h0 := HX.out.c0
  replace h1 := HX.out.c1
  clear hb
  go_wp2_with fail
  refine (HCm.out w2).mono ?_
  rintro e w3 ⟨rfl, hww⟩
  have hww := hww.symm
  subst hww
  clear HH HDn HCm
  generalize (M + 2) ^ zs.length = top at HND HNO
  go_wp2_with fail
  go_region_held3 (fun w' => w'.cell? ⟨w.heap.size, 0, none⟩ = some (.slice A zs.length c) ∧ w'.cell? ⟨w.heap.size, 1, none⟩ = some (.int .i64 (M : Int)))
    (first
     | exact ⟨(HX.out.step (Below.refl _ w2).drew).c0, (HX.out.step (Below.refl _ w2).drew).c1⟩
     | exact ⟨(HX.out.step HZ1.out).c0, (HX.out.step HZ1.out).c1⟩
     | exact ⟨(HX.out.step HZ2.out).c0, (HX.out.step HZ2.out).c1⟩)
    (first
     | (go_at_call 66; refine (HNO.out _ _ _ (HI.out.step HZ1.out) HN1.out).mono ?_; rintro e v2 ⟨rfl, hb⟩; have HZ2 := Lib.hid (below_trans HZ1.out hb); clear hb)
     | (go_at_call 59; refine (HND.out _).mono ?_; rintro e v1 ⟨g, cg, rfl, hg, ho, hb⟩; have HZ1 := Lib.hid (below_trans (Below.refl _ w2).drew hb); have HN1 := Lib.hid (own_insB ho); clear ho; clear hb))
  all_goals
    go_wp2_with fail
    refine (HM.out _).mono ?_
    rintro e w9 ⟨rfl, hww⟩
    have hww := hww.symm
    subst hww
    go_wp2
    go_ret2
    exact ⟨rfl, below_trans HX.out.below HZ2.out⟩
set_option maxRecDepth 100000 in
set_option maxHeartbeats 8000000 in
theorem needOfLessS_back (A : Option Addr) (c lo hi : Nat) (zs : List Int) (M k : Nat) (w : World) (hS : Ins w lo hi A zs) (hs : Short M zs) (hd : doneL zs = false) (hk1 : 1 ≤ k) (hk2 : k < zs.length) (hsv : snofL M zs k = -1) :
    Calls Try.prog 23 #[.agg #[.slice A zs.length c, .int .i64 (M : Int)], .int .i64 (k : Int)] w fun e w' => e = .returned (.tuple #[.int .i64 0, .bool false]) ∧ Below w.heap.size w w' := by
  have HX := Lib.hid (Arg.next (Below.refl w.heap.size w) (.slice A zs.length c) (.int .i64 (M : Int)) 30 w.heap.size rfl)
  have HI := Lib.hid (hS.step HX.out.below)
  have HH := Lib.hid (fun W h => l6Short_any A c lo hi zs (M : Int) W h (by have := hs.len; omega))
  rw [shortB_iff.2 ⟨M, rfl, hs⟩] at HH
  have HDn := Lib.hid (fun W h => l6Done_any A c lo hi zs (M : Int) W h (by have := hs.len; omega))
  rw [hd] at HDn
  have HCm := Lib.hid (fun W => l6Compare_any (zs.length : Int) (k : Int) W)
  rw [inB_t (x := (zs.length : Int)) (a := 1) (b := 12) (by omega) (by have := hs.len; omega), inB_t (x := (k : Int)) (a := 1) (b := (zs.length : Int) - 1) (by omega) (by omega), Bool.true_and] at HCm
  have HND := Lib.hid (fun W => l6Needs_any zs.length M W hs.m hs.pos hs.len)
  have HNO := Lib.hid (fun g c2 W h h2 => l6NeedOf_any A c lo hi zs M k (some ⟨g, 0, none⟩) c2 g (g + 1) W h h2 hs (by have := hs.len; omega))
  rw [hsv] at HNO
  have HM := Lib.hid (fun W => l1Most_any (-1) 0 W)
  rw [if_neg (by omega)] at HM
  clear hs hd hsv
  clear hS
  go_enter Try.func23, Try.ntmps23
  go_wp2_with fail
  generalize w.alloc (.cells #[.slice A zs.length c, .int .i64 (M : Int)] 30) = w0 at HX HI ⊢
  have h0 := HX.out.c0
  have h1 := HX.out.c1
  refine (HH.out w0 HI.out).mono ?_
  rintro e w1 ⟨rfl, hb⟩
  replace HX := Lib.hid (HX.out.step hb)
  replace HI := Lib.hid (HI.out.step hb)
  replace h0 := HX.out.c0
  replace h1 := HX.out.c1
  clear hb
  go_wp2_with fail
  refine (HDn.out w1 HI.out).mono ?_
  rintro e w2 ⟨rfl, hb⟩
  replace HX := Lib.hid (HX.out.step hb)
  replace HI := Lib.hid (HI.out.step hb)
  replace h0 := HX.out.c0
  replace h1 := HX.out.c1
  clear hb
  go_wp2_with fail
  refine (HCm.out w2).mono ?_
  rintro e w3 ⟨rfl, hww⟩
  have hww := hww.symm
  subst hww
  clear HH HDn HCm
  generalize (M + 2) ^ zs.length = top at HND HNO
  go_wp2_with fail
  go_region_held3 (fun w' => w'.cell? ⟨w.heap.size, 0, none⟩ = some (.slice A zs.length c) ∧ w'.cell? ⟨w.heap.size, 1, none⟩ = some (.int .i64 (M : Int)))
    (first
     | exact ⟨(HX.out.step (Below.refl _ w2).drew).c0, (HX.out.step (Below.refl _ w2).drew).c1⟩
     | exact ⟨(HX.out.step HZ1.out).c0, (HX.out.step HZ1.out).c1⟩
     | exact ⟨(HX.out.step HZ2.out).c0, (HX.out.step HZ2.out).c1⟩)
    (first
     | (go_at_call 66; refine (HNO.out _ _ _ (HI.out.step HZ1.out) HN1.out).mono ?_; rintro e v2 ⟨rfl, hb⟩; have HZ2 := Lib.hid (below_trans HZ1.out hb); clear hb)
     | (go_at_call 59; refine (HND.out _).mono ?_; rintro e v1 ⟨g, cg, rfl, hg, ho, hb⟩; have HZ1 := Lib.hid (below_trans (Below.refl _ w2).drew hb); have HN1 := Lib.hid (own_insB ho); clear ho; clear hb))
  all_goals
    go_wp2_with fail
    refine (HM.out _).mono ?_
    rintro e w9 ⟨rfl, hww⟩
    have hww := hww.symm
    subst hww
    go_wp2
    go_ret2
    exact ⟨rfl, below_trans HX.out.below HZ2.out⟩
theorem needOfLess_both (zs : List Int) (m : Int) (h : zs.length ≤ 1048576) (k : Int) : ∃ (r0 : Int) (r1 : Bool),
    (∀ (w : World) (B : Option Addr) (c lo hi : Nat), Ins w lo hi B zs → Calls Try.prog 24 #[.agg #[.slice B zs.length c, .int .i64 m], .int .i64 k] w fun e w' => e = .returned (.tuple #[.int .i64 r0, .bool r1]) ∧ Below w.heap.size w w') ∧
    (∀ (w : World) (B : Option Addr) (c lo hi : Nat), Ins w lo hi B zs → Calls Try.prog 23 #[.agg #[.slice B zs.length c, .int .i64 m], .int .i64 k] w fun e w' => e = .returned (.tuple #[.int .i64 r0, .bool r1]) ∧ Below w.heap.size w w') := by
  cases hsh : shortB zs m with
  | false => exact ⟨0, false, fun w B c lo hi hS => needOfLess_no B c lo hi zs m k w hS h hsh, fun w B c lo hi hS => needOfLessS_no B c lo hi zs m k w hS h hsh⟩
  | true =>
    obtain ⟨M, rfl, hs⟩ := shortB_iff.1 hsh
    cases hd : doneL zs with
    | true =>
      have hu := (span_bd hs).2.2 hd
      have hu2 := (span_bd hs).1
      unfold usesL at hu
      exact ⟨0, false, fun w B c lo hi hS => needOfLess_out B c lo hi zs M k w hS hs (by omega), fun w B c lo hi hS => needOfLessS_done B c lo hi zs M k w hS hs hd⟩
    | false =>
      have hsp := span_bd hs
      by_cases hk : 1 ≤ k ∧ k ≤ (zs.length : Int) - 1
      · obtain ⟨i, rfl⟩ : ∃ i : Nat, k = (i : Int) := ⟨k.toNat, by omega⟩
        have hb := (back_iff hs (k := i) (by omega) (by omega) hd).1
        by_cases hin : lowN zs < i ∧ i ≤ highN zs
        · have hsv : snofL M zs i = (nofL M zs i : Int) := by
            unfold snofL
            rw [if_neg (fun h => (hb.1 h) hin)]
            unfold nofL
            rw [Nat.max_comm]
          exact ⟨(nofL M zs i : Int), true, fun w B c lo hi hS => needOfLess_in B c lo hi zs M i w hS hs hin.1 hin.2, fun w B c lo hi hS => needOfLessS_yes B c lo hi zs M i w hS hs hd (by omega) (by omega) _ hsv⟩
        · have hsv : snofL M zs i = -1 := by
            unfold snofL
            rw [if_pos (hb.2 hin)]
          exact ⟨0, false, fun w B c lo hi hS => needOfLess_out B c lo hi zs M (i : Int) w hS hs (by omega), fun w B c lo hi hS => needOfLessS_back B c lo hi zs M i w hS hs hd (by omega) (by omega) hsv⟩
      · exact ⟨0, false, fun w B c lo hi hS => needOfLess_out B c lo hi zs M k w hS hs (by omega), fun w B c lo hi hS => needOfLessS_bad B c lo hi zs M k w hS hs hd hk⟩
end Go.Proofs.Ytichjhahnahaoaa
