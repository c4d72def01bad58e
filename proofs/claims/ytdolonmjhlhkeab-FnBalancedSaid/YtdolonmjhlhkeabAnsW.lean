/- AnswerWeights: both sides. -/
import Derived.Test.YtdolonmjhlhkeabAnsS
namespace Go.Proofs.Ytdolonmjhlhkeab
open Go.RowKit Go.ChangeShapes Go.WideShapes
set_option linter.unusedVariables false

/-- Whether a State and questions ahead, one at least, are valid. -/
def asks (zs : List Int) (m q : Int) : Bool := isSt zs m && inB q 1 30
theorem asks_iff {zs : List Int} {m q : Int} : asks zs m q = true ↔ isSt zs m = true ∧ 1 ≤ q ∧ q ≤ 30 := by simp [asks, inB]
theorem asks_w {zs : List Int} {m q : Int} : asks zs m q = (wOK zs m q && decide (0 < q)) := by
  rw [Bool.eq_iff_iff, asks_iff, Bool.and_eq_true, wOK_iff, decide_eq_true_iff]
  constructor
  · rintro ⟨a, b, c⟩; exact ⟨⟨a, by omega, c⟩, by omega⟩
  · rintro ⟨⟨a, b, c⟩, d⟩; exact ⟨a, by omega, c⟩
set_option maxHeartbeats 2000000 in
theorem canAskNow_any (A : Option Addr) (c lo hi : Nat) (zs : List Int) (m q : Int) (w : World) (hS : Ins w lo hi A zs) (hn : zs.length ≤ 1048576) :
    Calls Try.prog 88 #[.agg #[.slice A zs.length c, .int .i64 m], .int .i64 q] w fun e w' => e = .returned (.bool (asks zs m q)) ∧ Below w.heap.size w w' := by
  have HB := Lib.hid ((Below.refl w.heap.size w).alloc (Nat.le_refl _) (.cells #[.slice A zs.length c, .int .i64 m] 26))
  have HI := Lib.hid (hS.step HB.out)
  have HC := Lib.hid (fun W h => isWeighed_any A c lo hi zs m q W h hn)
  rw [asks_w]
  generalize wOK zs m q = x at HC ⊢
  clear hS
  cases x
  · rw [Bool.false_and]
    go_enter Try.func88, Try.ntmps88
    go_wp2_with fail
    generalize w.alloc (.cells #[.slice A zs.length c, .int .i64 m] 26) = wa at HI HB ⊢
    refine (HC.out wa HI.out).mono ?_
    rintro e wb ⟨rfl, hb⟩
    replace HB := Lib.hid (below_trans HB.out hb)
    clear hb
    go_wp2
    go_ret
    exact ⟨rfl, HB.out⟩
  · rw [Bool.true_and]
    by_cases h0 : 0 < q
    · rw [decide_eq_true h0]
      go_enter Try.func88, Try.ntmps88
      go_wp2_with fail
      generalize w.alloc (.cells #[.slice A zs.length c, .int .i64 m] 26) = wa at HI HB ⊢
      refine (HC.out wa HI.out).mono ?_
      rintro e wb ⟨rfl, hb⟩
      replace HB := Lib.hid (below_trans HB.out hb)
      clear hb
      go_wp2
      go_ret
      exact ⟨by first | rfl | simp [h0], HB.out⟩
    · rw [decide_eq_false h0]
      go_enter Try.func88, Try.ntmps88
      go_wp2_with fail
      generalize w.alloc (.cells #[.slice A zs.length c, .int .i64 m] 26) = wa at HI HB ⊢
      refine (HC.out wa HI.out).mono ?_
      rintro e wb ⟨rfl, hb⟩
      replace HB := Lib.hid (below_trans HB.out hb)
      clear hb
      go_wp2
      go_ret
      exact ⟨by first | rfl | simp [h0], HB.out⟩
set_option maxHeartbeats 2000000 in
theorem l3Asks_any (A : Option Addr) (c lo hi : Nat) (zs : List Int) (m q : Int) (w : World) (hS : Ins w lo hi A zs) (hn : zs.length ≤ 1048576) :
    Calls Try.prog 91 #[.agg #[.slice A zs.length c, .int .i64 m], .int .i64 q] w fun e w' => e = .returned (.bool (asks zs m q)) ∧ Below w.heap.size w w' := by
  have HB := Lib.hid ((Below.refl w.heap.size w).alloc (Nat.le_refl _) (.cells #[.slice A zs.length c, .int .i64 m] 26))
  have HI := Lib.hid (hS.step HB.out)
  have HC := Lib.hid (fun W h => l2State_any A c lo hi zs m W h hn)
  have HD := Lib.hid (fun W => l1In_any q 1 30 W)
  unfold asks
  generalize isSt zs m = x at HC ⊢
  generalize inB q 1 30 = y at HD ⊢
  clear hS
  cases x
  · go_enter Try.func91, Try.ntmps91
    go_wp2_with fail
    generalize w.alloc (.cells #[.slice A zs.length c, .int .i64 m] 26) = wa at HI HB ⊢
    refine (HC.out wa HI.out).mono ?_
    rintro e wb ⟨rfl, hb⟩
    replace HB := Lib.hid (below_trans HB.out hb)
    clear hb
    go_wp2
    go_ret
    exact ⟨rfl, HB.out⟩
  · go_enter Try.func91, Try.ntmps91
    go_wp2_with fail
    generalize w.alloc (.cells #[.slice A zs.length c, .int .i64 m] 26) = wa at HI HB ⊢
    refine (HC.out wa HI.out).mono ?_
    rintro e wb ⟨rfl, hb⟩
    replace HB := Lib.hid (below_trans HB.out hb)
    clear hb
    go_wp2_with fail
    refine (HD.out _).mono ?_
    rintro e w1 ⟨rfl, hw⟩
    have hw := hw.symm
    subst hw
    go_wp2
    go_ret
    exact ⟨rfl, HB.out⟩
/-- A valid State with questions ahead, as numbers. -/
theorem asks_nats {zs : List Int} {m q : Int} (h : asks zs m q = true) : ∃ M k : Nat, m = (M : Int) ∧ q = (k : Int) + 1 ∧ k ≤ 29 ∧ isSt zs (M : Int) = true := by
  obtain ⟨h1, h2, h3⟩ := asks_iff.1 h
  have hl := isSt_len h1
  refine ⟨m.toNat, (q - 1).toNat, by omega, by omega, by omega, ?_⟩
  rw [show ((m.toNat : Nat) : Int) = m by omega]
  exact h1

set_option maxRecDepth 100000 in
set_option maxHeartbeats 4000000 in
theorem answerWeights_impl (A : Option Addr) (c lo hi : Nat) (zs : List Int) (M q : Nat) (k : Int) (w : World) (hS : Ins w lo hi A zs) (hst : isSt zs (M : Int) = true) (hq : q ≤ 29) (hk : qOK zs.length k = true) :
    Calls Try.prog 31 #[.agg #[.slice A zs.length c, .int .i64 (M : Int)], .int .i64 k, .int .i64 ((q : Int) + 1)] w fun e w' => e = .returned (.tuple #[.agg #[.int .i64 (behW q M zs k true : Int), .int .i64 (behW q M zs k false : Int)], .bool true]) ∧ Below w.heap.size w w' := by
  have hl := isSt_len hst
  have HT := Lib.hid (Two.new w (.slice A zs.length c) (.int .i64 (M : Int)) 26 w.heap.size rfl)
  have HB := Lib.hid ((Below.refl w.heap.size w).alloc (Nat.le_refl _) (.cells #[.slice A zs.length c, .int .i64 (M : Int)] 26))
  have HR := Lib.hid (Two.new (w.alloc (.cells #[.slice A zs.length c, .int .i64 (M : Int)] 26)) (.int .i64 0) (.int .i64 0) 42 (w.heap.size + 1) (by simp))
  replace HT := Lib.hid (HT.out.step ((Below.refl _ _).alloc (Nat.le_refl _) (.cells #[.int .i64 0, .int .i64 0] 42)))
  replace HB := Lib.hid (HB.out.alloc HB.out.size (.cells #[.int .i64 0, .int .i64 0] 42))
  have HI := Lib.hid (hS.step HB.out)
  have HC := Lib.hid (fun W h => canAskNow_any A c lo hi zs (M : Int) ((q : Int) + 1) W h (by omega))
  rw [asks_iff.2 ⟨hst, by omega, by omega⟩] at HC
  have HD := Lib.hid (fun W => isQuestion_any (zs.length : Int) k W)
  rw [hk] at HD
  have HM := Lib.hid (fun W h => weigherOf_any A c lo hi zs M q ((q : Int) + 1) W h (by omega) hq rfl)
  have HV := Lib.hid (fun bb W h => weigh_any A c lo hi zs M q k bb W h hst (by omega) hk)
  clear hS hst hl hk
  go_enter Try.func31, Try.ntmps31
  go_wp2_with fail
  generalize (w.alloc (.cells #[.slice A zs.length c, .int .i64 (M : Int)] 26)).alloc (.cells #[.int .i64 0, .int .i64 0] 42) = wa at HT HB HR HI ⊢
  refine (HC.out wa HI.out).mono ?_
  rintro e wb ⟨rfl, hb⟩
  replace HT := Lib.hid (HT.out.step hb)
  replace HI := Lib.hid (HI.out.step hb)
  replace HR := Lib.hid (HR.out.step hb)
  replace HB := Lib.hid (below_trans HB.out hb)
  clear hb HC
  have h0 := HT.out.c0
  have h1 := HT.out.c1
  go_wp2_with fail
  refine (HD.out _).mono ?_
  rintro e w1 ⟨rfl, hw⟩
  have hw := hw.symm
  subst hw
  go_wp2_with fail
  refine (HM.out _ HI.out).mono ?_
  rintro e wc ⟨bb, rfl, hwg, hb⟩
  replace HR := Lib.hid (HR.out.step hb)
  replace HB := Lib.hid (below_trans HB.out hb)
  have HWG := Lib.hid hwg
  clear hb hwg HT HI h0 h1
  go_wp2_with fail
  refine (HV.out bb _ HWG.out).mono ?_
  rintro e wd ⟨rfl, hb⟩
  replace HR := Lib.hid (HR.out.step hb)
  replace HB := Lib.hid (below_trans HB.out hb)
  clear hb HWG
  have q0 := HR.out.c0
  have q1 := HR.out.c1
  have q2 := HR.out.f0
  have q3 := HR.out.f1
  go_wp2
  obtain ⟨hs, hw⟩ := stored2 HR.out.row (.int .i64 (behW q M zs k true : Int)) (.int .i64 (behW q M zs k false : Int))
  generalize ((wd.setCell ⟨w.heap.size + 1, 0, none⟩ (.int .i64 (behW q M zs k true : Int))).setCell ⟨w.heap.size + 1, 1, none⟩ (.int .i64 (behW q M zs k false : Int))) = wf at hs hw ⊢
  have e0 := two0 hs
  have e1 := two1 hs
  refine bodyPost_ret (v := .tuple #[.agg #[.int .i64 (behW q M zs k true : Int), .int .i64 (behW q M zs k false : Int)], .bool true]) (by simp [results, go_sem, e0, e1]) rfl ?_
  exact ⟨rfl, HB.out.trans (hw.below (Nat.le_succ _) HB.out.size)⟩
set_option maxRecDepth 100000 in
set_option maxHeartbeats 4000000 in
theorem answerWeights_no (A : Option Addr) (c lo hi : Nat) (zs : List Int) (m k q : Int) (w : World) (hS : Ins w lo hi A zs) (hn : zs.length ≤ 1048576) (h : (asks zs m q && qOK zs.length k) = false) :
    Calls Try.prog 31 #[.agg #[.slice A zs.length c, .int .i64 m], .int .i64 k, .int .i64 q] w fun e w' => e = .returned (.tuple #[.agg #[.int .i64 0, .int .i64 0], .bool false]) ∧ Below w.heap.size w w' := by
  have HT := Lib.hid (Two.new w (.slice A zs.length c) (.int .i64 m) 26 w.heap.size rfl)
  have HB := Lib.hid ((Below.refl w.heap.size w).alloc (Nat.le_refl _) (.cells #[.slice A zs.length c, .int .i64 m] 26))
  have HR := Lib.hid (Two.new (w.alloc (.cells #[.slice A zs.length c, .int .i64 m] 26)) (.int .i64 0) (.int .i64 0) 42 (w.heap.size + 1) (by simp))
  replace HT := Lib.hid (HT.out.step ((Below.refl _ _).alloc (Nat.le_refl _) (.cells #[.int .i64 0, .int .i64 0] 42)))
  replace HB := Lib.hid (HB.out.alloc HB.out.size (.cells #[.int .i64 0, .int .i64 0] 42))
  have HI := Lib.hid (hS.step HB.out)
  have HC := Lib.hid (fun W h => canAskNow_any A c lo hi zs m q W h hn)
  have HD := Lib.hid (fun W => isQuestion_any (zs.length : Int) k W)
  generalize asks zs m q = x at HC h
  generalize qOK zs.length k = y at HD h
  clear hS
  cases x
  · clear h
    go_enter Try.func31, Try.ntmps31
    go_wp2_with fail
    generalize (w.alloc (.cells #[.slice A zs.length c, .int .i64 m] 26)).alloc (.cells #[.int .i64 0, .int .i64 0] 42) = wa at HT HB HR HI ⊢
    refine (HC.out wa HI.out).mono ?_
    rintro e wd ⟨rfl, hb⟩
    replace HR := Lib.hid (HR.out.step hb)
    replace HB := Lib.hid (below_trans HB.out hb)
    clear hb HC HT HI
    have q0 := HR.out.c0
    have q1 := HR.out.c1
    have q2 := HR.out.f0
    have q3 := HR.out.f1
    go_wp2
    obtain ⟨hs, hw⟩ := stored2 HR.out.row (.int .i64 0) (.int .i64 0)
    generalize ((wd.setCell ⟨w.heap.size + 1, 0, none⟩ (.int .i64 0)).setCell ⟨w.heap.size + 1, 1, none⟩ (.int .i64 0)) = wf at hs hw ⊢
    have e0 := two0 hs
    have e1 := two1 hs
    refine bodyPost_ret (v := .tuple #[.agg #[.int .i64 0, .int .i64 0], .bool false]) (by simp [results, go_sem, e0, e1]) rfl ?_
    exact ⟨rfl, HB.out.trans (hw.below (Nat.le_succ _) HB.out.size)⟩
  · obtain rfl : y = false := by simpa using h
    clear h
    go_enter Try.func31, Try.ntmps31
    go_wp2_with fail
    generalize (w.alloc (.cells #[.slice A zs.length c, .int .i64 m] 26)).alloc (.cells #[.int .i64 0, .int .i64 0] 42) = wa at HT HB HR HI ⊢
    refine (HC.out wa HI.out).mono ?_
    rintro e wd ⟨rfl, hb⟩
    replace HR := Lib.hid (HR.out.step hb)
    replace HT := Lib.hid (HT.out.step hb)
    replace HB := Lib.hid (below_trans HB.out hb)
    clear hb HC HI
    have h0 := HT.out.c0
    have h1 := HT.out.c1
    go_wp2_with fail
    refine (HD.out _).mono ?_
    rintro e w1 ⟨rfl, hw⟩
    have hw := hw.symm
    subst hw
    have q0 := HR.out.c0
    have q1 := HR.out.c1
    have q2 := HR.out.f0
    have q3 := HR.out.f1
    go_wp2
    obtain ⟨hs, hw⟩ := stored2 HR.out.row (.int .i64 0) (.int .i64 0)
    generalize ((wd.setCell ⟨w.heap.size + 1, 0, none⟩ (.int .i64 0)).setCell ⟨w.heap.size + 1, 1, none⟩ (.int .i64 0)) = wf at hs hw ⊢
    have e0 := two0 hs
    have e1 := two1 hs
    refine bodyPost_ret (v := .tuple #[.agg #[.int .i64 0, .int .i64 0], .bool false]) (by simp [results, go_sem, e0, e1]) rfl ?_
    exact ⟨rfl, HB.out.trans (hw.below (Nat.le_succ _) HB.out.size)⟩
set_option maxRecDepth 100000 in
set_option maxHeartbeats 4000000 in
theorem answerWeights_spec (A : Option Addr) (c lo hi : Nat) (zs : List Int) (M q : Nat) (k : Int) (w : World) (hS : Ins w lo hi A zs) (hst : isSt zs (M : Int) = true) (hq : q ≤ 29) (hk : qOK zs.length k = true) :
    Calls Try.prog 32 #[.agg #[.slice A zs.length c, .int .i64 (M : Int)], .int .i64 k, .int .i64 ((q : Int) + 1)] w fun e w' => e = .returned (.tuple #[.agg #[.int .i64 (behW q M zs k true : Int), .int .i64 (behW q M zs k false : Int)], .bool true]) ∧ Below w.heap.size w w' := by
  have hl := isSt_len hst
  have HT := Lib.hid (Two.new w (.slice A zs.length c) (.int .i64 (M : Int)) 26 w.heap.size rfl)
  have HB := Lib.hid ((Below.refl w.heap.size w).alloc (Nat.le_refl _) (.cells #[.slice A zs.length c, .int .i64 (M : Int)] 26))
  have HR := Lib.hid (Two.new (w.alloc (.cells #[.slice A zs.length c, .int .i64 (M : Int)] 26)) (.int .i64 0) (.int .i64 0) 42 (w.heap.size + 1) (by simp))
  replace HT := Lib.hid (HT.out.step ((Below.refl _ _).alloc (Nat.le_refl _) (.cells #[.int .i64 0, .int .i64 0] 42)))
  replace HB := Lib.hid (HB.out.alloc HB.out.size (.cells #[.int .i64 0, .int .i64 0] 42))
  have HI := Lib.hid (hS.step HB.out)
  have HC := Lib.hid (fun W h => l3Asks_any A c lo hi zs (M : Int) ((q : Int) + 1) W h (by omega))
  rw [asks_iff.2 ⟨hst, by omega, by omega⟩] at HC
  have HD := Lib.hid (fun W => l2Question_any A zs.length c (M : Int) k W)
  rw [hk] at HD
  have HV := Lib.hid (fun W h => l3Answers_any A c lo hi zs M q k ((q : Int) + 1) W h hst hq rfl)
  clear hS hst hl hk
  go_enter Try.func32, Try.ntmps32
  go_wp2_with fail
  generalize (w.alloc (.cells #[.slice A zs.length c, .int .i64 (M : Int)] 26)).alloc (.cells #[.int .i64 0, .int .i64 0] 42) = wa at HT HB HR HI ⊢
  refine (HC.out wa HI.out).mono ?_
  rintro e wb ⟨rfl, hb⟩
  replace HT := Lib.hid (HT.out.step hb)
  replace HI := Lib.hid (HI.out.step hb)
  replace HR := Lib.hid (HR.out.step hb)
  replace HB := Lib.hid (below_trans HB.out hb)
  clear hb HC
  have h0 := HT.out.c0
  have h1 := HT.out.c1
  go_wp2_with fail
  refine (HD.out _).mono ?_
  rintro e w1 ⟨rfl, hb⟩
  replace HT := Lib.hid (HT.out.step hb)
  replace HI := Lib.hid (HI.out.step hb)
  replace HR := Lib.hid (HR.out.step hb)
  replace HB := Lib.hid (below_trans HB.out hb)
  clear hb h0 h1
  have h0 := HT.out.c0
  have h1 := HT.out.c1
  go_wp2_with fail
  refine (HV.out _ HI.out).mono ?_
  rintro e wd ⟨rfl, hb⟩
  replace HR := Lib.hid (HR.out.step hb)
  replace HB := Lib.hid (below_trans HB.out hb)
  clear hb HT HI h0 h1
  have q0 := HR.out.c0
  have q1 := HR.out.c1
  have q2 := HR.out.f0
  have q3 := HR.out.f1
  go_wp2
  obtain ⟨hs, hw⟩ := stored2 HR.out.row (.int .i64 (behW q M zs k true : Int)) (.int .i64 (behW q M zs k false : Int))
  generalize ((wd.setCell ⟨w.heap.size + 1, 0, none⟩ (.int .i64 (behW q M zs k true : Int))).setCell ⟨w.heap.size + 1, 1, none⟩ (.int .i64 (behW q M zs k false : Int))) = wf at hs hw ⊢
  have e0 := two0 hs
  have e1 := two1 hs
  refine bodyPost_ret (v := .tuple #[.agg #[.int .i64 (behW q M zs k true : Int), .int .i64 (behW q M zs k false : Int)], .bool true]) (by simp [results, go_sem, e0, e1]) rfl ?_
  exact ⟨rfl, HB.out.trans (hw.below (Nat.le_succ _) HB.out.size)⟩
set_option maxRecDepth 100000 in
set_option maxHeartbeats 4000000 in
theorem answerWeights_spec_no (A : Option Addr) (c lo hi : Nat) (zs : List Int) (m k q : Int) (w : World) (hS : Ins w lo hi A zs) (hn : zs.length ≤ 1048576) (h : (asks zs m q && qOK zs.length k) = false) :
    Calls Try.prog 32 #[.agg #[.slice A zs.length c, .int .i64 m], .int .i64 k, .int .i64 q] w fun e w' => e = .returned (.tuple #[.agg #[.int .i64 0, .int .i64 0], .bool false]) ∧ Below w.heap.size w w' := by
  have HT := Lib.hid (Two.new w (.slice A zs.length c) (.int .i64 m) 26 w.heap.size rfl)
  have HB := Lib.hid ((Below.refl w.heap.size w).alloc (Nat.le_refl _) (.cells #[.slice A zs.length c, .int .i64 m] 26))
  have HR := Lib.hid (Two.new (w.alloc (.cells #[.slice A zs.length c, .int .i64 m] 26)) (.int .i64 0) (.int .i64 0) 42 (w.heap.size + 1) (by simp))
  replace HT := Lib.hid (HT.out.step ((Below.refl _ _).alloc (Nat.le_refl _) (.cells #[.int .i64 0, .int .i64 0] 42)))
  replace HB := Lib.hid (HB.out.alloc HB.out.size (.cells #[.int .i64 0, .int .i64 0] 42))
  have HI := Lib.hid (hS.step HB.out)
  have HC := Lib.hid (fun W h => l3Asks_any A c lo hi zs m q W h hn)
  have HD := Lib.hid (fun W => l2Question_any A zs.length c m k W)
  generalize asks zs m q = x at HC h
  generalize qOK zs.length k = y at HD h
  clear hS
  cases x
  · clear h
    go_enter Try.func32, Try.ntmps32
    go_wp2_with fail
    generalize (w.alloc (.cells #[.slice A zs.length c, .int .i64 m] 26)).alloc (.cells #[.int .i64 0, .int .i64 0] 42) = wa at HT HB HR HI ⊢
    refine (HC.out wa HI.out).mono ?_
    rintro e wd ⟨rfl, hb⟩
    replace HR := Lib.hid (HR.out.step hb)
    replace HB := Lib.hid (below_trans HB.out hb)
    clear hb HC HT HI
    have q0 := HR.out.c0
    have q1 := HR.out.c1
    have q2 := HR.out.f0
    have q3 := HR.out.f1
    go_wp2
    obtain ⟨hs, hw⟩ := stored2 HR.out.row (.int .i64 0) (.int .i64 0)
    generalize ((wd.setCell ⟨w.heap.size + 1, 0, none⟩ (.int .i64 0)).setCell ⟨w.heap.size + 1, 1, none⟩ (.int .i64 0)) = wf at hs hw ⊢
    have e0 := two0 hs
    have e1 := two1 hs
    refine bodyPost_ret (v := .tuple #[.agg #[.int .i64 0, .int .i64 0], .bool false]) (by simp [results, go_sem, e0, e1]) rfl ?_
    exact ⟨rfl, HB.out.trans (hw.below (Nat.le_succ _) HB.out.size)⟩
  · obtain rfl : y = false := by simpa using h
    clear h
    go_enter Try.func32, Try.ntmps32
    go_wp2_with fail
    generalize (w.alloc (.cells #[.slice A zs.length c, .int .i64 m] 26)).alloc (.cells #[.int .i64 0, .int .i64 0] 42) = wa at HT HB HR HI ⊢
    refine (HC.out wa HI.out).mono ?_
    rintro e wd ⟨rfl, hb⟩
    replace HR := Lib.hid (HR.out.step hb)
    replace HT := Lib.hid (HT.out.step hb)
    replace HB := Lib.hid (below_trans HB.out hb)
    clear hb HC HI
    have h0 := HT.out.c0
    have h1 := HT.out.c1
    go_wp2_with fail
    refine (HD.out _).mono ?_
    rintro e w1 ⟨rfl, hb⟩
    replace HR := Lib.hid (HR.out.step hb)
    replace HB := Lib.hid (below_trans HB.out hb)
    clear hb h0 h1 HT
    have q0 := HR.out.c0
    have q1 := HR.out.c1
    have q2 := HR.out.f0
    have q3 := HR.out.f1
    go_wp2
    obtain ⟨hs, hw⟩ := stored2 HR.out.row (.int .i64 0) (.int .i64 0)
    generalize ((w1.setCell ⟨w.heap.size + 1, 0, none⟩ (.int .i64 0)).setCell ⟨w.heap.size + 1, 1, none⟩ (.int .i64 0)) = wf at hs hw ⊢
    have e0 := two0 hs
    have e1 := two1 hs
    refine bodyPost_ret (v := .tuple #[.agg #[.int .i64 0, .int .i64 0], .bool false]) (by simp [results, go_sem, e0, e1]) rfl ?_
    exact ⟨rfl, HB.out.trans (hw.below (Nat.le_succ _) HB.out.size)⟩
/-- What AnswerWeights answers. -/
theorem answerWeights_both (zs : List Int) (m : Int) (h : zs.length ≤ 1048576) (k q : Int) : ∃ (r0 u0 : Int) (r1 : Bool),
    (∀ (w : World) (B : Option Addr) (c lo hi : Nat), Ins w lo hi B zs → Calls Try.prog 31 #[.agg #[.slice B zs.length c, .int .i64 m], .int .i64 k, .int .i64 q] w fun e w' => e = .returned (.tuple #[.agg #[.int .i64 r0, .int .i64 u0], .bool r1]) ∧ Below w.heap.size w w') ∧
    (∀ (w : World) (B : Option Addr) (c lo hi : Nat), Ins w lo hi B zs → Calls Try.prog 32 #[.agg #[.slice B zs.length c, .int .i64 m], .int .i64 k, .int .i64 q] w fun e w' => e = .returned (.tuple #[.agg #[.int .i64 r0, .int .i64 u0], .bool r1]) ∧ Below w.heap.size w w') := by
  cases hw : (asks zs m q && qOK zs.length k) with
  | true =>
    rw [Bool.and_eq_true] at hw
    obtain ⟨M, a, rfl, rfl, ha, hst⟩ := asks_nats hw.1
    exact ⟨behW a M zs k true, behW a M zs k false, true, fun w B c lo hi hI => answerWeights_impl B c lo hi zs M a k w hI hst ha hw.2, fun w B c lo hi hI => answerWeights_spec B c lo hi zs M a k w hI hst ha hw.2⟩
  | false => exact ⟨0, 0, false, fun w B c lo hi hI => answerWeights_no B c lo hi zs m k q w hI h hw, fun w B c lo hi hI => answerWeights_spec_no B c lo hi zs m k q w hI h hw⟩
end Go.Proofs.Ytdolonmjhlhkeab
