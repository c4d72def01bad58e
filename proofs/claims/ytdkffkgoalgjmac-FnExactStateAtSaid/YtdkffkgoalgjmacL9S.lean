/- Trees of questions: StateAt, of both sides. -/
import Derived.Test.YtdkffkgoalgjmacL9X
import Derived.Test.YtdkffkgoalgjmacAll2
namespace Go.Proofs.Ytdkffkgoalgjmac
open Go.RowKit Go.ChangeShapes Go.WideShapes Go.Maps
set_option linter.unusedVariables false

theorem way9_okA {n : Int} {ns : List (Int × Int × Int)} {t : T9} (hT : Tree9 n ns t) (p : Nat) : okA n (way9 t 0 p) = true := by
  have h1 := way9_len t 0 p
  have h2 := hT.deep
  unfold okA
  rw [inB_t hT.n12.1 hT.n12.2, decide_eq_true (show (way9 t 0 p).length ≤ 20 by omega), Bool.true_and, Bool.true_and, List.all_eq_true]
  exact fun x hx => way9_ok hT.ok x hx
theorem way9_20 {n : Int} {ns : List (Int × Int × Int)} {t : T9} (hT : Tree9 n ns t) (p : Nat) : (way9 t 0 p).length ≤ 20 := by
  have h1 := way9_len t 0 p
  have h2 := hT.deep
  omega
set_option maxRecDepth 100000 in
set_option maxHeartbeats 8000000 in
theorem stateAt_impl_no1 (n : Int) (A : Option Addr) (c lo hi : Nat) (ns : List (Int × Int × Int)) (k m : Int) (w : World) (hS : NIns w lo hi A ns) (hn : ns.length ≤ 1048576) (hno : nodeB n ns k = false) :
    Calls Try.prog 11 #[.int .i64 n, .agg #[.slice A ns.length c], .int .i64 k, .int .i64 m] w fun e w' => e = .returned (.tuple #[.agg #[.slice none 0 0, .int .i64 0], .bool false]) ∧ Below w.heap.size w w' := by
  have HT := Lib.hid (One.new w (.slice A ns.length c) 33 w.heap.size rfl)
  have HB := Lib.hid ((Below.refl w.heap.size w).alloc (Nat.le_refl _) (.cells #[.slice A ns.length c] 33))
  have HR := Lib.hid (Two.new (w.alloc (.cells #[.slice A ns.length c] 33)) (.slice none 0 0) (.int .i64 0) 28 (w.heap.size + 1) (by simp))
  replace HT := Lib.hid (HT.out.step ((Below.refl _ _).alloc (Nat.le_refl _) (.cells #[.slice none 0 0, .int .i64 0] 28)))
  replace HB := Lib.hid (HB.out.alloc HB.out.size (.cells #[.slice none 0 0, .int .i64 0] 28))
  have HI := Lib.hid (hS.step HB.out)
  have HC := Lib.hid (fun W h => wayTo_impl_no n A c lo hi ns k W h hn hno)
  clear hS hno
  go_enter Try.func11, Try.ntmps11
  go_wp2_with fail
  generalize (w.alloc (.cells #[.slice A ns.length c] 33)).alloc (.cells #[.slice none 0 0, .int .i64 0] 28) = w0 at HB HT HR HI ⊢
  have h0 := HT.out.c0
  with_reducible refine (HC.out _ HI.out).mono ?_
  rintro e w1 ⟨B, d, rfl, hm, hb⟩
  replace HB := Lib.hid (below_trans HB.out hb)
  replace HT := Lib.hid (HT.out.step hb)
  replace HR := Lib.hid (HR.out.step hb)
  replace HI := Lib.hid (HI.out.step hb)
  replace h0 := HT.out.c0
  clear hb
  clear h0
  have r0 := HR.out.c0
  have r1 := HR.out.c1
  have rf0 := HR.out.f0
  have rf1 := HR.out.f1
  have hbs := HB.out.size
  obtain ⟨hs, hw⟩ := stored2 HR.out.row (.slice none 0 0) (.int .i64 0)
  have e0 := two0 hs
  have e1 := two1 hs
  have HF := Lib.hid (HB.out.trans (hw.below (Nat.le_succ _) HB.out.size))
  clear hs hw
  go_wp2
  refine bodyPost_ret (v := .tuple #[.agg #[.slice none 0 0, .int .i64 0], .bool false]) (by simp [results, go_sem, e0, e1]) rfl ?_
  exact ⟨rfl, HF.out⟩
set_option maxRecDepth 100000 in
set_option maxHeartbeats 8000000 in
theorem stateAt_impl_no2 (N : Nat) (A : Option Addr) (c lo hi : Nat) (ns : List (Int × Int × Int)) (p : Nat) (m : Int) (t : T9) (w : World) (hS : NIns w lo hi A ns) (hT : Tree9 (N : Int) ns t) (hk : p < ns.length) (hm : inB m 0 2 = false) :
    Calls Try.prog 11 #[.int .i64 (N : Int), .agg #[.slice A ns.length c], .int .i64 (p : Int), .int .i64 m] w fun e w' => e = .returned (.tuple #[.agg #[.slice none 0 0, .int .i64 0], .bool false]) ∧ Below w.heap.size w w' := by
  have HT := Lib.hid (One.new w (.slice A ns.length c) 33 w.heap.size rfl)
  have HB := Lib.hid ((Below.refl w.heap.size w).alloc (Nat.le_refl _) (.cells #[.slice A ns.length c] 33))
  have HR := Lib.hid (Two.new (w.alloc (.cells #[.slice A ns.length c] 33)) (.slice none 0 0) (.int .i64 0) 28 (w.heap.size + 1) (by simp))
  replace HT := Lib.hid (HT.out.step ((Below.refl _ _).alloc (Nat.le_refl _) (.cells #[.slice none 0 0, .int .i64 0] 28)))
  replace HB := Lib.hid (HB.out.alloc HB.out.size (.cells #[.slice none 0 0, .int .i64 0] 28))
  have HI := Lib.hid (hS.step HB.out)
  have HC := Lib.hid (fun W h => wayTo_impl (N : Int) A c lo hi ns p t W h hT hk)
  have HA := Lib.hid (fun W B d lo hi h => answerAll_impl_no (N : Int) m B d lo hi (way9 t 0 p) W h (by have := way9_20 hT p; omega) (.inl (.inr hm)))
  clear hS hT hk hm
  go_enter Try.func11, Try.ntmps11
  go_wp2_with fail
  generalize (w.alloc (.cells #[.slice A ns.length c] 33)).alloc (.cells #[.slice none 0 0, .int .i64 0] 28) = w0 at HB HT HR HI ⊢
  have h0 := HT.out.c0
  with_reducible refine (HC.out _ HI.out).mono ?_
  rintro e w1 ⟨B, d, rfl, hm2, hb⟩
  replace HB := Lib.hid (below_trans HB.out hb)
  replace HT := Lib.hid (HT.out.step hb)
  replace HR := Lib.hid (HR.out.step hb)
  replace HI := Lib.hid (HI.out.step hb)
  replace h0 := HT.out.c0
  have HW := Lib.hid hm2
  clear hm2
  clear hb
  clear h0
  clear HT
  go_wp2_with fail
  with_reducible refine (HA.out _ _ _ _ _ HW.out.ins).mono ?_
  rintro e w2 ⟨rfl, hb⟩
  replace HB := Lib.hid (below_trans HB.out hb)
  replace HR := Lib.hid (HR.out.step hb)
  replace HI := Lib.hid (HI.out.step hb)
  replace HW := Lib.hid (HW.out.step hb)
  clear hb
  have r0 := HR.out.c0
  have r1 := HR.out.c1
  have rf0 := HR.out.f0
  have rf1 := HR.out.f1
  have hbs := HB.out.size
  obtain ⟨hs, hw⟩ := stored2 HR.out.row (.slice none 0 0) (.int .i64 0)
  have e0 := two0 hs
  have e1 := two1 hs
  have HF := Lib.hid (HB.out.trans (hw.below (Nat.le_succ _) HB.out.size))
  clear hs hw
  go_wp2
  refine bodyPost_ret (v := .tuple #[.agg #[.slice none 0 0, .int .i64 0], .bool false]) (by simp [results, go_sem, e0, e1]) rfl ?_
  exact ⟨rfl, HF.out⟩
set_option maxRecDepth 100000 in
set_option maxHeartbeats 8000000 in
theorem stateAt_impl (N : Nat) (A : Option Addr) (c lo hi : Nat) (ns : List (Int × Int × Int)) (p : Nat) (m : Int) (t : T9) (w : World) (hS : NIns w lo hi A ns) (hT : Tree9 (N : Int) ns t) (hk : p < ns.length) (hm : inB m 0 2 = true) :
    Calls Try.prog 11 #[.int .i64 (N : Int), .agg #[.slice A ns.length c], .int .i64 (p : Int), .int .i64 m] w fun e w' => ∃ B d, e = .returned (.tuple #[.agg #[.slice B (stTo N m (way9 t 0 p) (way9 t 0 p).length).length d, .int .i64 m], .bool true]) ∧ Res w' w.heap.size w'.heap.size B (stTo N m (way9 t 0 p) (way9 t 0 p).length) ∧ Below w.heap.size w w' := by
  have HT := Lib.hid (One.new w (.slice A ns.length c) 33 w.heap.size rfl)
  have HB := Lib.hid ((Below.refl w.heap.size w).alloc (Nat.le_refl _) (.cells #[.slice A ns.length c] 33))
  have HR := Lib.hid (Two.new (w.alloc (.cells #[.slice A ns.length c] 33)) (.slice none 0 0) (.int .i64 0) 28 (w.heap.size + 1) (by simp))
  replace HT := Lib.hid (HT.out.step ((Below.refl _ _).alloc (Nat.le_refl _) (.cells #[.slice none 0 0, .int .i64 0] 28)))
  replace HB := Lib.hid (HB.out.alloc HB.out.size (.cells #[.slice none 0 0, .int .i64 0] 28))
  have HI := Lib.hid (hS.step HB.out)
  have hok := way9_okA hT p
  have h20 := way9_20 hT p
  have hn12 := hT.n12
  have HC := Lib.hid (fun W h => wayTo_impl (N : Int) A c lo hi ns p t W h hT hk)
  have HA := Lib.hid (fun W B d lo hi h => answerAll_impl N m B d lo hi (way9 t 0 p) W h hok (by omega) (by omega) hm h20)
  have HLN : Hid ((stTo N m (way9 t 0 p) (way9 t 0 p).length).length = N) := Lib.hid (stTo_len _ _ _ _)
  have hn0 : (0 : Int) ≤ (N : Int) := by omega
  clear hS hT hk hm hok h20 hn12
  generalize stTo N m (way9 t 0 p) (way9 t 0 p).length = zs at HA HLN ⊢
  go_enter Try.func11, Try.ntmps11
  go_wp2_with fail
  generalize (w.alloc (.cells #[.slice A ns.length c] 33)).alloc (.cells #[.slice none 0 0, .int .i64 0] 28) = w0 at HB HT HR HI ⊢
  have h0 := HT.out.c0
  with_reducible refine (HC.out _ HI.out).mono ?_
  rintro e w1 ⟨B, d, rfl, hm2, hb⟩
  replace HB := Lib.hid (below_trans HB.out hb)
  replace HT := Lib.hid (HT.out.step hb)
  replace HR := Lib.hid (HR.out.step hb)
  replace HI := Lib.hid (HI.out.step hb)
  replace h0 := HT.out.c0
  have HW := Lib.hid hm2
  clear hm2
  clear hb
  clear h0
  clear HT
  have hrl := HR.out.lt
  go_wp2_with fail
  with_reducible refine (HA.out _ _ _ _ _ HW.out.ins).mono ?_
  rintro e w2 ⟨g, d2, rfl, hg, ho, hb⟩
  replace HB := Lib.hid (below_trans HB.out hb)
  replace HR := Lib.hid (HR.out.step hb)
  replace HI := Lib.hid (HI.out.step hb)
  replace HW := Lib.hid (HW.out.step hb)
  have HO := Lib.hid ho
  clear ho
  clear hb
  have r0 := HR.out.c0
  have r1 := HR.out.c1
  have rf0 := HR.out.f0
  have rf1 := HR.out.f1
  have hbs := HB.out.size
  obtain ⟨hs, hw⟩ := stored2 HR.out.row (.slice (some ⟨g, 0, none⟩) N d2) (.int .i64 m)
  have e0 := two0 hs
  have e1 := two1 hs
  have HF := Lib.hid (HB.out.trans (hw.below (Nat.le_succ _) HB.out.size))
  have HO2 := Lib.hid (HO.out.within hw (.inr (by omega)))
  clear hs hw
  go_wp2
  refine bodyPost_ret (v := .tuple #[.agg #[.slice (some ⟨g, 0, none⟩) N d2, .int .i64 m], .bool true]) (by simp [results, go_sem, e0, e1]) rfl ?_
  refine ⟨some ⟨g, 0, none⟩, d2, by rw [HLN.out], ⟨HO2.out.wide (by omega) (own_lt HO2.out), Nat.le_refl _⟩, HF.out⟩
set_option maxRecDepth 100000 in
set_option maxHeartbeats 8000000 in
theorem stateAt_spec_no1 (n : Int) (A : Option Addr) (c lo hi : Nat) (ns : List (Int × Int × Int)) (k m : Int) (w : World) (hS : NIns w lo hi A ns) (hn : ns.length ≤ 1048576) (hno : nodeB n ns k = false) :
    Calls Try.prog 9 #[.int .i64 n, .agg #[.slice A ns.length c], .int .i64 k, .int .i64 m] w fun e w' => e = .returned (.tuple #[.agg #[.slice none 0 0, .int .i64 0], .bool false]) ∧ Below w.heap.size w w' := by
  have HT := Lib.hid (One.new w (.slice A ns.length c) 33 w.heap.size rfl)
  have HB := Lib.hid ((Below.refl w.heap.size w).alloc (Nat.le_refl _) (.cells #[.slice A ns.length c] 33))
  have HR := Lib.hid (Two.new (w.alloc (.cells #[.slice A ns.length c] 33)) (.slice none 0 0) (.int .i64 0) 28 (w.heap.size + 1) (by simp))
  replace HT := Lib.hid (HT.out.step ((Below.refl _ _).alloc (Nat.le_refl _) (.cells #[.slice none 0 0, .int .i64 0] 28)))
  replace HB := Lib.hid (HB.out.alloc HB.out.size (.cells #[.slice none 0 0, .int .i64 0] 28))
  have HI := Lib.hid (hS.step HB.out)
  have HC := Lib.hid (fun W h => node9_spec n A c lo hi ns k W h hn)
  rw [hno] at HC
  clear hS hno
  go_enter Try.func9, Try.ntmps9
  go_wp2_with fail
  generalize (w.alloc (.cells #[.slice A ns.length c] 33)).alloc (.cells #[.slice none 0 0, .int .i64 0] 28) = w0 at HB HT HR HI ⊢
  have h0 := HT.out.c0
  with_reducible refine (HC.out _ HI.out).mono ?_
  rintro e w1 ⟨rfl, hb⟩
  replace HB := Lib.hid (below_trans HB.out hb)
  replace HT := Lib.hid (HT.out.step hb)
  replace HR := Lib.hid (HR.out.step hb)
  replace HI := Lib.hid (HI.out.step hb)
  replace h0 := HT.out.c0
  clear hb
  clear h0
  have r0 := HR.out.c0
  have r1 := HR.out.c1
  have rf0 := HR.out.f0
  have rf1 := HR.out.f1
  have hbs := HB.out.size
  obtain ⟨hs, hw⟩ := stored2 HR.out.row (.slice none 0 0) (.int .i64 0)
  have e0 := two0 hs
  have e1 := two1 hs
  have HF := Lib.hid (HB.out.trans (hw.below (Nat.le_succ _) HB.out.size))
  clear hs hw
  go_wp2
  refine bodyPost_ret (v := .tuple #[.agg #[.slice none 0 0, .int .i64 0], .bool false]) (by simp [results, go_sem, e0, e1]) rfl ?_
  exact ⟨rfl, HF.out⟩
set_option maxRecDepth 100000 in
set_option maxHeartbeats 8000000 in
theorem stateAt_spec_no2 (N : Nat) (A : Option Addr) (c lo hi : Nat) (ns : List (Int × Int × Int)) (p : Nat) (m : Int) (t : T9) (w : World) (hS : NIns w lo hi A ns) (hT : Tree9 (N : Int) ns t) (hk : p < ns.length) (hm : inB m 0 2 = false) :
    Calls Try.prog 9 #[.int .i64 (N : Int), .agg #[.slice A ns.length c], .int .i64 (p : Int), .int .i64 m] w fun e w' => e = .returned (.tuple #[.agg #[.slice none 0 0, .int .i64 0], .bool false]) ∧ Below w.heap.size w w' := by
  have HT := Lib.hid (One.new w (.slice A ns.length c) 33 w.heap.size rfl)
  have HB := Lib.hid ((Below.refl w.heap.size w).alloc (Nat.le_refl _) (.cells #[.slice A ns.length c] 33))
  have HR := Lib.hid (Two.new (w.alloc (.cells #[.slice A ns.length c] 33)) (.slice none 0 0) (.int .i64 0) 28 (w.heap.size + 1) (by simp))
  replace HT := Lib.hid (HT.out.step ((Below.refl _ _).alloc (Nat.le_refl _) (.cells #[.slice none 0 0, .int .i64 0] 28)))
  replace HB := Lib.hid (HB.out.alloc HB.out.size (.cells #[.slice none 0 0, .int .i64 0] 28))
  have HI := Lib.hid (hS.step HB.out)
  have HC := Lib.hid (fun W h => node9_spec (N : Int) A c lo hi ns (p : Int) W h (by have := hT.le127; omega))
  rw [nodeB_yes hT hk] at HC
  have HM := Lib.hid (fun W => l1In_any m 0 2 W)
  rw [hm] at HM
  clear hS hT hk hm
  go_enter Try.func9, Try.ntmps9
  go_wp2_with fail
  generalize (w.alloc (.cells #[.slice A ns.length c] 33)).alloc (.cells #[.slice none 0 0, .int .i64 0] 28) = w0 at HB HT HR HI ⊢
  have h0 := HT.out.c0
  with_reducible refine (HC.out _ HI.out).mono ?_
  rintro e w1 ⟨rfl, hb⟩
  replace HB := Lib.hid (below_trans HB.out hb)
  replace HT := Lib.hid (HT.out.step hb)
  replace HR := Lib.hid (HR.out.step hb)
  replace HI := Lib.hid (HI.out.step hb)
  replace h0 := HT.out.c0
  clear hb
  clear h0
  have r0 := HR.out.c0
  have r1 := HR.out.c1
  have rf0 := HR.out.f0
  have rf1 := HR.out.f1
  obtain ⟨hs, hw⟩ := stored2 HR.out.row (.slice none 0 0) (.int .i64 0)
  have e0 := two0 hs
  have e1 := two1 hs
  have HF := Lib.hid (HB.out.trans (hw.below (Nat.le_succ _) HB.out.size))
  clear hs hw
  go_wp2_with (go_at_call 58; (with_reducible refine (HM.out _).mono ?_); rintro e wX ⟨rfl, hw⟩; have hw := hw.symm; subst hw)
  refine bodyPost_ret (v := .tuple #[.agg #[.slice none 0 0, .int .i64 0], .bool false]) (by simp [results, go_sem, e0, e1]) rfl ?_
  exact ⟨rfl, HF.out⟩
set_option maxRecDepth 100000 in
set_option maxHeartbeats 8000000 in
theorem stateAt_spec (N : Nat) (A : Option Addr) (c lo hi : Nat) (ns : List (Int × Int × Int)) (p : Nat) (m : Int) (t : T9) (w : World) (hS : NIns w lo hi A ns) (hT : Tree9 (N : Int) ns t) (hk : p < ns.length) (hm : inB m 0 2 = true) :
    Calls Try.prog 9 #[.int .i64 (N : Int), .agg #[.slice A ns.length c], .int .i64 (p : Int), .int .i64 m] w fun e w' => ∃ B d, e = .returned (.tuple #[.agg #[.slice B (stTo N m (way9 t 0 p) (way9 t 0 p).length).length d, .int .i64 m], .bool true]) ∧ Res w' w.heap.size w'.heap.size B (stTo N m (way9 t 0 p) (way9 t 0 p).length) ∧ Below w.heap.size w w' := by
  have HT := Lib.hid (One.new w (.slice A ns.length c) 33 w.heap.size rfl)
  have HB := Lib.hid ((Below.refl w.heap.size w).alloc (Nat.le_refl _) (.cells #[.slice A ns.length c] 33))
  have HR := Lib.hid (Two.new (w.alloc (.cells #[.slice A ns.length c] 33)) (.slice none 0 0) (.int .i64 0) 28 (w.heap.size + 1) (by simp))
  replace HT := Lib.hid (HT.out.step ((Below.refl _ _).alloc (Nat.le_refl _) (.cells #[.slice none 0 0, .int .i64 0] 28)))
  replace HB := Lib.hid (HB.out.alloc HB.out.size (.cells #[.slice none 0 0, .int .i64 0] 28))
  have HI := Lib.hid (hS.step HB.out)
  have hok := way9_okA hT p
  have h20 := way9_20 hT p
  have hn12 := hT.n12
  have HC := Lib.hid (fun W h => node9_spec (N : Int) A c lo hi ns (p : Int) W h (by have := hT.le127; omega))
  rw [nodeB_yes hT hk] at HC
  have HM := Lib.hid (fun W => l1In_any m 0 2 W)
  rw [hm] at HM
  have HW0 := Lib.hid (fun W h => way9_spec (N : Int) A c lo hi ns p t W h hT hk)
  have HA := Lib.hid (fun W B d lo hi h => l2All_any N m B d lo hi (way9 t 0 p) W h hok (by omega) (by omega) hm)
  have HLN : Hid ((stTo N m (way9 t 0 p) (way9 t 0 p).length).length = N) := Lib.hid (stTo_len _ _ _ _)
  have hn0 : (0 : Int) ≤ (N : Int) := by omega
  clear hS hT hk hm hok h20 hn12
  generalize stTo N m (way9 t 0 p) (way9 t 0 p).length = zs at HA HLN ⊢
  go_enter Try.func9, Try.ntmps9
  go_wp2_with fail
  generalize (w.alloc (.cells #[.slice A ns.length c] 33)).alloc (.cells #[.slice none 0 0, .int .i64 0] 28) = w0 at HB HT HR HI ⊢
  have h0 := HT.out.c0
  with_reducible refine (HC.out _ HI.out).mono ?_
  rintro e w1 ⟨rfl, hb⟩
  replace HB := Lib.hid (below_trans HB.out hb)
  replace HT := Lib.hid (HT.out.step hb)
  replace HR := Lib.hid (HR.out.step hb)
  replace HI := Lib.hid (HI.out.step hb)
  replace h0 := HT.out.c0
  clear hb
  go_wp2_with (go_at_call 58; (with_reducible refine (HM.out _).mono ?_); rintro e wX ⟨rfl, hw⟩; have hw := hw.symm; subst hw)
  with_reducible refine (HW0.out w1 HI.out).mono ?_
  rintro e w2 ⟨B, d, rfl, hm2, hb⟩
  replace HB := Lib.hid (below_trans HB.out hb)
  replace HT := Lib.hid (HT.out.step hb)
  replace HR := Lib.hid (HR.out.step hb)
  replace HI := Lib.hid (HI.out.step hb)
  replace h0 := HT.out.c0
  have HW := Lib.hid hm2
  clear hm2
  clear hb
  clear h0
  clear HT
  have hrl := HR.out.lt
  go_wp2_with fail
  with_reducible refine (HA.out _ _ _ _ _ HW.out.ins).mono ?_
  rintro e w3 ⟨g, d2, rfl, hg, ho, hb⟩
  replace HB := Lib.hid (below_trans HB.out hb)
  replace HR := Lib.hid (HR.out.step hb)
  replace HI := Lib.hid (HI.out.step hb)
  replace HW := Lib.hid (HW.out.step hb)
  have HO := Lib.hid ho
  clear ho
  clear hb
  have r0 := HR.out.c0
  have r1 := HR.out.c1
  have rf0 := HR.out.f0
  have rf1 := HR.out.f1
  have hbs := HB.out.size
  obtain ⟨hs, hw⟩ := stored2 HR.out.row (.slice (some ⟨g, 0, none⟩) N d2) (.int .i64 m)
  have e0 := two0 hs
  have e1 := two1 hs
  have HF := Lib.hid (HB.out.trans (hw.below (Nat.le_succ _) HB.out.size))
  have HO2 := Lib.hid (HO.out.within hw (.inr (by omega)))
  clear hs hw
  go_wp2
  refine bodyPost_ret (v := .tuple #[.agg #[.slice (some ⟨g, 0, none⟩) N d2, .int .i64 m], .bool true]) (by simp [results, go_sem, e0, e1]) rfl ?_
  refine ⟨some ⟨g, 0, none⟩, d2, by rw [HLN.out], ⟨HO2.out.wide (by omega) (own_lt HO2.out), Nat.le_refl _⟩, HF.out⟩
theorem zero_state9 {w w' : World} {e : Ending} (h : e = .returned (.tuple #[.agg #[.slice none 0 0, .int .i64 0], .bool false]) ∧ Below w.heap.size w w') : ∃ B d, e = .returned (.tuple #[.agg #[.slice B ([] : List Int).length d, .int .i64 0], .bool false]) ∧ Res w' w.heap.size w'.heap.size B [] ∧ Below w.heap.size w w' :=
  ⟨none, 0, h.1, Res.none _ _ _ (Nat.le_refl _), h.2⟩
theorem stateAt_both (n : Int) (ns : List (Int × Int × Int)) (h : ns.length ≤ 1048576) (k m : Int) : ∃ (r0 : List Int) (u0 : Int) (r1 : Bool), r0.length ≤ 1048576 ∧
    (∀ (w : World) (B : Option Addr) (c lo hi : Nat), NIns w lo hi B ns → Calls Try.prog 11 #[.int .i64 n, .agg #[.slice B ns.length c], .int .i64 k, .int .i64 m] w fun e w' => ∃ B d, e = .returned (.tuple #[.agg #[.slice B r0.length d, .int .i64 u0], .bool r1]) ∧ Res w' w.heap.size w'.heap.size B r0 ∧ Below w.heap.size w w') ∧
    (∀ (w : World) (B : Option Addr) (c lo hi : Nat), NIns w lo hi B ns → Calls Try.prog 9 #[.int .i64 n, .agg #[.slice B ns.length c], .int .i64 k, .int .i64 m] w fun e w' => ∃ B d, e = .returned (.tuple #[.agg #[.slice B r0.length d, .int .i64 u0], .bool r1]) ∧ Res w' w.heap.size w'.heap.size B r0 ∧ Below w.heap.size w w') := by
  cases hno : nodeB n ns k with
  | false => exact ⟨[], 0, false, by simp, fun w B c lo hi hS => (stateAt_impl_no1 n B c lo hi ns k m w hS h hno).mono fun _ _ => zero_state9, fun w B c lo hi hS => (stateAt_spec_no1 n B c lo hi ns k m w hS h hno).mono fun _ _ => zero_state9⟩
  | true =>
    obtain ⟨t, p, hT, rfl, hk⟩ := nodeB_of hno
    have hn12 := hT.n12
    obtain ⟨N, rfl⟩ : ∃ N : Nat, n = (N : Int) := ⟨n.toNat, by omega⟩
    cases hm : inB m 0 2 with
    | false => exact ⟨[], 0, false, by simp, fun w B c lo hi hS => (stateAt_impl_no2 N B c lo hi ns p m t w hS hT hk hm).mono fun _ _ => zero_state9, fun w B c lo hi hS => (stateAt_spec_no2 N B c lo hi ns p m t w hS hT hk hm).mono fun _ _ => zero_state9⟩
    | true => exact ⟨stTo N m (way9 t 0 p) (way9 t 0 p).length, m, true, by rw [stTo_len]; omega, fun w B c lo hi hS => stateAt_impl N B c lo hi ns p m t w hS hT hk hm, fun w B c lo hi hS => stateAt_spec N B c lo hi ns p m t w hS hT hk hm⟩
end Go.Proofs.Ytdkffkgoalgjmac
