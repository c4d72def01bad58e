/- StateWeight, NumberWeight, RoomOf, BoundOf, MostByWeight: both sides. -/
import Derived.Test.YtdolonmjhlhkeabWeigh
import Derived.Test.YtdolonmjhlhkeabTold
namespace Go.Proofs.Ytdolonmjhlhkeab
open Go.RowKit Go.ChangeShapes Go.WideShapes
set_option linter.unusedVariables false

set_option maxRecDepth 100000 in
set_option maxHeartbeats 4000000 in
theorem stateWeight_spec (A : Option Addr) (c lo hi : Nat) (zs : List Int) (M q : Nat) (w : World) (hS : Ins w lo hi A zs) (hst : isSt zs (M : Int) = true) (hq : q ≤ 30) :
    Calls Try.prog 11 #[.agg #[.slice A zs.length c, .int .i64 (M : Int)], .int .i64 (q : Int)] w fun e w' => e = .returned (.tuple #[.int .i64 (stW q M zs : Int), .bool true]) ∧ Below w.heap.size w w' := by
  have hl := isSt_len hst
  have HT := Lib.hid (Two.new w (.slice A zs.length c) (.int .i64 (M : Int)) 26 w.heap.size rfl)
  have HB := Lib.hid ((Below.refl w.heap.size w).alloc (Nat.le_refl _) (.cells #[.slice A zs.length c, .int .i64 (M : Int)] 26))
  have HI := Lib.hid (hS.step HB.out)
  have HC := Lib.hid (fun W h => l2State_any A c lo hi zs (M : Int) W h (by omega))
  rw [hst] at HC
  have HD := Lib.hid (fun W => l3Ahead_any (q : Int) W)
  rw [inB_t (x := (q : Int)) (a := 0) (b := 30) (by omega) (by omega)] at HD
  have HW := Lib.hid (fun W h => l3Weight_any A c lo hi zs M q W h hst hq)
  clear hS hst hl
  go_enter Try.func11, Try.ntmps11
  go_wp2_with fail
  generalize w.alloc (.cells #[.slice A zs.length c, .int .i64 (M : Int)] 26) = wa at HT HI HB ⊢
  refine (HC.out wa HI.out).mono ?_
  rintro e wb ⟨rfl, hb⟩
  replace HT := Lib.hid (HT.out.step hb)
  replace HI := Lib.hid (HI.out.step hb)
  replace HB := Lib.hid (below_trans HB.out hb)
  clear hb HC
  have h0 := HT.out.c0
  have h1 := HT.out.c1
  go_wp2_with fail
  refine (HD.out _).mono ?_
  rintro e w1 ⟨rfl, hw⟩
  have hw := hw.symm
  subst hw
  go_wp2_with fail
  refine (HW.out _ HI.out).mono ?_
  rintro e w2 ⟨rfl, hb⟩
  replace HB := Lib.hid (below_trans HB.out hb)
  clear hb h0 h1 HT HI
  go_wp2
  go_ret2
  exact ⟨rfl, HB.out⟩
set_option maxHeartbeats 4000000 in
theorem stateWeight_spec_no (A : Option Addr) (c lo hi : Nat) (zs : List Int) (m q : Int) (w : World) (hS : Ins w lo hi A zs) (hn : zs.length ≤ 1048576) (h : wOK zs m q = false) :
    Calls Try.prog 11 #[.agg #[.slice A zs.length c, .int .i64 m], .int .i64 q] w fun e w' => e = .returned (.tuple #[.int .i64 0, .bool false]) ∧ Below w.heap.size w w' := by
  have HB := Lib.hid ((Below.refl w.heap.size w).alloc (Nat.le_refl _) (.cells #[.slice A zs.length c, .int .i64 m] 26))
  have HI := Lib.hid (hS.step HB.out)
  have HC := Lib.hid (fun W h => l2State_any A c lo hi zs m W h hn)
  have HD := Lib.hid (fun W => l3Ahead_any q W)
  clear hS
  rcases wOK_no h with h1 | ⟨h1, h2⟩
  · rw [h1] at HC
    clear h h1
    go_enter Try.func11, Try.ntmps11
    go_wp2_with fail
    generalize w.alloc (.cells #[.slice A zs.length c, .int .i64 m] 26) = wa at HI HB ⊢
    refine (HC.out wa HI.out).mono ?_
    rintro e wb ⟨rfl, hb⟩
    replace HB := Lib.hid (below_trans HB.out hb)
    clear hb HC
    go_wp2
    go_ret2
    exact ⟨rfl, HB.out⟩
  · rw [h1] at HC
    rw [h2] at HD
    clear h h1 h2
    go_enter Try.func11, Try.ntmps11
    go_wp2_with fail
    generalize w.alloc (.cells #[.slice A zs.length c, .int .i64 m] 26) = wa at HI HB ⊢
    refine (HC.out wa HI.out).mono ?_
    rintro e wb ⟨rfl, hb⟩
    replace HB := Lib.hid (below_trans HB.out hb)
    clear hb HC
    go_wp2_with fail
    refine (HD.out _).mono ?_
    rintro e w1 ⟨rfl, hw⟩
    have hw := hw.symm
    subst hw
    go_wp2
    go_ret2
    exact ⟨rfl, HB.out⟩
/-- A valid State and questions ahead, as numbers. -/
theorem wOK_nats {zs : List Int} {m q : Int} (h : wOK zs m q = true) : ∃ M k : Nat, m = (M : Int) ∧ q = (k : Int) ∧ k ≤ 30 ∧ isSt zs (M : Int) = true := by
  obtain ⟨h1, h2, h3⟩ := wOK_iff.1 h
  have hl := isSt_len h1
  refine ⟨m.toNat, q.toNat, by omega, by omega, by omega, ?_⟩
  rw [show ((m.toNat : Nat) : Int) = m by omega]
  exact h1
/-- What StateWeight answers. -/
theorem stateWeight_both (zs : List Int) (m : Int) (h : zs.length ≤ 1048576) (q : Int) : ∃ (r0 : Int) (r1 : Bool),
    (∀ (w : World) (B : Option Addr) (c lo hi : Nat), Ins w lo hi B zs → Calls Try.prog 10 #[.agg #[.slice B zs.length c, .int .i64 m], .int .i64 q] w fun e w' => e = .returned (.tuple #[.int .i64 r0, .bool r1]) ∧ Below w.heap.size w w') ∧
    (∀ (w : World) (B : Option Addr) (c lo hi : Nat), Ins w lo hi B zs → Calls Try.prog 11 #[.agg #[.slice B zs.length c, .int .i64 m], .int .i64 q] w fun e w' => e = .returned (.tuple #[.int .i64 r0, .bool r1]) ∧ Below w.heap.size w w') := by
  cases hw : wOK zs m q with
  | true =>
    obtain ⟨M, k, rfl, rfl, hk, hst⟩ := wOK_nats hw
    exact ⟨stW k M zs, true, fun w B c lo hi hI => stateWeight_impl B c lo hi zs M k w hI hst hk, fun w B c lo hi hI => stateWeight_spec B c lo hi zs M k w hI hst hk⟩
  | false => exact ⟨0, false, fun w B c lo hi hI => stateWeight_no B c lo hi zs m q w hI h hw, fun w B c lo hi hI => stateWeight_spec_no B c lo hi zs m q w hI h hw⟩

set_option maxRecDepth 100000 in
set_option maxHeartbeats 4000000 in
theorem roomOf_impl (A : Option Addr) (c lo hi : Nat) (zs : List Int) (M q : Nat) (w : World) (hS : Ins w lo hi A zs) (hst : isSt zs (M : Int) = true) (hq : q ≤ 30) :
    Calls Try.prog 12 #[.agg #[.slice A zs.length c, .int .i64 (M : Int)], .int .i64 (q : Int)] w fun e w' => e = .returned (.tuple #[.int .i64 ((2 : Int) ^ q - (stW q M zs : Int)), .bool true]) ∧ Below w.heap.size w w' := by
  have HB := Lib.hid ((Below.refl w.heap.size w).alloc (Nat.le_refl _) (.cells #[.slice A zs.length c, .int .i64 (M : Int)] 26))
  have HI := Lib.hid (hS.step HB.out)
  have HW := Lib.hid (fun W h => stateWeight_impl A c lo hi zs M q W h hst hq)
  have hp := pow_le30 q hq
  have hsb := stW_bd (M := M) hq (isSt_len hst).2.1
  generalize stW q M zs = x at HW hsb ⊢
  clear hS hst
  go_enter Try.func12, Try.ntmps12
  go_wp2_with fail
  generalize w.alloc (.cells #[.slice A zs.length c, .int .i64 (M : Int)] 26) = wa at HI HB ⊢
  refine (HW.out wa HI.out).mono ?_
  rintro e wb ⟨rfl, hb⟩
  replace HB := Lib.hid (below_trans HB.out hb)
  clear hb HI HW
  go_wp2
  go_ret2
  exact ⟨rfl, HB.out⟩
theorem roomOf_no (A : Option Addr) (c lo hi : Nat) (zs : List Int) (m q : Int) (w : World) (hS : Ins w lo hi A zs) (hn : zs.length ≤ 1048576) (h : wOK zs m q = false) :
    Calls Try.prog 12 #[.agg #[.slice A zs.length c, .int .i64 m], .int .i64 q] w fun e w' => e = .returned (.tuple #[.int .i64 0, .bool false]) ∧ Below w.heap.size w w' := by
  have HB := Lib.hid ((Below.refl w.heap.size w).alloc (Nat.le_refl _) (.cells #[.slice A zs.length c, .int .i64 m] 26))
  have HI := Lib.hid (hS.step HB.out)
  have HW := Lib.hid (fun W hI => stateWeight_no A c lo hi zs m q W hI hn h)
  clear hS h
  go_enter Try.func12, Try.ntmps12
  go_wp2_with fail
  generalize w.alloc (.cells #[.slice A zs.length c, .int .i64 m] 26) = wa at HI HB ⊢
  refine (HW.out wa HI.out).mono ?_
  rintro e wb ⟨rfl, hb⟩
  replace HB := Lib.hid (below_trans HB.out hb)
  clear hb HI HW
  go_wp2
  go_ret2
  exact ⟨rfl, HB.out⟩
set_option maxRecDepth 100000 in
set_option maxHeartbeats 4000000 in
theorem roomOf_spec (A : Option Addr) (c lo hi : Nat) (zs : List Int) (M q : Nat) (w : World) (hS : Ins w lo hi A zs) (hst : isSt zs (M : Int) = true) (hq : q ≤ 30) :
    Calls Try.prog 13 #[.agg #[.slice A zs.length c, .int .i64 (M : Int)], .int .i64 (q : Int)] w fun e w' => e = .returned (.tuple #[.int .i64 ((2 : Int) ^ q - (stW q M zs : Int)), .bool true]) ∧ Below w.heap.size w w' := by
  have hl := isSt_len hst
  have HT := Lib.hid (Two.new w (.slice A zs.length c) (.int .i64 (M : Int)) 26 w.heap.size rfl)
  have HB := Lib.hid ((Below.refl w.heap.size w).alloc (Nat.le_refl _) (.cells #[.slice A zs.length c, .int .i64 (M : Int)] 26))
  have HI := Lib.hid (hS.step HB.out)
  have HC := Lib.hid (fun W h => l2State_any A c lo hi zs (M : Int) W h (by omega))
  rw [hst] at HC
  have HD := Lib.hid (fun W => l3Ahead_any (q : Int) W)
  rw [inB_t (x := (q : Int)) (a := 0) (b := 30) (by omega) (by omega)] at HD
  have HW := Lib.hid (fun W h => l3Weight_any A c lo hi zs M q W h hst hq)
  have hp := pow_le30 q hq
  have HP := Lib.hid (wrap_pow30 q hq)
  have hsb := stW_bd (M := M) hq (isSt_len hst).2.1
  generalize stW q M zs = x at HW hsb ⊢
  clear hS hst hl
  go_enter Try.func13, Try.ntmps13
  go_wp2_with fail
  generalize w.alloc (.cells #[.slice A zs.length c, .int .i64 (M : Int)] 26) = wa at HT HI HB ⊢
  refine (HC.out wa HI.out).mono ?_
  rintro e wb ⟨rfl, hb⟩
  replace HT := Lib.hid (HT.out.step hb)
  replace HI := Lib.hid (HI.out.step hb)
  replace HB := Lib.hid (below_trans HB.out hb)
  clear hb HC
  have h0 := HT.out.c0
  have h1 := HT.out.c1
  go_wp2_with fail
  refine (HD.out _).mono ?_
  rintro e w1 ⟨rfl, hw⟩
  have hw := hw.symm
  subst hw
  go_wp2_with fail
  go_region_with (go_at_call 77; refine (HW.out wb.drew (HI.out.step ((Below.refl _ wb).drew))).mono ?_; rintro e w2 ⟨rfl, hb⟩; have HB2 := Lib.hid (below_trans HB.out (below_trans ((Below.refl _ wb).drew) hb)); clear hb)
  all_goals
    go_wp2
    go_ret2
    first
    | exact ⟨rfl, HB2.out⟩
    | (refine ⟨?_, HB2.out⟩; show Ending.returned (.tuple #[.int .i64 (IntKind.i64.wrap (IntKind.i64.wrap (2 ^ q) - (x : Int))), .bool true]) = _; rw [IntWalk.i64_in (2 ^ q) (by omega), IntWalk.i64_in _ (by omega)])

set_option maxHeartbeats 4000000 in
theorem roomOf_spec_no (A : Option Addr) (c lo hi : Nat) (zs : List Int) (m q : Int) (w : World) (hS : Ins w lo hi A zs) (hn : zs.length ≤ 1048576) (h : wOK zs m q = false) :
    Calls Try.prog 13 #[.agg #[.slice A zs.length c, .int .i64 m], .int .i64 q] w fun e w' => e = .returned (.tuple #[.int .i64 0, .bool false]) ∧ Below w.heap.size w w' := by
  have HB := Lib.hid ((Below.refl w.heap.size w).alloc (Nat.le_refl _) (.cells #[.slice A zs.length c, .int .i64 m] 26))
  have HI := Lib.hid (hS.step HB.out)
  have HC := Lib.hid (fun W h => l2State_any A c lo hi zs m W h hn)
  have HD := Lib.hid (fun W => l3Ahead_any q W)
  clear hS
  rcases wOK_no h with h1 | ⟨h1, h2⟩
  · rw [h1] at HC
    clear h h1
    go_enter Try.func13, Try.ntmps13
    go_wp2_with fail
    generalize w.alloc (.cells #[.slice A zs.length c, .int .i64 m] 26) = wa at HI HB ⊢
    refine (HC.out wa HI.out).mono ?_
    rintro e wb ⟨rfl, hb⟩
    replace HB := Lib.hid (below_trans HB.out hb)
    clear hb HC
    go_wp2
    go_ret2
    exact ⟨rfl, HB.out⟩
  · rw [h1] at HC
    rw [h2] at HD
    clear h h1 h2
    go_enter Try.func13, Try.ntmps13
    go_wp2_with fail
    generalize w.alloc (.cells #[.slice A zs.length c, .int .i64 m] 26) = wa at HI HB ⊢
    refine (HC.out wa HI.out).mono ?_
    rintro e wb ⟨rfl, hb⟩
    replace HB := Lib.hid (below_trans HB.out hb)
    clear hb HC
    go_wp2_with fail
    refine (HD.out _).mono ?_
    rintro e w1 ⟨rfl, hw⟩
    have hw := hw.symm
    subst hw
    go_wp2
    go_ret2
    exact ⟨rfl, HB.out⟩
/-- What RoomOf answers. -/
theorem roomOf_both (zs : List Int) (m : Int) (h : zs.length ≤ 1048576) (q : Int) : ∃ (r0 : Int) (r1 : Bool),
    (∀ (w : World) (B : Option Addr) (c lo hi : Nat), Ins w lo hi B zs → Calls Try.prog 12 #[.agg #[.slice B zs.length c, .int .i64 m], .int .i64 q] w fun e w' => e = .returned (.tuple #[.int .i64 r0, .bool r1]) ∧ Below w.heap.size w w') ∧
    (∀ (w : World) (B : Option Addr) (c lo hi : Nat), Ins w lo hi B zs → Calls Try.prog 13 #[.agg #[.slice B zs.length c, .int .i64 m], .int .i64 q] w fun e w' => e = .returned (.tuple #[.int .i64 r0, .bool r1]) ∧ Below w.heap.size w w') := by
  cases hw : wOK zs m q with
  | true =>
    obtain ⟨M, k, rfl, rfl, hk, hst⟩ := wOK_nats hw
    exact ⟨2 ^ k - (stW k M zs : Int), true, fun w B c lo hi hI => roomOf_impl B c lo hi zs M k w hI hst hk, fun w B c lo hi hI => roomOf_spec B c lo hi zs M k w hI hst hk⟩
  | false => exact ⟨0, false, fun w B c lo hi hI => roomOf_no B c lo hi zs m q w hI h hw, fun w B c lo hi hI => roomOf_spec_no B c lo hi zs m q w hI h hw⟩
end Go.Proofs.Ytdolonmjhlhkeab
