/- IsBalanced: both sides. -/
import Derived.Test.YtdolonmjhlhkeabBal
namespace Go.Proofs.Ytdolonmjhlhkeab
open Go.RowKit Go.ChangeShapes Go.WideShapes
set_option linter.unusedVariables false

set_option maxRecDepth 100000 in
set_option maxHeartbeats 4000000 in
theorem isBalanced_impl (A : Option Addr) (c lo hi : Nat) (zs : List Int) (M q : Nat) (k : Int) (w : World) (hS : Ins w lo hi A zs) (hst : isSt zs (M : Int) = true) (hq : q ≤ 29) (hk : qOK zs.length k = true) :
    Calls Try.prog 33 #[.agg #[.slice A zs.length c, .int .i64 (M : Int)], .int .i64 k, .int .i64 ((q : Int) + 1)] w fun e w' => e = .returned (.tuple #[.bool (isBal q M zs k), .bool true]) ∧ Below w.heap.size w w' := by
  have hl := isSt_len hst
  have HB := Lib.hid ((Below.refl w.heap.size w).alloc (Nat.le_refl _) (.cells #[.slice A zs.length c, .int .i64 (M : Int)] 26))
  have HI := Lib.hid (hS.step HB.out)
  have HC := Lib.hid (fun W h => answerWeights_impl A c lo hi zs M q k W h hst hq hk)
  have b1 := behW_bd (M := M) k true (show q ≤ 30 by omega) hl.2.1
  have b2 := behW_bd (M := M) k false (show q ≤ 30 by omega) hl.2.1
  have HA := Lib.hid (fun W => areBalanced_any (behW q M zs k true : Int) (behW q M zs k false : Int) q W hq (by omega) (by omega))
  rw [← isBal_both] at HA
  generalize isBal q M zs k = r at HA ⊢
  generalize ((behW q M zs k true : Nat) : Int) = x1 at HA HC
  generalize ((behW q M zs k false : Nat) : Int) = x2 at HA HC
  clear hS hst hk hl b1 b2
  go_enter Try.func33, Try.ntmps33
  go_wp2_with fail
  generalize w.alloc (.cells #[.slice A zs.length c, .int .i64 (M : Int)] 26) = wa at HI HB ⊢
  refine (HC.out wa HI.out).mono ?_
  rintro e wb ⟨rfl, hb⟩
  replace HB := Lib.hid (below_trans HB.out hb)
  have HBn := Lib.hid (HB.out.alloc HB.out.size (.cells #[.int .i64 x1, .int .i64 x2] 42))
  clear hb HC HI HB
  have HN := Lib.hid (Two.new wb (.int .i64 x1) (.int .i64 x2) 42 wb.heap.size rfl)
  have h0 := HN.out.c0
  have h1 := HN.out.c1
  go_wp2_with fail
  refine (HA.out _).mono ?_
  rintro e w1 ⟨rfl, hb⟩
  have HB := Lib.hid (below_trans HBn.out hb)
  clear hb h0 h1
  go_wp2
  go_ret2
  exact ⟨rfl, HB.out⟩
set_option maxHeartbeats 4000000 in
theorem isBalanced_no (A : Option Addr) (c lo hi : Nat) (zs : List Int) (m k q : Int) (w : World) (hS : Ins w lo hi A zs) (hn : zs.length ≤ 1048576) (h : (asks zs m q && qOK zs.length k) = false) :
    Calls Try.prog 33 #[.agg #[.slice A zs.length c, .int .i64 m], .int .i64 k, .int .i64 q] w fun e w' => e = .returned (.tuple #[.bool false, .bool false]) ∧ Below w.heap.size w w' := by
  have HB := Lib.hid ((Below.refl w.heap.size w).alloc (Nat.le_refl _) (.cells #[.slice A zs.length c, .int .i64 m] 26))
  have HI := Lib.hid (hS.step HB.out)
  have HC := Lib.hid (fun W hW => answerWeights_no A c lo hi zs m k q W hW hn h)
  clear hS h
  go_enter Try.func33, Try.ntmps33
  go_wp2_with fail
  generalize w.alloc (.cells #[.slice A zs.length c, .int .i64 m] 26) = wa at HI HB ⊢
  refine (HC.out wa HI.out).mono ?_
  rintro e wb ⟨rfl, hb⟩
  replace HB := Lib.hid (below_trans HB.out hb)
  clear hb HC HI
  go_wp2
  go_ret2
  exact ⟨rfl, HB.out.alloc HB.out.size _⟩
set_option maxRecDepth 100000 in
set_option maxHeartbeats 4000000 in
theorem isBalanced_spec (A : Option Addr) (c lo hi : Nat) (zs : List Int) (M q : Nat) (k : Int) (w : World) (hS : Ins w lo hi A zs) (hst : isSt zs (M : Int) = true) (hq : q ≤ 29) (hk : qOK zs.length k = true) :
    Calls Try.prog 34 #[.agg #[.slice A zs.length c, .int .i64 (M : Int)], .int .i64 k, .int .i64 ((q : Int) + 1)] w fun e w' => e = .returned (.tuple #[.bool (isBal q M zs k), .bool true]) ∧ Below w.heap.size w w' := by
  have hl := isSt_len hst
  have HT := Lib.hid (Two.new w (.slice A zs.length c) (.int .i64 (M : Int)) 26 w.heap.size rfl)
  have HB := Lib.hid ((Below.refl w.heap.size w).alloc (Nat.le_refl _) (.cells #[.slice A zs.length c, .int .i64 (M : Int)] 26))
  have HI := Lib.hid (hS.step HB.out)
  have HC := Lib.hid (fun W h => l3Asks_any A c lo hi zs (M : Int) ((q : Int) + 1) W h (by omega))
  rw [asks_iff.2 ⟨hst, by omega, by omega⟩] at HC
  have HD := Lib.hid (fun W => l2Question_any A zs.length c (M : Int) k W)
  rw [hk] at HD
  have HM := Lib.hid (fun W h => l3Most_any A c lo hi zs M q k ((q : Int) + 1) W h hst hq rfl)
  have HP := Lib.hid (IntWalk.i64_in ((2 : Int) ^ q) (by have := pow_le30 q (by omega); omega))
  have HQ := Lib.hid (IntWalk.i64_in (q : Int) (by omega))
  have HE := Lib.hid (isBal_int (q := q) (M := M) (zs := zs) (k := k))
  clear hS hst hl hk
  go_enter Try.func34, Try.ntmps34
  go_wp2_with fail
  generalize w.alloc (.cells #[.slice A zs.length c, .int .i64 (M : Int)] 26) = wa at HT HI HB ⊢
  refine (HC.out wa HI.out).mono ?_
  rintro e wb ⟨rfl, hb⟩
  replace HT := Lib.hid (HT.out.step hb)
  replace HI := Lib.hid (HI.out.step hb)
  replace HB := Lib.hid (below_trans HB.out hb)
  clear hb HC
  have h0 := HT.out.c0
  have h1 := HT.out.c1
  go_wp2_with fail
  refine (HD.out _).mono ?_
  rintro e w1 ⟨rfl, hb⟩
  replace HT := Lib.hid (HT.out.step hb)
  replace HI := Lib.hid (HI.out.step hb)
  replace HB := Lib.hid (below_trans HB.out hb)
  clear hb HD h0 h1
  have h0 := HT.out.c0
  have h1 := HT.out.c1
  go_wp2_with fail
  have hq1 := HQ.out
  have hq2 := HP.out
  go_region_with (go_at_call 95; refine (HM.out w1.drew (HI.out.step (Below.refl _ w1).drew)).mono ?_; rintro e w2 ⟨rfl, hb⟩; have HB2 := Lib.hid (below_trans HB.out (below_trans (Below.refl _ w1).drew hb)); clear hb)
  all_goals
    go_wp2
    go_ret2
    rw [HE.out]
    exact ⟨rfl, HB2.out⟩
set_option maxHeartbeats 4000000 in
theorem isBalanced_spec_no (A : Option Addr) (c lo hi : Nat) (zs : List Int) (m k q : Int) (w : World) (hS : Ins w lo hi A zs) (hn : zs.length ≤ 1048576) (h : (asks zs m q && qOK zs.length k) = false) :
    Calls Try.prog 34 #[.agg #[.slice A zs.length c, .int .i64 m], .int .i64 k, .int .i64 q] w fun e w' => e = .returned (.tuple #[.bool false, .bool false]) ∧ Below w.heap.size w w' := by
  have HT := Lib.hid (Two.new w (.slice A zs.length c) (.int .i64 m) 26 w.heap.size rfl)
  have HB := Lib.hid ((Below.refl w.heap.size w).alloc (Nat.le_refl _) (.cells #[.slice A zs.length c, .int .i64 m] 26))
  have HI := Lib.hid (hS.step HB.out)
  have HC := Lib.hid (fun W h => l3Asks_any A c lo hi zs m q W h hn)
  have HD := Lib.hid (fun W => l2Question_any A zs.length c m k W)
  generalize asks zs m q = x at HC h
  generalize qOK zs.length k = y at HD h
  clear hS
  cases x
  · clear h
    go_enter Try.func34, Try.ntmps34
    go_wp2_with fail
    generalize w.alloc (.cells #[.slice A zs.length c, .int .i64 m] 26) = wa at HT HB HI ⊢
    refine (HC.out wa HI.out).mono ?_
    rintro e wd ⟨rfl, hb⟩
    replace HB := Lib.hid (below_trans HB.out hb)
    clear hb HC HT HI
    go_wp2
    go_ret2
    exact ⟨rfl, HB.out⟩
  · obtain rfl : y = false := by simpa using h
    clear h
    go_enter Try.func34, Try.ntmps34
    go_wp2_with fail
    generalize w.alloc (.cells #[.slice A zs.length c, .int .i64 m] 26) = wa at HT HB HI ⊢
    refine (HC.out wa HI.out).mono ?_
    rintro e wd ⟨rfl, hb⟩
    replace HT := Lib.hid (HT.out.step hb)
    replace HB := Lib.hid (below_trans HB.out hb)
    clear hb HC HI
    have h0 := HT.out.c0
    have h1 := HT.out.c1
    go_wp2_with fail
    refine (HD.out _).mono ?_
    rintro e w1 ⟨rfl, hb⟩
    replace HB := Lib.hid (below_trans HB.out hb)
    clear hb h0 h1 HT
    go_wp2
    go_ret2
    exact ⟨rfl, HB.out⟩
/-- What IsBalanced answers. -/
theorem isBalanced_both (zs : List Int) (m : Int) (h : zs.length ≤ 1048576) (k q : Int) : ∃ (r0 r1 : Bool),
    (∀ (w : World) (B : Option Addr) (c lo hi : Nat), Ins w lo hi B zs → Calls Try.prog 33 #[.agg #[.slice B zs.length c, .int .i64 m], .int .i64 k, .int .i64 q] w fun e w' => e = .returned (.tuple #[.bool r0, .bool r1]) ∧ Below w.heap.size w w') ∧
    (∀ (w : World) (B : Option Addr) (c lo hi : Nat), Ins w lo hi B zs → Calls Try.prog 34 #[.agg #[.slice B zs.length c, .int .i64 m], .int .i64 k, .int .i64 q] w fun e w' => e = .returned (.tuple #[.bool r0, .bool r1]) ∧ Below w.heap.size w w') := by
  cases hw : (asks zs m q && qOK zs.length k) with
  | true =>
    rw [Bool.and_eq_true] at hw
    obtain ⟨M, a, rfl, rfl, ha, hst⟩ := asks_nats hw.1
    exact ⟨isBal a M zs k, true, fun w B c lo hi hI => isBalanced_impl B c lo hi zs M a k w hI hst ha hw.2, fun w B c lo hi hI => isBalanced_spec B c lo hi zs M a k w hI hst ha hw.2⟩
  | false => exact ⟨false, false, fun w B c lo hi hI => isBalanced_no B c lo hi zs m k q w hI h hw, fun w B c lo hi hI => isBalanced_spec_no B c lo hi zs m k q w hI h hw⟩
end Go.Proofs.Ytdolonmjhlhkeab
