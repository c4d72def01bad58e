/- The answerer: fair and holding answers counted, questions that tell. -/
import Derived.Test.YtbgdnidbdfhgjaaL8O
import Derived.Test.YtbgdnidbdfhgjaaL8F
namespace Go.Proofs.Ytbgdnidbdfhgjaa
open Go.RowKit Go.ChangeShapes Go.WideShapes Go.Maps
set_option linter.unusedVariables false

set_option maxRecDepth 100000 in
set_option maxHeartbeats 8000000 in
theorem countFair_impl (A : Option Addr) (c lo hi : Nat) (zs : List Int) (m : Int) (A2 : Option Addr) (c2 lo2 hi2 : Nat) (qs : List Int) (w : World) (hS : Ins w lo hi A zs) (hQ : Ins w lo2 hi2 A2 qs) (hn : zs.length ≤ 1048576) (hn2 : qs.length ≤ 1048576) :
    Calls Try.prog 29 #[.agg #[.slice A zs.length c, .int .i64 m], .slice A2 qs.length c2] w fun e w' => e = .returned (.tuple #[.int .i64 (if lOK zs m qs = true then ((geC m zs qs 1 : Nat) : Int) else 0), .bool (lOK zs m qs)]) ∧ Below w.heap.size w w' := by
  have HT := Lib.hid (Two.new w (.slice A zs.length c) (.int .i64 m) 27 (w.heap.size) rfl)
  have HB := Lib.hid ((Below.refl w.heap.size w).alloc (Nat.le_refl _) (.cells #[.slice A zs.length c, .int .i64 m] 27))
  have HI := Lib.hid (hS.step HB.out)
  have HQ := Lib.hid (hQ.step HB.out)
  have HG := Lib.hid (fun W h h2 => areListed_any A c lo hi zs m A2 c2 lo2 hi2 qs W h h2 hn hn2)
  cases hok : lOK zs m qs with
  | false =>
    rw [hok] at HG
    rw [if_neg (by decide)]
    clear hS hQ hok
    go_enter Try.func29, Try.ntmps29
    go_wp2_with fail
    generalize w.alloc (.cells #[.slice A zs.length c, .int .i64 m] 27) = w0 at HT HB HI HQ ⊢
    have h0 := HT.out.c0
    have h1 := HT.out.c1
    with_reducible refine (HG.out _ HI.out HQ.out).mono ?_
    rintro e w1 ⟨rfl, hb⟩
    replace HT := Lib.hid (HT.out.step hb)
    replace HB := Lib.hid (below_trans HB.out hb)
    replace HI := Lib.hid (HI.out.step hb)
    replace HQ := Lib.hid (HQ.out.step hb)
    replace h0 := HT.out.c0
    replace h1 := HT.out.c1
    clear hb
    clear h0 h1
    go_wp2
    go_ret2
    exact ⟨rfl, HB.out⟩
  | true =>
    rw [hok] at HG
    have hL := lOK_iff.1 hok
    have HE := Lib.hid (fun W h h2 => countWith_any A c lo hi zs m A2 c2 lo2 hi2 qs W h h2 hL 1)
    rw [if_pos rfl]
    generalize geC m zs qs 1 = g at HE ⊢
    clear hS hQ hL hok
    go_enter Try.func29, Try.ntmps29
    go_wp2_with fail
    generalize w.alloc (.cells #[.slice A zs.length c, .int .i64 m] 27) = w0 at HT HB HI HQ ⊢
    have h0 := HT.out.c0
    have h1 := HT.out.c1
    with_reducible refine (HG.out _ HI.out HQ.out).mono ?_
    rintro e w1 ⟨rfl, hb⟩
    replace HT := Lib.hid (HT.out.step hb)
    replace HB := Lib.hid (below_trans HB.out hb)
    replace HI := Lib.hid (HI.out.step hb)
    replace HQ := Lib.hid (HQ.out.step hb)
    replace h0 := HT.out.c0
    replace h1 := HT.out.c1
    clear hb
    go_wp2_with fail
    with_reducible refine (HE.out w1 HI.out HQ.out).mono ?_
    rintro e w2 ⟨rfl, hb⟩
    replace HT := Lib.hid (HT.out.step hb)
    replace HB := Lib.hid (below_trans HB.out hb)
    replace HI := Lib.hid (HI.out.step hb)
    replace HQ := Lib.hid (HQ.out.step hb)
    replace h0 := HT.out.c0
    replace h1 := HT.out.c1
    clear hb
    clear h0 h1
    go_wp2
    go_ret2
    exact ⟨rfl, HB.out⟩
set_option maxRecDepth 100000 in
set_option maxHeartbeats 8000000 in
theorem countFair_spec (A : Option Addr) (c lo hi : Nat) (zs : List Int) (m : Int) (A2 : Option Addr) (c2 lo2 hi2 : Nat) (qs : List Int) (w : World) (hS : Ins w lo hi A zs) (hQ : Ins w lo2 hi2 A2 qs) (hn : zs.length ≤ 1048576) (hn2 : qs.length ≤ 1048576) :
    Calls Try.prog 28 #[.agg #[.slice A zs.length c, .int .i64 m], .slice A2 qs.length c2] w fun e w' => e = .returned (.tuple #[.int .i64 (if lOK zs m qs = true then ((geC m zs qs 1 : Nat) : Int) else 0), .bool (lOK zs m qs)]) ∧ Below w.heap.size w w' := by
  have HT := Lib.hid (Two.new w (.slice A zs.length c) (.int .i64 m) 27 (w.heap.size) rfl)
  have HB := Lib.hid ((Below.refl w.heap.size w).alloc (Nat.le_refl _) (.cells #[.slice A zs.length c, .int .i64 m] 27))
  have HI := Lib.hid (hS.step HB.out)
  have HQ := Lib.hid (hQ.step HB.out)
  have HG := Lib.hid (fun W h h2 => l8Good_any A c lo hi zs m A2 c2 lo2 hi2 qs W h h2 hn hn2)
  cases hok : lOK zs m qs with
  | false =>
    rw [hok] at HG
    rw [if_neg (by decide)]
    clear hS hQ hok
    go_enter Try.func28, Try.ntmps28
    go_wp2_with fail
    generalize w.alloc (.cells #[.slice A zs.length c, .int .i64 m] 27) = w0 at HT HB HI HQ ⊢
    have h0 := HT.out.c0
    have h1 := HT.out.c1
    with_reducible refine (HG.out _ HI.out HQ.out).mono ?_
    rintro e w1 ⟨rfl, hb⟩
    replace HT := Lib.hid (HT.out.step hb)
    replace HB := Lib.hid (below_trans HB.out hb)
    replace HI := Lib.hid (HI.out.step hb)
    replace HQ := Lib.hid (HQ.out.step hb)
    replace h0 := HT.out.c0
    replace h1 := HT.out.c1
    clear hb
    clear h0 h1
    go_wp2
    go_ret2
    exact ⟨rfl, HB.out⟩
  | true =>
    rw [hok] at HG
    have hL := lOK_iff.1 hok
    have HE := Lib.hid (fun W h h2 => l8Count_any A c lo hi zs m A2 c2 lo2 hi2 qs 1 W h h2 hL)
    rw [if_pos rfl]
    generalize geC m zs qs 1 = g at HE ⊢
    clear hS hQ hL hok
    go_enter Try.func28, Try.ntmps28
    go_wp2_with fail
    generalize w.alloc (.cells #[.slice A zs.length c, .int .i64 m] 27) = w0 at HT HB HI HQ ⊢
    have h0 := HT.out.c0
    have h1 := HT.out.c1
    with_reducible refine (HG.out _ HI.out HQ.out).mono ?_
    rintro e w1 ⟨rfl, hb⟩
    replace HT := Lib.hid (HT.out.step hb)
    replace HB := Lib.hid (below_trans HB.out hb)
    replace HI := Lib.hid (HI.out.step hb)
    replace HQ := Lib.hid (HQ.out.step hb)
    replace h0 := HT.out.c0
    replace h1 := HT.out.c1
    clear hb
    go_wp2_with fail
    with_reducible refine (HE.out w1 HI.out HQ.out).mono ?_
    rintro e w2 ⟨rfl, hb⟩
    replace HT := Lib.hid (HT.out.step hb)
    replace HB := Lib.hid (below_trans HB.out hb)
    replace HI := Lib.hid (HI.out.step hb)
    replace HQ := Lib.hid (HQ.out.step hb)
    replace h0 := HT.out.c0
    replace h1 := HT.out.c1
    clear hb
    clear h0 h1
    go_wp2
    go_ret2
    exact ⟨rfl, HB.out⟩
theorem countFair_both (zs : List Int) (m : Int) (h : zs.length ≤ 1048576) (qs : List Int) (h2 : qs.length ≤ 1048576) : ∃ (r0 : Int) (r1 : Bool),
    (∀ (w : World) (B : Option Addr) (c lo hi : Nat) (B2 : Option Addr) (c2 lo2 hi2 : Nat), Ins w lo hi B zs → Ins w lo2 hi2 B2 qs → Calls Try.prog 29 #[.agg #[.slice B zs.length c, .int .i64 m], .slice B2 qs.length c2] w fun e w' => e = .returned (.tuple #[.int .i64 r0, .bool r1]) ∧ Below w.heap.size w w') ∧
    (∀ (w : World) (B : Option Addr) (c lo hi : Nat) (B2 : Option Addr) (c2 lo2 hi2 : Nat), Ins w lo hi B zs → Ins w lo2 hi2 B2 qs → Calls Try.prog 28 #[.agg #[.slice B zs.length c, .int .i64 m], .slice B2 qs.length c2] w fun e w' => e = .returned (.tuple #[.int .i64 r0, .bool r1]) ∧ Below w.heap.size w w') :=
  ⟨_, _, fun w B c lo hi B2 c2 lo2 hi2 hS hS2 => countFair_impl B c lo hi zs m B2 c2 lo2 hi2 qs w hS hS2 h h2, fun w B c lo hi B2 c2 lo2 hi2 hS hS2 => countFair_spec B c lo hi zs m B2 c2 lo2 hi2 qs w hS hS2 h h2⟩
set_option maxRecDepth 100000 in
set_option maxHeartbeats 8000000 in
theorem countHolding_impl (A : Option Addr) (c lo hi : Nat) (zs : List Int) (m : Int) (A2 : Option Addr) (c2 lo2 hi2 : Nat) (qs : List Int) (w : World) (hS : Ins w lo hi A zs) (hQ : Ins w lo2 hi2 A2 qs) (hn : zs.length ≤ 1048576) (hn2 : qs.length ≤ 1048576) :
    Calls Try.prog 31 #[.agg #[.slice A zs.length c, .int .i64 m], .slice A2 qs.length c2] w fun e w' => e = .returned (.tuple #[.int .i64 (if lOK zs m qs = true then ((geC m zs qs 2 : Nat) : Int) else 0), .bool (lOK zs m qs)]) ∧ Below w.heap.size w w' := by
  have HT := Lib.hid (Two.new w (.slice A zs.length c) (.int .i64 m) 27 (w.heap.size) rfl)
  have HB := Lib.hid ((Below.refl w.heap.size w).alloc (Nat.le_refl _) (.cells #[.slice A zs.length c, .int .i64 m] 27))
  have HI := Lib.hid (hS.step HB.out)
  have HQ := Lib.hid (hQ.step HB.out)
  have HG := Lib.hid (fun W h h2 => areListed_any A c lo hi zs m A2 c2 lo2 hi2 qs W h h2 hn hn2)
  cases hok : lOK zs m qs with
  | false =>
    rw [hok] at HG
    rw [if_neg (by decide)]
    clear hS hQ hok
    go_enter Try.func31, Try.ntmps31
    go_wp2_with fail
    generalize w.alloc (.cells #[.slice A zs.length c, .int .i64 m] 27) = w0 at HT HB HI HQ ⊢
    have h0 := HT.out.c0
    have h1 := HT.out.c1
    with_reducible refine (HG.out _ HI.out HQ.out).mono ?_
    rintro e w1 ⟨rfl, hb⟩
    replace HT := Lib.hid (HT.out.step hb)
    replace HB := Lib.hid (below_trans HB.out hb)
    replace HI := Lib.hid (HI.out.step hb)
    replace HQ := Lib.hid (HQ.out.step hb)
    replace h0 := HT.out.c0
    replace h1 := HT.out.c1
    clear hb
    clear h0 h1
    go_wp2
    go_ret2
    exact ⟨rfl, HB.out⟩
  | true =>
    rw [hok] at HG
    have hL := lOK_iff.1 hok
    have HE := Lib.hid (fun W h h2 => countWith_any A c lo hi zs m A2 c2 lo2 hi2 qs W h h2 hL 2)
    rw [if_pos rfl]
    generalize geC m zs qs 2 = g at HE ⊢
    clear hS hQ hL hok
    go_enter Try.func31, Try.ntmps31
    go_wp2_with fail
    generalize w.alloc (.cells #[.slice A zs.length c, .int .i64 m] 27) = w0 at HT HB HI HQ ⊢
    have h0 := HT.out.c0
    have h1 := HT.out.c1
    with_reducible refine (HG.out _ HI.out HQ.out).mono ?_
    rintro e w1 ⟨rfl, hb⟩
    replace HT := Lib.hid (HT.out.step hb)
    replace HB := Lib.hid (below_trans HB.out hb)
    replace HI := Lib.hid (HI.out.step hb)
    replace HQ := Lib.hid (HQ.out.step hb)
    replace h0 := HT.out.c0
    replace h1 := HT.out.c1
    clear hb
    go_wp2_with fail
    with_reducible refine (HE.out w1 HI.out HQ.out).mono ?_
    rintro e w2 ⟨rfl, hb⟩
    replace HT := Lib.hid (HT.out.step hb)
    replace HB := Lib.hid (below_trans HB.out hb)
    replace HI := Lib.hid (HI.out.step hb)
    replace HQ := Lib.hid (HQ.out.step hb)
    replace h0 := HT.out.c0
    replace h1 := HT.out.c1
    clear hb
    clear h0 h1
    go_wp2
    go_ret2
    exact ⟨rfl, HB.out⟩
set_option maxRecDepth 100000 in
set_option maxHeartbeats 8000000 in
theorem countHolding_spec (A : Option Addr) (c lo hi : Nat) (zs : List Int) (m : Int) (A2 : Option Addr) (c2 lo2 hi2 : Nat) (qs : List Int) (w : World) (hS : Ins w lo hi A zs) (hQ : Ins w lo2 hi2 A2 qs) (hn : zs.length ≤ 1048576) (hn2 : qs.length ≤ 1048576) :
    Calls Try.prog 30 #[.agg #[.slice A zs.length c, .int .i64 m], .slice A2 qs.length c2] w fun e w' => e = .returned (.tuple #[.int .i64 (if lOK zs m qs = true then ((geC m zs qs 2 : Nat) : Int) else 0), .bool (lOK zs m qs)]) ∧ Below w.heap.size w w' := by
  have HT := Lib.hid (Two.new w (.slice A zs.length c) (.int .i64 m) 27 (w.heap.size) rfl)
  have HB := Lib.hid ((Below.refl w.heap.size w).alloc (Nat.le_refl _) (.cells #[.slice A zs.length c, .int .i64 m] 27))
  have HI := Lib.hid (hS.step HB.out)
  have HQ := Lib.hid (hQ.step HB.out)
  have HG := Lib.hid (fun W h h2 => l8Good_any A c lo hi zs m A2 c2 lo2 hi2 qs W h h2 hn hn2)
  cases hok : lOK zs m qs with
  | false =>
    rw [hok] at HG
    rw [if_neg (by decide)]
    clear hS hQ hok
    go_enter Try.func30, Try.ntmps30
    go_wp2_with fail
    generalize w.alloc (.cells #[.slice A zs.length c, .int .i64 m] 27) = w0 at HT HB HI HQ ⊢
    have h0 := HT.out.c0
    have h1 := HT.out.c1
    with_reducible refine (HG.out _ HI.out HQ.out).mono ?_
    rintro e w1 ⟨rfl, hb⟩
    replace HT := Lib.hid (HT.out.step hb)
    replace HB := Lib.hid (below_trans HB.out hb)
    replace HI := Lib.hid (HI.out.step hb)
    replace HQ := Lib.hid (HQ.out.step hb)
    replace h0 := HT.out.c0
    replace h1 := HT.out.c1
    clear hb
    clear h0 h1
    go_wp2
    go_ret2
    exact ⟨rfl, HB.out⟩
  | true =>
    rw [hok] at HG
    have hL := lOK_iff.1 hok
    have HE := Lib.hid (fun W h h2 => l8Count_any A c lo hi zs m A2 c2 lo2 hi2 qs 2 W h h2 hL)
    rw [if_pos rfl]
    generalize geC m zs qs 2 = g at HE ⊢
    clear hS hQ hL hok
    go_enter Try.func30, Try.ntmps30
    go_wp2_with fail
    generalize w.alloc (.cells #[.slice A zs.length c, .int .i64 m] 27) = w0 at HT HB HI HQ ⊢
    have h0 := HT.out.c0
    have h1 := HT.out.c1
    with_reducible refine (HG.out _ HI.out HQ.out).mono ?_
    rintro e w1 ⟨rfl, hb⟩
    replace HT := Lib.hid (HT.out.step hb)
    replace HB := Lib.hid (below_trans HB.out hb)
    replace HI := Lib.hid (HI.out.step hb)
    replace HQ := Lib.hid (HQ.out.step hb)
    replace h0 := HT.out.c0
    replace h1 := HT.out.c1
    clear hb
    go_wp2_with fail
    with_reducible refine (HE.out w1 HI.out HQ.out).mono ?_
    rintro e w2 ⟨rfl, hb⟩
    replace HT := Lib.hid (HT.out.step hb)
    replace HB := Lib.hid (below_trans HB.out hb)
    replace HI := Lib.hid (HI.out.step hb)
    replace HQ := Lib.hid (HQ.out.step hb)
    replace h0 := HT.out.c0
    replace h1 := HT.out.c1
    clear hb
    clear h0 h1
    go_wp2
    go_ret2
    exact ⟨rfl, HB.out⟩
theorem countHolding_both (zs : List Int) (m : Int) (h : zs.length ≤ 1048576) (qs : List Int) (h2 : qs.length ≤ 1048576) : ∃ (r0 : Int) (r1 : Bool),
    (∀ (w : World) (B : Option Addr) (c lo hi : Nat) (B2 : Option Addr) (c2 lo2 hi2 : Nat), Ins w lo hi B zs → Ins w lo2 hi2 B2 qs → Calls Try.prog 31 #[.agg #[.slice B zs.length c, .int .i64 m], .slice B2 qs.length c2] w fun e w' => e = .returned (.tuple #[.int .i64 r0, .bool r1]) ∧ Below w.heap.size w w') ∧
    (∀ (w : World) (B : Option Addr) (c lo hi : Nat) (B2 : Option Addr) (c2 lo2 hi2 : Nat), Ins w lo hi B zs → Ins w lo2 hi2 B2 qs → Calls Try.prog 30 #[.agg #[.slice B zs.length c, .int .i64 m], .slice B2 qs.length c2] w fun e w' => e = .returned (.tuple #[.int .i64 r0, .bool r1]) ∧ Below w.heap.size w w') :=
  ⟨_, _, fun w B c lo hi B2 c2 lo2 hi2 hS hS2 => countHolding_impl B c lo hi zs m B2 c2 lo2 hi2 qs w hS hS2 h h2, fun w B c lo hi B2 c2 lo2 hi2 hS hS2 => countHolding_spec B c lo hi zs m B2 c2 lo2 hi2 qs w hS hS2 h h2⟩
set_option maxRecDepth 100000 in
set_option maxHeartbeats 8000000 in
theorem doTell_impl (A : Option Addr) (c lo hi : Nat) (zs : List Int) (m : Int) (A2 : Option Addr) (c2 lo2 hi2 : Nat) (qs : List Int) (w : World) (hS : Ins w lo hi A zs) (hQ : Ins w lo2 hi2 A2 qs) (hn : zs.length ≤ 1048576) (hn2 : qs.length ≤ 1048576) :
    Calls Try.prog 36 #[.agg #[.slice A zs.length c, .int .i64 m], .slice A2 qs.length c2] w fun e w' => e = .returned (.tuple #[.bool (if lOK zs m qs = true then tellB m zs qs else false), .bool (lOK zs m qs)]) ∧ Below w.heap.size w w' := by
  have HT := Lib.hid (Two.new w (.slice A zs.length c) (.int .i64 m) 27 (w.heap.size) rfl)
  have HB := Lib.hid ((Below.refl w.heap.size w).alloc (Nat.le_refl _) (.cells #[.slice A zs.length c, .int .i64 m] 27))
  have HI := Lib.hid (hS.step HB.out)
  have HQ := Lib.hid (hQ.step HB.out)
  have HG := Lib.hid (fun W h h2 => areListed_any A c lo hi zs m A2 c2 lo2 hi2 qs W h h2 hn hn2)
  cases hok : lOK zs m qs with
  | false =>
    rw [hok] at HG
    rw [if_neg (by decide)]
    clear hS hQ hok
    go_enter Try.func36, Try.ntmps36
    go_wp2_with fail
    generalize w.alloc (.cells #[.slice A zs.length c, .int .i64 m] 27) = w0 at HT HB HI HQ ⊢
    have h0 := HT.out.c0
    have h1 := HT.out.c1
    with_reducible refine (HG.out _ HI.out HQ.out).mono ?_
    rintro e w1 ⟨rfl, hb⟩
    replace HT := Lib.hid (HT.out.step hb)
    replace HB := Lib.hid (below_trans HB.out hb)
    replace HI := Lib.hid (HI.out.step hb)
    replace HQ := Lib.hid (HQ.out.step hb)
    replace h0 := HT.out.c0
    replace h1 := HT.out.c1
    clear hb
    clear h0 h1
    go_wp2
    go_ret2
    exact ⟨rfl, HB.out⟩
  | true =>
    rw [hok] at HG
    have hL := lOK_iff.1 hok
    have HE := Lib.hid (fun W h h2 => tells_any A c lo hi zs m A2 c2 lo2 hi2 qs W h h2 hL)
    rw [if_pos rfl]
    generalize tellB m zs qs = g at HE ⊢
    clear hS hQ hL hok
    go_enter Try.func36, Try.ntmps36
    go_wp2_with fail
    generalize w.alloc (.cells #[.slice A zs.length c, .int .i64 m] 27) = w0 at HT HB HI HQ ⊢
    have h0 := HT.out.c0
    have h1 := HT.out.c1
    with_reducible refine (HG.out _ HI.out HQ.out).mono ?_
    rintro e w1 ⟨rfl, hb⟩
    replace HT := Lib.hid (HT.out.step hb)
    replace HB := Lib.hid (below_trans HB.out hb)
    replace HI := Lib.hid (HI.out.step hb)
    replace HQ := Lib.hid (HQ.out.step hb)
    replace h0 := HT.out.c0
    replace h1 := HT.out.c1
    clear hb
    go_wp2_with fail
    with_reducible refine (HE.out w1 HI.out HQ.out).mono ?_
    rintro e w2 ⟨rfl, hb⟩
    replace HT := Lib.hid (HT.out.step hb)
    replace HB := Lib.hid (below_trans HB.out hb)
    replace HI := Lib.hid (HI.out.step hb)
    replace HQ := Lib.hid (HQ.out.step hb)
    replace h0 := HT.out.c0
    replace h1 := HT.out.c1
    clear hb
    clear h0 h1
    go_wp2
    go_ret2
    exact ⟨rfl, HB.out⟩
set_option maxRecDepth 100000 in
set_option maxHeartbeats 8000000 in
theorem doTell_spec (A : Option Addr) (c lo hi : Nat) (zs : List Int) (m : Int) (A2 : Option Addr) (c2 lo2 hi2 : Nat) (qs : List Int) (w : World) (hS : Ins w lo hi A zs) (hQ : Ins w lo2 hi2 A2 qs) (hn : zs.length ≤ 1048576) (hn2 : qs.length ≤ 1048576) :
    Calls Try.prog 35 #[.agg #[.slice A zs.length c, .int .i64 m], .slice A2 qs.length c2] w fun e w' => e = .returned (.tuple #[.bool (if lOK zs m qs = true then tellB m zs qs else false), .bool (lOK zs m qs)]) ∧ Below w.heap.size w w' := by
  have HT := Lib.hid (Two.new w (.slice A zs.length c) (.int .i64 m) 27 (w.heap.size) rfl)
  have HB := Lib.hid ((Below.refl w.heap.size w).alloc (Nat.le_refl _) (.cells #[.slice A zs.length c, .int .i64 m] 27))
  have HI := Lib.hid (hS.step HB.out)
  have HQ := Lib.hid (hQ.step HB.out)
  have HG := Lib.hid (fun W h h2 => l8Good_any A c lo hi zs m A2 c2 lo2 hi2 qs W h h2 hn hn2)
  cases hok : lOK zs m qs with
  | false =>
    rw [hok] at HG
    rw [if_neg (by decide)]
    clear hS hQ hok
    go_enter Try.func35, Try.ntmps35
    go_wp2_with fail
    generalize w.alloc (.cells #[.slice A zs.length c, .int .i64 m] 27) = w0 at HT HB HI HQ ⊢
    have h0 := HT.out.c0
    have h1 := HT.out.c1
    with_reducible refine (HG.out _ HI.out HQ.out).mono ?_
    rintro e w1 ⟨rfl, hb⟩
    replace HT := Lib.hid (HT.out.step hb)
    replace HB := Lib.hid (below_trans HB.out hb)
    replace HI := Lib.hid (HI.out.step hb)
    replace HQ := Lib.hid (HQ.out.step hb)
    replace h0 := HT.out.c0
    replace h1 := HT.out.c1
    clear hb
    clear h0 h1
    go_wp2
    go_ret2
    exact ⟨rfl, HB.out⟩
  | true =>
    rw [hok] at HG
    have hL := lOK_iff.1 hok
    have HE := Lib.hid (fun W h h2 => l8Tell_any A c lo hi zs m A2 c2 lo2 hi2 qs W h h2 hL)
    rw [if_pos rfl]
    generalize tellB m zs qs = g at HE ⊢
    clear hS hQ hL hok
    go_enter Try.func35, Try.ntmps35
    go_wp2_with fail
    generalize w.alloc (.cells #[.slice A zs.length c, .int .i64 m] 27) = w0 at HT HB HI HQ ⊢
    have h0 := HT.out.c0
    have h1 := HT.out.c1
    with_reducible refine (HG.out _ HI.out HQ.out).mono ?_
    rintro e w1 ⟨rfl, hb⟩
    replace HT := Lib.hid (HT.out.step hb)
    replace HB := Lib.hid (below_trans HB.out hb)
    replace HI := Lib.hid (HI.out.step hb)
    replace HQ := Lib.hid (HQ.out.step hb)
    replace h0 := HT.out.c0
    replace h1 := HT.out.c1
    clear hb
    go_wp2_with fail
    with_reducible refine (HE.out w1 HI.out HQ.out).mono ?_
    rintro e w2 ⟨rfl, hb⟩
    replace HT := Lib.hid (HT.out.step hb)
    replace HB := Lib.hid (below_trans HB.out hb)
    replace HI := Lib.hid (HI.out.step hb)
    replace HQ := Lib.hid (HQ.out.step hb)
    replace h0 := HT.out.c0
    replace h1 := HT.out.c1
    clear hb
    clear h0 h1
    go_wp2
    go_ret2
    exact ⟨rfl, HB.out⟩
theorem doTell_both (zs : List Int) (m : Int) (h : zs.length ≤ 1048576) (qs : List Int) (h2 : qs.length ≤ 1048576) : ∃ (r0 : Bool) (r1 : Bool),
    (∀ (w : World) (B : Option Addr) (c lo hi : Nat) (B2 : Option Addr) (c2 lo2 hi2 : Nat), Ins w lo hi B zs → Ins w lo2 hi2 B2 qs → Calls Try.prog 36 #[.agg #[.slice B zs.length c, .int .i64 m], .slice B2 qs.length c2] w fun e w' => e = .returned (.tuple #[.bool r0, .bool r1]) ∧ Below w.heap.size w w') ∧
    (∀ (w : World) (B : Option Addr) (c lo hi : Nat) (B2 : Option Addr) (c2 lo2 hi2 : Nat), Ins w lo hi B zs → Ins w lo2 hi2 B2 qs → Calls Try.prog 35 #[.agg #[.slice B zs.length c, .int .i64 m], .slice B2 qs.length c2] w fun e w' => e = .returned (.tuple #[.bool r0, .bool r1]) ∧ Below w.heap.size w w') :=
  ⟨_, _, fun w B c lo hi B2 c2 lo2 hi2 hS hS2 => doTell_impl B c lo hi zs m B2 c2 lo2 hi2 qs w hS hS2 h h2, fun w B c lo hi B2 c2 lo2 hi2 hS hS2 => doTell_spec B c lo hi zs m B2 c2 lo2 hi2 qs w hS hS2 h h2⟩
end Go.Proofs.Ytbgdnidbdfhgjaa
