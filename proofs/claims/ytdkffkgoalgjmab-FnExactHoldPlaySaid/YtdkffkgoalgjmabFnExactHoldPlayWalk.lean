/- The law FnExactHoldPlay: its walk over the two functions' contracts. -/
import Derived.Test.YtdkffkgoalgjmabMplay
import Derived.Test.YtdkffkgoalgjmabMark2
namespace Go.Proofs.Ytdkffkgoalgjmab
open Go.RowKit
set_option linter.unusedVariables false

set_option maxRecDepth 100000 in
set_option maxHeartbeats 40000000 in
theorem fnExactHoldPlay_walk (As : Option Addr) (cs : Nat) (s : List Int) (ms : Int) (At : Option Addr) (ct : Nat) (t : List Int) (W : World) (hSs : Ints W 0 W.heap.size As s) (hcs : s.length ≤ cs) (hcms : cs ≤ maxLen) (wms : (Lit.int .i64 ms).wf = true) (hSt : Ints W 0 W.heap.size At t) (hct : t.length ≤ ct) (hcmt : ct ≤ maxLen) (hsh : W.ShapedOpen Try.prog) :
    Calls Try.prog 14 #[.agg #[.slice As s.length cs, .int .i64 ms], .slice At t.length ct] W fun e w' => e = .returned (.bool true) ∧ Below W.heap.size W w' := by
  clear hsh
  unfold maxLen at hcms
  unfold maxLen at hcmt
  by_cases ht : t.length ≤ 1048576
  case neg =>
    clear hSs hcs hSt hct
    go_enter Try.func14, Try.ntmps14
    go_wp2
    go_ret
    exact ⟨rfl, (Below.refl _ _).alloc (Nat.le_refl _) _⟩
  have hkeept := ht
  have C0 := Lib.hid (fun w => szState_any As cs s.length ms 1048576 w (by unfold maxLen; omega) (by omega))
  rw [show (((1048576 : Nat) : Int)) = 1048576 from rfl] at C0
  by_cases hs : s.length ≤ 1048576
  · rw [szI_yes hs] at C0
    have hz : (0 : Int) ≤ ((1048576 - s.length : Nat) : Int) := by omega
    generalize ((1048576 - s.length : Nat) : Int) = z at C0 hz
    obtain ⟨r0, r1, u1, r2, l0, l1, hI, hC⟩ := holdPlay_both s ms hs t ht
    have CI := Lib.hid hI
    have CS := Lib.hid hC
    clear hI hC
    have HIs := Lib.hid (Ins.mk hSs (Nat.le_refl _))
    have HIt := Lib.hid (Ins.mk hSt (Nat.le_refl _))
    have HB := Lib.hid (Below.refl W.heap.size W)
    have HXs := Lib.hid (Arg.next HB.out (.slice As s.length cs) (.int .i64 ms) 33 (W.heap.size) rfl)
    replace HB := Lib.hid (HXs.out.below)
    replace HIs := Lib.hid (HIs.out.step HB.out)
    clear hSs hcs
    replace HIt := Lib.hid (HIt.out.step HB.out)
    clear hSt hct
    have ZB := Lib.hid HB.out.size
    have ZXs : Hid (W.heap.size < (W.alloc (.cells #[.slice As s.length cs, .int .i64 ms] 33)).heap.size) := HXs.out.hi
    go_enter Try.func14, Try.ntmps14
    go_wp2_with fail
    generalize (W.alloc (.cells #[.slice As s.length cs, .int .i64 ms] 33)) = w0 at HIs HIt ZB HB HXs ZXs⊢
    have h0s := HXs.out.c0
    have h1s := HXs.out.c1
    go_wp2_with fail
    refine (C0.out _).mono ?_
    rintro e w1 ⟨rfl, hb⟩
    have Z0 := Lib.hid hb.size
    replace HIs := Lib.hid (HIs.out.step hb)
    replace HIt := Lib.hid (HIt.out.step hb)
    replace HXs := Lib.hid (HXs.out.step hb)
    replace HB := Lib.hid (below_trans HB.out hb)
    replace h0s := HXs.out.c0
    replace h1s := HXs.out.c1
    clear hb
    clear C0
    go_wp2_with fail
    refine (toState_any As cs 0 W.heap.size s ms _ HIs.out hs).mono ?_
    rintro e w2 ⟨Bsw, rfl, hr, hb⟩
    have Z1 := Lib.hid hb.size
    replace HIs := Lib.hid (HIs.out.step hb)
    replace HIt := Lib.hid (HIt.out.step hb)
    replace HXs := Lib.hid (HXs.out.step hb)
    replace HB := Lib.hid (below_trans HB.out hb)
    replace h0s := HXs.out.c0
    replace h1s := HXs.out.c1
    clear hb
    have RBsw := Lib.hid hr
    clear hr
    go_wp2_with fail
    refine (toInts_any At ct 0 W.heap.size t _ HIt.out ht).mono ?_
    rintro e w3 ⟨Btw, rfl, hr, hb⟩
    have Z2 := Lib.hid hb.size
    replace HIs := Lib.hid (HIs.out.step hb)
    replace HIt := Lib.hid (HIt.out.step hb)
    replace RBsw := Lib.hid (RBsw.out.step hb)
    replace HXs := Lib.hid (HXs.out.step hb)
    replace HB := Lib.hid (below_trans HB.out hb)
    replace h0s := HXs.out.c0
    replace h1s := HXs.out.c1
    clear hb
    have RBtw := Lib.hid hr
    clear hr
    go_wp2_with fail
    refine (CS.out _ Bsw _ _ _ Btw _ _ _ RBsw.out.ins RBtw.out.ins).mono ?_
    rintro e w4 ⟨Bw0, cw0, Bw1, cw1, low0, hiw0, low1, hiw1, rfl, hr0, hr1, hdw, hlw0, hlw1, hb⟩
    have Z3 := Lib.hid hb.size
    replace HIs := Lib.hid (HIs.out.step hb)
    replace HIt := Lib.hid (HIt.out.step hb)
    replace RBsw := Lib.hid (RBsw.out.step hb)
    replace RBtw := Lib.hid (RBtw.out.step hb)
    replace HXs := Lib.hid (HXs.out.step hb)
    replace HB := Lib.hid (below_trans HB.out hb)
    replace h0s := HXs.out.c0
    replace h1s := HXs.out.c1
    clear hb
    have htw0 := hr0.top
    have htw1 := hr1.top
    have Rw0 := Lib.hid hr0
    clear hr0
    have Rw1 := Lib.hid hr1
    clear hr1
    have hb : Below w4.heap.size w4 (w4.alloc (.cells #[.slice Bw1 r1.length cw1, .int .i64 u1] 36)) := (Below.refl _ _).alloc (Nat.le_refl _) _
    have g0s := (HXs.out.step hb).c0
    have g1s := (HXs.out.step hb).c1
    go_wp2_with fail
    clear g0s g1s
    have HXw1 := Lib.hid (Arg.next HB.out (.slice Bw1 r1.length cw1) (.int .i64 u1) 36 w4.heap.size rfl)
    have ZXw1 : Hid (w4.heap.size < (w4.alloc (.cells #[.slice Bw1 r1.length cw1, .int .i64 u1] 36)).heap.size) := HXw1.out.hi
    have Z4 := Lib.hid hb.size
    replace HIs := Lib.hid (HIs.out.step hb)
    replace HIt := Lib.hid (HIt.out.step hb)
    replace RBsw := Lib.hid (RBsw.out.step hb)
    replace RBtw := Lib.hid (RBtw.out.step hb)
    replace Rw0 := Lib.hid (Rw0.out.step hb)
    replace Rw1 := Lib.hid (Rw1.out.step hb)
    replace HXs := Lib.hid (HXs.out.step hb)
    replace HB := Lib.hid (below_trans HB.out hb)
    clear hb
    clear h0s h1s
    generalize (w4.alloc (.cells #[.slice Bw1 r1.length cw1, .int .i64 u1] 36)) = w5 at HB ZXw1 Z4 HIs HIt RBsw RBtw Rw0 Rw1 HXs HXw1 ⊢
    have h0s := HXs.out.c0
    have h1s := HXs.out.c1
    have h0w1 := HXw1.out.c0
    have h1w1 := HXw1.out.c1
    clear RBsw
    clear RBtw
    go_wp2_with fail
    refine (toState_any As cs 0 W.heap.size s ms _ HIs.out hs).mono ?_
    rintro e w6 ⟨Bsx, rfl, hr, hb⟩
    have Z5 := Lib.hid hb.size
    replace HIs := Lib.hid (HIs.out.step hb)
    replace HIt := Lib.hid (HIt.out.step hb)
    replace Rw0 := Lib.hid (Rw0.out.step hb)
    replace Rw1 := Lib.hid (Rw1.out.step hb)
    replace HXs := Lib.hid (HXs.out.step hb)
    replace HXw1 := Lib.hid (HXw1.out.step hb)
    replace HB := Lib.hid (below_trans HB.out hb)
    replace h0s := HXs.out.c0
    replace h1s := HXs.out.c1
    replace h0w1 := HXw1.out.c0
    replace h1w1 := HXw1.out.c1
    clear hb
    have RBsx := Lib.hid hr
    clear hr
    have hb : Below w6.heap.size w6 (w6.alloc (.cells #[.slice Bsx s.length s.length, .int .i64 ms] 36)) := (Below.refl _ _).alloc (Nat.le_refl _) _
    have g0s := (HXs.out.step hb).c0
    have g1s := (HXs.out.step hb).c1
    have g0w1 := (HXw1.out.step hb).c0
    have g1w1 := (HXw1.out.step hb).c1
    go_wp2_with fail
    clear g0s g1s g0w1 g1w1
    have HXBsx := Lib.hid (Arg.next HB.out (.slice Bsx s.length s.length) (.int .i64 ms) 36 w6.heap.size rfl)
    have ZXBsx : Hid (w6.heap.size < (w6.alloc (.cells #[.slice Bsx s.length s.length, .int .i64 ms] 36)).heap.size) := HXBsx.out.hi
    have Z6 := Lib.hid hb.size
    replace HIs := Lib.hid (HIs.out.step hb)
    replace HIt := Lib.hid (HIt.out.step hb)
    replace Rw0 := Lib.hid (Rw0.out.step hb)
    replace Rw1 := Lib.hid (Rw1.out.step hb)
    replace RBsx := Lib.hid (RBsx.out.step hb)
    replace HXs := Lib.hid (HXs.out.step hb)
    replace HXw1 := Lib.hid (HXw1.out.step hb)
    replace HB := Lib.hid (below_trans HB.out hb)
    clear hb
    clear h0s h1s h0w1 h1w1
    generalize (w6.alloc (.cells #[.slice Bsx s.length s.length, .int .i64 ms] 36)) = w7 at HB ZXBsx Z6 HIs HIt Rw0 Rw1 RBsx HXs HXw1 HXBsx ⊢
    have h0s := HXs.out.c0
    have h1s := HXs.out.c1
    have h0w1 := HXw1.out.c0
    have h1w1 := HXw1.out.c1
    have h0Bsx := HXBsx.out.c0
    have h1Bsx := HXBsx.out.c1
    go_wp2_with fail
    refine (toInts_any At ct 0 W.heap.size t _ HIt.out ht).mono ?_
    rintro e w8 ⟨Btx, rfl, hr, hb⟩
    have Z7 := Lib.hid hb.size
    replace HIs := Lib.hid (HIs.out.step hb)
    replace HIt := Lib.hid (HIt.out.step hb)
    replace Rw0 := Lib.hid (Rw0.out.step hb)
    replace Rw1 := Lib.hid (Rw1.out.step hb)
    replace RBsx := Lib.hid (RBsx.out.step hb)
    replace HXs := Lib.hid (HXs.out.step hb)
    replace HXw1 := Lib.hid (HXw1.out.step hb)
    replace HXBsx := Lib.hid (HXBsx.out.step hb)
    replace HB := Lib.hid (below_trans HB.out hb)
    replace h0s := HXs.out.c0
    replace h1s := HXs.out.c1
    replace h0w1 := HXw1.out.c0
    replace h1w1 := HXw1.out.c1
    replace h0Bsx := HXBsx.out.c0
    replace h1Bsx := HXBsx.out.c1
    clear hb
    have RBtx := Lib.hid hr
    clear hr
    go_wp2_with fail
    refine (CI.out _ Bsx _ _ _ Btx _ _ _ RBsx.out.ins RBtx.out.ins).mono ?_
    rintro e w9 ⟨Bg0, cg0, Bg1, cg1, log0, hig0, log1, hig1, rfl, hr0, hr1, hdg, hlg0, hlg1, hb⟩
    have Z8 := Lib.hid hb.size
    replace HIs := Lib.hid (HIs.out.step hb)
    replace HIt := Lib.hid (HIt.out.step hb)
    replace Rw0 := Lib.hid (Rw0.out.step hb)
    replace Rw1 := Lib.hid (Rw1.out.step hb)
    replace RBsx := Lib.hid (RBsx.out.step hb)
    replace RBtx := Lib.hid (RBtx.out.step hb)
    replace HXs := Lib.hid (HXs.out.step hb)
    replace HXw1 := Lib.hid (HXw1.out.step hb)
    replace HXBsx := Lib.hid (HXBsx.out.step hb)
    replace HB := Lib.hid (below_trans HB.out hb)
    replace h0s := HXs.out.c0
    replace h1s := HXs.out.c1
    replace h0w1 := HXw1.out.c0
    replace h1w1 := HXw1.out.c1
    replace h0Bsx := HXBsx.out.c0
    replace h1Bsx := HXBsx.out.c1
    clear hb
    have htg0 := hr0.top
    have htg1 := hr1.top
    have Rg0 := Lib.hid hr0
    clear hr0
    have Rg1 := Lib.hid hr1
    clear hr1
    have hb : Below w9.heap.size w9 (w9.alloc (.cells #[.slice Bg1 r1.length cg1, .int .i64 u1] 36)) := (Below.refl _ _).alloc (Nat.le_refl _) _
    have g0s := (HXs.out.step hb).c0
    have g1s := (HXs.out.step hb).c1
    have g0w1 := (HXw1.out.step hb).c0
    have g1w1 := (HXw1.out.step hb).c1
    have g0Bsx := (HXBsx.out.step hb).c0
    have g1Bsx := (HXBsx.out.step hb).c1
    go_wp2_with fail
    clear g0s g1s g0w1 g1w1 g0Bsx g1Bsx
    have HXg1 := Lib.hid (Arg.next HB.out (.slice Bg1 r1.length cg1) (.int .i64 u1) 36 w9.heap.size rfl)
    have ZXg1 : Hid (w9.heap.size < (w9.alloc (.cells #[.slice Bg1 r1.length cg1, .int .i64 u1] 36)).heap.size) := HXg1.out.hi
    have Z9 := Lib.hid hb.size
    replace HIs := Lib.hid (HIs.out.step hb)
    replace HIt := Lib.hid (HIt.out.step hb)
    replace Rw0 := Lib.hid (Rw0.out.step hb)
    replace Rw1 := Lib.hid (Rw1.out.step hb)
    replace RBsx := Lib.hid (RBsx.out.step hb)
    replace RBtx := Lib.hid (RBtx.out.step hb)
    replace Rg0 := Lib.hid (Rg0.out.step hb)
    replace Rg1 := Lib.hid (Rg1.out.step hb)
    replace HXs := Lib.hid (HXs.out.step hb)
    replace HXw1 := Lib.hid (HXw1.out.step hb)
    replace HXBsx := Lib.hid (HXBsx.out.step hb)
    replace HB := Lib.hid (below_trans HB.out hb)
    clear hb
    clear h0s h1s h0w1 h1w1 h0Bsx h1Bsx
    generalize (w9.alloc (.cells #[.slice Bg1 r1.length cg1, .int .i64 u1] 36)) = w10 at HB ZXg1 Z9 HIs HIt Rw0 Rw1 RBsx RBtx Rg0 Rg1 HXs HXw1 HXBsx HXg1 ⊢
    have h0s := HXs.out.c0
    have h1s := HXs.out.c1
    have h0w1 := HXw1.out.c0
    have h1w1 := HXw1.out.c1
    have h0Bsx := HXBsx.out.c0
    have h1Bsx := HXBsx.out.c1
    have h0g1 := HXg1.out.c0
    have h1g1 := HXg1.out.c1
    go_wp2_with fail
    refine (eqBools_same Bg0 Bw0 cg0 cw0 _ _ _ _ r0 _ Rg0.out Rw0.out l0).mono ?_
    rintro e w11 ⟨rfl, hb⟩
    have Z10 := Lib.hid hb.size
    replace HIs := Lib.hid (HIs.out.step hb)
    replace HIt := Lib.hid (HIt.out.step hb)
    replace Rw0 := Lib.hid (Rw0.out.step hb)
    replace Rw1 := Lib.hid (Rw1.out.step hb)
    replace RBsx := Lib.hid (RBsx.out.step hb)
    replace RBtx := Lib.hid (RBtx.out.step hb)
    replace Rg0 := Lib.hid (Rg0.out.step hb)
    replace Rg1 := Lib.hid (Rg1.out.step hb)
    replace HXs := Lib.hid (HXs.out.step hb)
    replace HXw1 := Lib.hid (HXw1.out.step hb)
    replace HXBsx := Lib.hid (HXBsx.out.step hb)
    replace HXg1 := Lib.hid (HXg1.out.step hb)
    replace HB := Lib.hid (below_trans HB.out hb)
    replace h0s := HXs.out.c0
    replace h1s := HXs.out.c1
    replace h0w1 := HXw1.out.c0
    replace h1w1 := HXw1.out.c1
    replace h0Bsx := HXBsx.out.c0
    replace h1Bsx := HXBsx.out.c1
    replace h0g1 := HXg1.out.c0
    replace h1g1 := HXg1.out.c1
    clear hb
    go_wp2_with fail
    refine (eqState_same Bg1 Bw1 cg1 cw1 _ _ _ _ r1 u1 _ Rg1.out.ins Rw1.out.ins l1).mono ?_
    rintro e w12 ⟨rfl, hb⟩
    have Z11 := Lib.hid hb.size
    replace HIs := Lib.hid (HIs.out.step hb)
    replace HIt := Lib.hid (HIt.out.step hb)
    replace Rw0 := Lib.hid (Rw0.out.step hb)
    replace Rw1 := Lib.hid (Rw1.out.step hb)
    replace RBsx := Lib.hid (RBsx.out.step hb)
    replace RBtx := Lib.hid (RBtx.out.step hb)
    replace Rg0 := Lib.hid (Rg0.out.step hb)
    replace Rg1 := Lib.hid (Rg1.out.step hb)
    replace HXs := Lib.hid (HXs.out.step hb)
    replace HXw1 := Lib.hid (HXw1.out.step hb)
    replace HXBsx := Lib.hid (HXBsx.out.step hb)
    replace HXg1 := Lib.hid (HXg1.out.step hb)
    replace HB := Lib.hid (below_trans HB.out hb)
    replace h0s := HXs.out.c0
    replace h1s := HXs.out.c1
    replace h0w1 := HXw1.out.c0
    replace h1w1 := HXw1.out.c1
    replace h0Bsx := HXBsx.out.c0
    replace h1Bsx := HXBsx.out.c1
    replace h0g1 := HXg1.out.c0
    replace h1g1 := HXg1.out.c1
    clear hb
    go_wp2_with fail
    go_region_with (first
      | (go_at_call 29; refine (toState_any As cs 0 W.heap.size s ms _ (HIs.out.step ((Below.refl _ _).drew)) hs).mono ?_; rintro e w13 ⟨Bsy, rfl, hr, hb0⟩; have hb : Below w12.heap.size w12 w13 := below_trans ((Below.refl _ _).drew) hb0; have Z12 := Lib.hid hb.size; replace HIs := Lib.hid (HIs.out.step hb); replace HIt := Lib.hid (HIt.out.step hb); replace Rw0 := Lib.hid (Rw0.out.step hb); replace Rw1 := Lib.hid (Rw1.out.step hb); replace RBsx := Lib.hid (RBsx.out.step hb); replace RBtx := Lib.hid (RBtx.out.step hb); replace Rg0 := Lib.hid (Rg0.out.step hb); replace Rg1 := Lib.hid (Rg1.out.step hb); replace HXs := Lib.hid (HXs.out.step hb); replace HXw1 := Lib.hid (HXw1.out.step hb); replace HXBsx := Lib.hid (HXBsx.out.step hb); replace HXg1 := Lib.hid (HXg1.out.step hb); replace HB := Lib.hid (below_trans HB.out hb); replace h0s := HXs.out.c0; replace h1s := HXs.out.c1; replace h0w1 := HXw1.out.c0; replace h1w1 := HXw1.out.c1; replace h0Bsx := HXBsx.out.c0; replace h1Bsx := HXBsx.out.c1; replace h0g1 := HXg1.out.c0; replace h1g1 := HXg1.out.c1; have RBsy := Lib.hid hr; clear hb hb0 hr)
      | (go_at_call 31; refine (eqState_same Bsx Bsy s.length s.length _ _ _ _ s ms _ RBsx.out.ins RBsy.out.ins hs).mono ?_; rintro e w14 ⟨rfl, hb⟩; have Z13 := Lib.hid hb.size; replace HIs := Lib.hid (HIs.out.step hb); replace HIt := Lib.hid (HIt.out.step hb); replace Rw0 := Lib.hid (Rw0.out.step hb); replace Rw1 := Lib.hid (Rw1.out.step hb); replace RBsx := Lib.hid (RBsx.out.step hb); replace RBtx := Lib.hid (RBtx.out.step hb); replace Rg0 := Lib.hid (Rg0.out.step hb); replace Rg1 := Lib.hid (Rg1.out.step hb); replace RBsy := Lib.hid (RBsy.out.step hb); replace HXs := Lib.hid (HXs.out.step hb); replace HXw1 := Lib.hid (HXw1.out.step hb); replace HXBsx := Lib.hid (HXBsx.out.step hb); replace HXg1 := Lib.hid (HXg1.out.step hb); replace HB := Lib.hid (below_trans HB.out hb); replace h0s := HXs.out.c0; replace h1s := HXs.out.c1; replace h0w1 := HXw1.out.c0; replace h1w1 := HXw1.out.c1; replace h0Bsx := HXBsx.out.c0; replace h1Bsx := HXBsx.out.c1; replace h0g1 := HXg1.out.c0; replace h1g1 := HXg1.out.c1; clear hb RBsy))
    all_goals
      go_wp2_with fail
      refine (toInts_any At ct 0 W.heap.size t _ HIt.out ht).mono ?_
      rintro e w15 ⟨Bty, rfl, hr, hb⟩
      have Z14 := Lib.hid hb.size
      replace HIs := Lib.hid (HIs.out.step hb)
      replace HIt := Lib.hid (HIt.out.step hb)
      replace Rw0 := Lib.hid (Rw0.out.step hb)
      replace Rw1 := Lib.hid (Rw1.out.step hb)
      replace RBsx := Lib.hid (RBsx.out.step hb)
      replace RBtx := Lib.hid (RBtx.out.step hb)
      replace Rg0 := Lib.hid (Rg0.out.step hb)
      replace Rg1 := Lib.hid (Rg1.out.step hb)
      replace HXs := Lib.hid (HXs.out.step hb)
      replace HXw1 := Lib.hid (HXw1.out.step hb)
      replace HXBsx := Lib.hid (HXBsx.out.step hb)
      replace HXg1 := Lib.hid (HXg1.out.step hb)
      replace HB := Lib.hid (below_trans HB.out hb)
      replace h0s := HXs.out.c0
      replace h1s := HXs.out.c1
      replace h0w1 := HXw1.out.c0
      replace h1w1 := HXw1.out.c1
      replace h0Bsx := HXBsx.out.c0
      replace h1Bsx := HXBsx.out.c1
      replace h0g1 := HXg1.out.c0
      replace h1g1 := HXg1.out.c1
      clear hb
      have RBty := Lib.hid hr
      clear hr
      go_wp2_with fail
      refine (eqInts_same Btx Bty t.length t.length _ _ _ _ t _ RBtx.out.ins RBty.out.ins ht).mono ?_
      rintro e w16 ⟨rfl, hb⟩
      have Z15 := Lib.hid hb.size
      replace HIs := Lib.hid (HIs.out.step hb)
      replace HIt := Lib.hid (HIt.out.step hb)
      replace Rw0 := Lib.hid (Rw0.out.step hb)
      replace Rw1 := Lib.hid (Rw1.out.step hb)
      replace RBsx := Lib.hid (RBsx.out.step hb)
      replace RBtx := Lib.hid (RBtx.out.step hb)
      replace Rg0 := Lib.hid (Rg0.out.step hb)
      replace Rg1 := Lib.hid (Rg1.out.step hb)
      replace RBty := Lib.hid (RBty.out.step hb)
      replace HXs := Lib.hid (HXs.out.step hb)
      replace HXw1 := Lib.hid (HXw1.out.step hb)
      replace HXBsx := Lib.hid (HXBsx.out.step hb)
      replace HXg1 := Lib.hid (HXg1.out.step hb)
      replace HB := Lib.hid (below_trans HB.out hb)
      replace h0s := HXs.out.c0
      replace h1s := HXs.out.c1
      replace h0w1 := HXw1.out.c0
      replace h1w1 := HXw1.out.c1
      replace h0Bsx := HXBsx.out.c0
      replace h1Bsx := HXBsx.out.c1
      replace h0g1 := HXg1.out.c0
      replace h1g1 := HXg1.out.c1
      clear hb
      clear RBty
      go_wp2_with fail
      refine (markState_any Bsx s.length _ _ s ms _ RBsx.out hs).mono ?_
      rintro e w17 ⟨rfl, hr, hw⟩
      clear hr
      have ZZ : W.heap.size ≤ w0.heap.size ∧ w0.heap.size ≤ w1.heap.size ∧ w1.heap.size ≤ w2.heap.size ∧ w2.heap.size ≤ w3.heap.size ∧ w3.heap.size ≤ w4.heap.size ∧ w4.heap.size ≤ w5.heap.size ∧ w5.heap.size ≤ w6.heap.size ∧ w6.heap.size ≤ w7.heap.size ∧ w7.heap.size ≤ w8.heap.size ∧ w8.heap.size ≤ w9.heap.size ∧ w9.heap.size ≤ w10.heap.size ∧ w10.heap.size ≤ w11.heap.size ∧ w11.heap.size ≤ w12.heap.size ∧ w12.heap.size ≤ w13.heap.size ∧ w13.heap.size ≤ w14.heap.size ∧ w14.heap.size ≤ w15.heap.size ∧ w15.heap.size ≤ w16.heap.size := ⟨ZB.out, Z0.out, Z1.out, Z2.out, Z3.out, Z4.out, Z5.out, Z6.out, Z7.out, Z8.out, Z9.out, Z10.out, Z11.out, Z12.out, Z13.out, Z14.out, Z15.out⟩
      replace HIs := Lib.hid (HIs.out.within hw (by omega))
      replace HIt := Lib.hid (HIt.out.within hw (by omega))
      replace Rw0 := Lib.hid (Rw0.out.within hw (by omega))
      replace Rw1 := Lib.hid (Rw1.out.within hw (by omega))
      replace RBtx := Lib.hid (RBtx.out.within hw (by omega))
      replace Rg0 := Lib.hid (Rg0.out.within hw (by omega))
      replace Rg1 := Lib.hid (Rg1.out.within hw (by omega))
      have ZX := ZXs.out
      replace HXs := Lib.hid (HXs.out.within hw (by omega))
      clear ZX
      have ZX := ZXw1.out
      replace HXw1 := Lib.hid (HXw1.out.within hw (by omega))
      clear ZX
      have ZX := ZXBsx.out
      replace HXBsx := Lib.hid (HXBsx.out.within hw (by omega))
      clear ZX
      have ZX := ZXg1.out
      replace HXg1 := Lib.hid (HXg1.out.within hw (by omega))
      clear ZX
      replace HB := Lib.hid (HB.out.trans (hw.below (by omega) HB.out.size))
      replace h0s := HXs.out.c0
      replace h1s := HXs.out.c1
      replace h0w1 := HXw1.out.c0
      replace h1w1 := HXw1.out.c1
      replace h0Bsx := HXBsx.out.c0
      replace h1Bsx := HXBsx.out.c1
      replace h0g1 := HXg1.out.c0
      replace h1g1 := HXg1.out.c1
      have Z16 := Lib.hid hw.size
      clear hw ZZ
      clear RBsx
      go_wp2_with fail
      refine (markInts2_any Btx t.length _ _ t _ RBtx.out ht _ (by omega)).mono ?_
      rintro e w18 ⟨rfl, hr, hw⟩
      clear hr
      have ZZ : W.heap.size ≤ w0.heap.size ∧ w0.heap.size ≤ w1.heap.size ∧ w1.heap.size ≤ w2.heap.size ∧ w2.heap.size ≤ w3.heap.size ∧ w3.heap.size ≤ w4.heap.size ∧ w4.heap.size ≤ w5.heap.size ∧ w5.heap.size ≤ w6.heap.size ∧ w6.heap.size ≤ w7.heap.size ∧ w7.heap.size ≤ w8.heap.size ∧ w8.heap.size ≤ w9.heap.size ∧ w9.heap.size ≤ w10.heap.size ∧ w10.heap.size ≤ w11.heap.size ∧ w11.heap.size ≤ w12.heap.size ∧ w12.heap.size ≤ w13.heap.size ∧ w13.heap.size ≤ w14.heap.size ∧ w14.heap.size ≤ w15.heap.size ∧ w15.heap.size ≤ w16.heap.size ∧ w16.heap.size ≤ w17.heap.size := ⟨ZB.out, Z0.out, Z1.out, Z2.out, Z3.out, Z4.out, Z5.out, Z6.out, Z7.out, Z8.out, Z9.out, Z10.out, Z11.out, Z12.out, Z13.out, Z14.out, Z15.out, Z16.out⟩
      replace HIs := Lib.hid (HIs.out.within hw (by omega))
      replace HIt := Lib.hid (HIt.out.within hw (by omega))
      replace Rw0 := Lib.hid (Rw0.out.within hw (by omega))
      replace Rw1 := Lib.hid (Rw1.out.within hw (by omega))
      replace Rg0 := Lib.hid (Rg0.out.within hw (by omega))
      replace Rg1 := Lib.hid (Rg1.out.within hw (by omega))
      have ZX := ZXs.out
      replace HXs := Lib.hid (HXs.out.within hw (by omega))
      clear ZX
      have ZX := ZXw1.out
      replace HXw1 := Lib.hid (HXw1.out.within hw (by omega))
      clear ZX
      have ZX := ZXBsx.out
      replace HXBsx := Lib.hid (HXBsx.out.within hw (by omega))
      clear ZX
      have ZX := ZXg1.out
      replace HXg1 := Lib.hid (HXg1.out.within hw (by omega))
      clear ZX
      replace HB := Lib.hid (HB.out.trans (hw.below (by omega) HB.out.size))
      replace h0s := HXs.out.c0
      replace h1s := HXs.out.c1
      replace h0w1 := HXw1.out.c0
      replace h1w1 := HXw1.out.c1
      replace h0Bsx := HXBsx.out.c0
      replace h1Bsx := HXBsx.out.c1
      replace h0g1 := HXg1.out.c0
      replace h1g1 := HXg1.out.c1
      have Z17 := Lib.hid hw.size
      clear hw ZZ
      clear RBtx
      go_wp2_with fail
      refine (eqBools_same Bg0 Bw0 cg0 cw0 _ _ _ _ r0 _ Rg0.out Rw0.out l0).mono ?_
      rintro e w19 ⟨rfl, hb⟩
      have Z18 := Lib.hid hb.size
      replace HIs := Lib.hid (HIs.out.step hb)
      replace HIt := Lib.hid (HIt.out.step hb)
      replace Rw0 := Lib.hid (Rw0.out.step hb)
      replace Rw1 := Lib.hid (Rw1.out.step hb)
      replace Rg0 := Lib.hid (Rg0.out.step hb)
      replace Rg1 := Lib.hid (Rg1.out.step hb)
      replace HXs := Lib.hid (HXs.out.step hb)
      replace HXw1 := Lib.hid (HXw1.out.step hb)
      replace HXBsx := Lib.hid (HXBsx.out.step hb)
      replace HXg1 := Lib.hid (HXg1.out.step hb)
      replace HB := Lib.hid (below_trans HB.out hb)
      replace h0s := HXs.out.c0
      replace h1s := HXs.out.c1
      replace h0w1 := HXw1.out.c0
      replace h1w1 := HXw1.out.c1
      replace h0Bsx := HXBsx.out.c0
      replace h1Bsx := HXBsx.out.c1
      replace h0g1 := HXg1.out.c0
      replace h1g1 := HXg1.out.c1
      clear hb
      go_wp2_with fail
      refine (eqState_same Bg1 Bw1 cg1 cw1 _ _ _ _ r1 u1 _ Rg1.out.ins Rw1.out.ins l1).mono ?_
      rintro e w20 ⟨rfl, hb⟩
      have Z19 := Lib.hid hb.size
      replace HIs := Lib.hid (HIs.out.step hb)
      replace HIt := Lib.hid (HIt.out.step hb)
      replace Rw0 := Lib.hid (Rw0.out.step hb)
      replace Rw1 := Lib.hid (Rw1.out.step hb)
      replace Rg0 := Lib.hid (Rg0.out.step hb)
      replace Rg1 := Lib.hid (Rg1.out.step hb)
      replace HXs := Lib.hid (HXs.out.step hb)
      replace HXw1 := Lib.hid (HXw1.out.step hb)
      replace HXBsx := Lib.hid (HXBsx.out.step hb)
      replace HXg1 := Lib.hid (HXg1.out.step hb)
      replace HB := Lib.hid (below_trans HB.out hb)
      replace h0s := HXs.out.c0
      replace h1s := HXs.out.c1
      replace h0w1 := HXw1.out.c0
      replace h1w1 := HXw1.out.c1
      replace h0Bsx := HXBsx.out.c0
      replace h1Bsx := HXBsx.out.c1
      replace h0g1 := HXg1.out.c0
      replace h1g1 := HXg1.out.c1
      clear hb
      go_wp2_with fail
      refine (markBools_any Bg0 cg0 _ _ r0 _ Rg0.out l0).mono ?_
      rintro e w21 ⟨rfl, hr, hw⟩
      have ZZ : W.heap.size ≤ w0.heap.size ∧ w0.heap.size ≤ w1.heap.size ∧ w1.heap.size ≤ w2.heap.size ∧ w2.heap.size ≤ w3.heap.size ∧ w3.heap.size ≤ w4.heap.size ∧ w4.heap.size ≤ w5.heap.size ∧ w5.heap.size ≤ w6.heap.size ∧ w6.heap.size ≤ w7.heap.size ∧ w7.heap.size ≤ w8.heap.size ∧ w8.heap.size ≤ w9.heap.size ∧ w9.heap.size ≤ w10.heap.size ∧ w10.heap.size ≤ w11.heap.size ∧ w11.heap.size ≤ w12.heap.size ∧ w12.heap.size ≤ w13.heap.size ∧ w13.heap.size ≤ w14.heap.size ∧ w14.heap.size ≤ w15.heap.size ∧ w15.heap.size ≤ w16.heap.size ∧ w16.heap.size ≤ w17.heap.size ∧ w17.heap.size ≤ w18.heap.size ∧ w18.heap.size ≤ w19.heap.size ∧ w19.heap.size ≤ w20.heap.size := ⟨ZB.out, Z0.out, Z1.out, Z2.out, Z3.out, Z4.out, Z5.out, Z6.out, Z7.out, Z8.out, Z9.out, Z10.out, Z11.out, Z12.out, Z13.out, Z14.out, Z15.out, Z16.out, Z17.out, Z18.out, Z19.out⟩
      replace HIs := Lib.hid (HIs.out.within hw (by omega))
      replace HIt := Lib.hid (HIt.out.within hw (by omega))
      replace Rw0 := Lib.hid (Rw0.out.within hw (by omega))
      replace Rw1 := Lib.hid (Rw1.out.within hw (by omega))
      replace Rg1 := Lib.hid (Rg1.out.within hw (by omega))
      have ZX := ZXs.out
      replace HXs := Lib.hid (HXs.out.within hw (by omega))
      clear ZX
      have ZX := ZXw1.out
      replace HXw1 := Lib.hid (HXw1.out.within hw (by omega))
      clear ZX
      have ZX := ZXBsx.out
      replace HXBsx := Lib.hid (HXBsx.out.within hw (by omega))
      clear ZX
      have ZX := ZXg1.out
      replace HXg1 := Lib.hid (HXg1.out.within hw (by omega))
      clear ZX
      replace HB := Lib.hid (HB.out.trans (hw.below (by omega) HB.out.size))
      replace h0s := HXs.out.c0
      replace h1s := HXs.out.c1
      replace h0w1 := HXw1.out.c0
      replace h1w1 := HXw1.out.c1
      replace h0Bsx := HXBsx.out.c0
      replace h1Bsx := HXBsx.out.c1
      replace h0g1 := HXg1.out.c0
      replace h1g1 := HXg1.out.c1
      have Z20 := Lib.hid hw.size
      clear hw ZZ
      have M0 := Lib.hid hr
      clear hr
      clear Rg0
      go_wp2_with fail
      refine (markStateK_any Bg1 cg1 _ _ r1 u1 _ Rg1.out l1 ((r0.length : Int) + 1) (by omega)).mono ?_
      rintro e w22 ⟨rfl, hr, hw⟩
      have ZZ : W.heap.size ≤ w0.heap.size ∧ w0.heap.size ≤ w1.heap.size ∧ w1.heap.size ≤ w2.heap.size ∧ w2.heap.size ≤ w3.heap.size ∧ w3.heap.size ≤ w4.heap.size ∧ w4.heap.size ≤ w5.heap.size ∧ w5.heap.size ≤ w6.heap.size ∧ w6.heap.size ≤ w7.heap.size ∧ w7.heap.size ≤ w8.heap.size ∧ w8.heap.size ≤ w9.heap.size ∧ w9.heap.size ≤ w10.heap.size ∧ w10.heap.size ≤ w11.heap.size ∧ w11.heap.size ≤ w12.heap.size ∧ w12.heap.size ≤ w13.heap.size ∧ w13.heap.size ≤ w14.heap.size ∧ w14.heap.size ≤ w15.heap.size ∧ w15.heap.size ≤ w16.heap.size ∧ w16.heap.size ≤ w17.heap.size ∧ w17.heap.size ≤ w18.heap.size ∧ w18.heap.size ≤ w19.heap.size ∧ w19.heap.size ≤ w20.heap.size ∧ w20.heap.size ≤ w21.heap.size := ⟨ZB.out, Z0.out, Z1.out, Z2.out, Z3.out, Z4.out, Z5.out, Z6.out, Z7.out, Z8.out, Z9.out, Z10.out, Z11.out, Z12.out, Z13.out, Z14.out, Z15.out, Z16.out, Z17.out, Z18.out, Z19.out, Z20.out⟩
      replace HIs := Lib.hid (HIs.out.within hw (by omega))
      replace HIt := Lib.hid (HIt.out.within hw (by omega))
      replace Rw0 := Lib.hid (Rw0.out.within hw (by omega))
      replace Rw1 := Lib.hid (Rw1.out.within hw (by omega))
      replace M0 := Lib.hid (M0.out.within hw (by omega))
      have ZX := ZXs.out
      replace HXs := Lib.hid (HXs.out.within hw (by omega))
      clear ZX
      have ZX := ZXw1.out
      replace HXw1 := Lib.hid (HXw1.out.within hw (by omega))
      clear ZX
      have ZX := ZXBsx.out
      replace HXBsx := Lib.hid (HXBsx.out.within hw (by omega))
      clear ZX
      have ZX := ZXg1.out
      replace HXg1 := Lib.hid (HXg1.out.within hw (by omega))
      clear ZX
      replace HB := Lib.hid (HB.out.trans (hw.below (by omega) HB.out.size))
      replace h0s := HXs.out.c0
      replace h1s := HXs.out.c1
      replace h0w1 := HXw1.out.c0
      replace h1w1 := HXw1.out.c1
      replace h0Bsx := HXBsx.out.c0
      replace h1Bsx := HXBsx.out.c1
      replace h0g1 := HXg1.out.c0
      replace h1g1 := HXg1.out.c1
      have Z21 := Lib.hid hw.size
      clear hw ZZ
      have M1 := Lib.hid hr
      clear hr
      clear Rg1
      go_wp2_with fail
      refine (heldBools_any Bg0 cg0 _ _ r0.length _ M0.out l0).mono ?_
      rintro e w23 ⟨rfl, hb⟩
      have Z22 := Lib.hid hb.size
      replace HIs := Lib.hid (HIs.out.step hb)
      replace HIt := Lib.hid (HIt.out.step hb)
      replace Rw0 := Lib.hid (Rw0.out.step hb)
      replace Rw1 := Lib.hid (Rw1.out.step hb)
      replace M0 := Lib.hid (M0.out.step hb)
      replace M1 := Lib.hid (M1.out.step hb)
      replace HXs := Lib.hid (HXs.out.step hb)
      replace HXw1 := Lib.hid (HXw1.out.step hb)
      replace HXBsx := Lib.hid (HXBsx.out.step hb)
      replace HXg1 := Lib.hid (HXg1.out.step hb)
      replace HB := Lib.hid (below_trans HB.out hb)
      replace h0s := HXs.out.c0
      replace h1s := HXs.out.c1
      replace h0w1 := HXw1.out.c0
      replace h1w1 := HXw1.out.c1
      replace h0Bsx := HXBsx.out.c0
      replace h1Bsx := HXBsx.out.c1
      replace h0g1 := HXg1.out.c0
      replace h1g1 := HXg1.out.c1
      clear hb
      go_wp2_with fail
      refine (heldStateK_any Bg1 cg1 _ _ r1.length u1 ((r0.length : Int) + 1) (by omega) _ M1.out.ins l1).mono ?_
      rintro e w24 ⟨rfl, hb⟩
      have Z23 := Lib.hid hb.size
      replace HIs := Lib.hid (HIs.out.step hb)
      replace HIt := Lib.hid (HIt.out.step hb)
      replace Rw0 := Lib.hid (Rw0.out.step hb)
      replace Rw1 := Lib.hid (Rw1.out.step hb)
      replace M0 := Lib.hid (M0.out.step hb)
      replace M1 := Lib.hid (M1.out.step hb)
      replace HXs := Lib.hid (HXs.out.step hb)
      replace HXw1 := Lib.hid (HXw1.out.step hb)
      replace HXBsx := Lib.hid (HXBsx.out.step hb)
      replace HXg1 := Lib.hid (HXg1.out.step hb)
      replace HB := Lib.hid (below_trans HB.out hb)
      replace h0s := HXs.out.c0
      replace h1s := HXs.out.c1
      replace h0w1 := HXw1.out.c0
      replace h1w1 := HXw1.out.c1
      replace h0Bsx := HXBsx.out.c0
      replace h1Bsx := HXBsx.out.c1
      replace h0g1 := HXg1.out.c0
      replace h1g1 := HXg1.out.c1
      clear hb
      go_wp2_with fail
      refine (toState_any As cs 0 W.heap.size s ms _ HIs.out hs).mono ?_
      rintro e w25 ⟨Bsh, rfl, hr, hb⟩
      have Z24 := Lib.hid hb.size
      replace HIs := Lib.hid (HIs.out.step hb)
      replace HIt := Lib.hid (HIt.out.step hb)
      replace Rw0 := Lib.hid (Rw0.out.step hb)
      replace Rw1 := Lib.hid (Rw1.out.step hb)
      replace M0 := Lib.hid (M0.out.step hb)
      replace M1 := Lib.hid (M1.out.step hb)
      replace HXs := Lib.hid (HXs.out.step hb)
      replace HXw1 := Lib.hid (HXw1.out.step hb)
      replace HXBsx := Lib.hid (HXBsx.out.step hb)
      replace HXg1 := Lib.hid (HXg1.out.step hb)
      replace HB := Lib.hid (below_trans HB.out hb)
      replace h0s := HXs.out.c0
      replace h1s := HXs.out.c1
      replace h0w1 := HXw1.out.c0
      replace h1w1 := HXw1.out.c1
      replace h0Bsx := HXBsx.out.c0
      replace h1Bsx := HXBsx.out.c1
      replace h0g1 := HXg1.out.c0
      replace h1g1 := HXg1.out.c1
      clear hb
      have RBsh := Lib.hid hr
      clear hr
      go_wp2_with fail
      refine (toInts_any At ct 0 W.heap.size t _ HIt.out ht).mono ?_
      rintro e w26 ⟨Bth, rfl, hr, hb⟩
      have Z25 := Lib.hid hb.size
      replace HIs := Lib.hid (HIs.out.step hb)
      replace HIt := Lib.hid (HIt.out.step hb)
      replace Rw0 := Lib.hid (Rw0.out.step hb)
      replace Rw1 := Lib.hid (Rw1.out.step hb)
      replace M0 := Lib.hid (M0.out.step hb)
      replace M1 := Lib.hid (M1.out.step hb)
      replace RBsh := Lib.hid (RBsh.out.step hb)
      replace HXs := Lib.hid (HXs.out.step hb)
      replace HXw1 := Lib.hid (HXw1.out.step hb)
      replace HXBsx := Lib.hid (HXBsx.out.step hb)
      replace HXg1 := Lib.hid (HXg1.out.step hb)
      replace HB := Lib.hid (below_trans HB.out hb)
      replace h0s := HXs.out.c0
      replace h1s := HXs.out.c1
      replace h0w1 := HXw1.out.c0
      replace h1w1 := HXw1.out.c1
      replace h0Bsx := HXBsx.out.c0
      replace h1Bsx := HXBsx.out.c1
      replace h0g1 := HXg1.out.c0
      replace h1g1 := HXg1.out.c1
      clear hb
      have RBth := Lib.hid hr
      clear hr
      go_wp2_with fail
      refine (CI.out _ Bsh _ _ _ Bth _ _ _ RBsh.out.ins RBth.out.ins).mono ?_
      rintro e w27 ⟨Bh0, ch0, Bh1, ch1, loh0, hih0, loh1, hih1, rfl, hr0, hr1, hdh, hlh0, hlh1, hb⟩
      have Z26 := Lib.hid hb.size
      replace HIs := Lib.hid (HIs.out.step hb)
      replace HIt := Lib.hid (HIt.out.step hb)
      replace Rw0 := Lib.hid (Rw0.out.step hb)
      replace Rw1 := Lib.hid (Rw1.out.step hb)
      replace M0 := Lib.hid (M0.out.step hb)
      replace M1 := Lib.hid (M1.out.step hb)
      replace RBsh := Lib.hid (RBsh.out.step hb)
      replace RBth := Lib.hid (RBth.out.step hb)
      replace HXs := Lib.hid (HXs.out.step hb)
      replace HXw1 := Lib.hid (HXw1.out.step hb)
      replace HXBsx := Lib.hid (HXBsx.out.step hb)
      replace HXg1 := Lib.hid (HXg1.out.step hb)
      replace HB := Lib.hid (below_trans HB.out hb)
      replace h0s := HXs.out.c0
      replace h1s := HXs.out.c1
      replace h0w1 := HXw1.out.c0
      replace h1w1 := HXw1.out.c1
      replace h0Bsx := HXBsx.out.c0
      replace h1Bsx := HXBsx.out.c1
      replace h0g1 := HXg1.out.c0
      replace h1g1 := HXg1.out.c1
      clear hb
      have hth0 := hr0.top
      have hth1 := hr1.top
      have Rh0 := Lib.hid hr0
      clear hr0
      have Rh1 := Lib.hid hr1
      clear hr1
      have hb : Below w27.heap.size w27 (w27.alloc (.cells #[.slice Bh1 r1.length ch1, .int .i64 u1] 36)) := (Below.refl _ _).alloc (Nat.le_refl _) _
      have g0s := (HXs.out.step hb).c0
      have g1s := (HXs.out.step hb).c1
      have g0w1 := (HXw1.out.step hb).c0
      have g1w1 := (HXw1.out.step hb).c1
      have g0Bsx := (HXBsx.out.step hb).c0
      have g1Bsx := (HXBsx.out.step hb).c1
      have g0g1 := (HXg1.out.step hb).c0
      have g1g1 := (HXg1.out.step hb).c1
      go_wp2_with fail
      clear g0s g1s g0w1 g1w1 g0Bsx g1Bsx g0g1 g1g1
      have HXh1 := Lib.hid (Arg.next HB.out (.slice Bh1 r1.length ch1) (.int .i64 u1) 36 w27.heap.size rfl)
      have ZXh1 : Hid (w27.heap.size < (w27.alloc (.cells #[.slice Bh1 r1.length ch1, .int .i64 u1] 36)).heap.size) := HXh1.out.hi
      have Z27 := Lib.hid hb.size
      replace HIs := Lib.hid (HIs.out.step hb)
      replace HIt := Lib.hid (HIt.out.step hb)
      replace Rw0 := Lib.hid (Rw0.out.step hb)
      replace Rw1 := Lib.hid (Rw1.out.step hb)
      replace M0 := Lib.hid (M0.out.step hb)
      replace M1 := Lib.hid (M1.out.step hb)
      replace RBsh := Lib.hid (RBsh.out.step hb)
      replace RBth := Lib.hid (RBth.out.step hb)
      replace Rh0 := Lib.hid (Rh0.out.step hb)
      replace Rh1 := Lib.hid (Rh1.out.step hb)
      replace HXs := Lib.hid (HXs.out.step hb)
      replace HXw1 := Lib.hid (HXw1.out.step hb)
      replace HXBsx := Lib.hid (HXBsx.out.step hb)
      replace HXg1 := Lib.hid (HXg1.out.step hb)
      replace HB := Lib.hid (below_trans HB.out hb)
      clear hb
      clear h0s h1s h0w1 h1w1 h0Bsx h1Bsx h0g1 h1g1
      generalize (w27.alloc (.cells #[.slice Bh1 r1.length ch1, .int .i64 u1] 36)) = w28 at HB ZXh1 Z27 HIs HIt Rw0 Rw1 M0 M1 RBsh RBth Rh0 Rh1 HXs HXw1 HXBsx HXg1 HXh1 ⊢
      have h0s := HXs.out.c0
      have h1s := HXs.out.c1
      have h0w1 := HXw1.out.c0
      have h1w1 := HXw1.out.c1
      have h0Bsx := HXBsx.out.c0
      have h1Bsx := HXBsx.out.c1
      have h0g1 := HXg1.out.c0
      have h1g1 := HXg1.out.c1
      have h0h1 := HXh1.out.c0
      have h1h1 := HXh1.out.c1
      clear RBsh
      clear RBth
      go_wp2_with fail
      refine (eqBools_same Bh0 Bw0 ch0 cw0 _ _ _ _ r0 _ Rh0.out Rw0.out l0).mono ?_
      rintro e w29 ⟨rfl, hb⟩
      have Z28 := Lib.hid hb.size
      replace HIs := Lib.hid (HIs.out.step hb)
      replace HIt := Lib.hid (HIt.out.step hb)
      replace Rw0 := Lib.hid (Rw0.out.step hb)
      replace Rw1 := Lib.hid (Rw1.out.step hb)
      replace M0 := Lib.hid (M0.out.step hb)
      replace M1 := Lib.hid (M1.out.step hb)
      replace Rh0 := Lib.hid (Rh0.out.step hb)
      replace Rh1 := Lib.hid (Rh1.out.step hb)
      replace HXs := Lib.hid (HXs.out.step hb)
      replace HXw1 := Lib.hid (HXw1.out.step hb)
      replace HXBsx := Lib.hid (HXBsx.out.step hb)
      replace HXg1 := Lib.hid (HXg1.out.step hb)
      replace HXh1 := Lib.hid (HXh1.out.step hb)
      replace HB := Lib.hid (below_trans HB.out hb)
      replace h0s := HXs.out.c0
      replace h1s := HXs.out.c1
      replace h0w1 := HXw1.out.c0
      replace h1w1 := HXw1.out.c1
      replace h0Bsx := HXBsx.out.c0
      replace h1Bsx := HXBsx.out.c1
      replace h0g1 := HXg1.out.c0
      replace h1g1 := HXg1.out.c1
      replace h0h1 := HXh1.out.c0
      replace h1h1 := HXh1.out.c1
      clear hb
      go_wp2_with fail
      refine (eqState_same Bh1 Bw1 ch1 cw1 _ _ _ _ r1 u1 _ Rh1.out.ins Rw1.out.ins l1).mono ?_
      rintro e w30 ⟨rfl, hb⟩
      have Z29 := Lib.hid hb.size
      replace HIs := Lib.hid (HIs.out.step hb)
      replace HIt := Lib.hid (HIt.out.step hb)
      replace Rw0 := Lib.hid (Rw0.out.step hb)
      replace Rw1 := Lib.hid (Rw1.out.step hb)
      replace M0 := Lib.hid (M0.out.step hb)
      replace M1 := Lib.hid (M1.out.step hb)
      replace Rh0 := Lib.hid (Rh0.out.step hb)
      replace Rh1 := Lib.hid (Rh1.out.step hb)
      replace HXs := Lib.hid (HXs.out.step hb)
      replace HXw1 := Lib.hid (HXw1.out.step hb)
      replace HXBsx := Lib.hid (HXBsx.out.step hb)
      replace HXg1 := Lib.hid (HXg1.out.step hb)
      replace HXh1 := Lib.hid (HXh1.out.step hb)
      replace HB := Lib.hid (below_trans HB.out hb)
      replace h0s := HXs.out.c0
      replace h1s := HXs.out.c1
      replace h0w1 := HXw1.out.c0
      replace h1w1 := HXw1.out.c1
      replace h0Bsx := HXBsx.out.c0
      replace h1Bsx := HXBsx.out.c1
      replace h0g1 := HXg1.out.c0
      replace h1g1 := HXg1.out.c1
      replace h0h1 := HXh1.out.c0
      replace h1h1 := HXh1.out.c1
      clear hb
      go_wp2_with fail
      refine (heldBools_any Bg0 cg0 _ _ r0.length _ M0.out l0).mono ?_
      rintro e w31 ⟨rfl, hb⟩
      have Z30 := Lib.hid hb.size
      replace HIs := Lib.hid (HIs.out.step hb)
      replace HIt := Lib.hid (HIt.out.step hb)
      replace Rw0 := Lib.hid (Rw0.out.step hb)
      replace Rw1 := Lib.hid (Rw1.out.step hb)
      replace M0 := Lib.hid (M0.out.step hb)
      replace M1 := Lib.hid (M1.out.step hb)
      replace Rh0 := Lib.hid (Rh0.out.step hb)
      replace Rh1 := Lib.hid (Rh1.out.step hb)
      replace HXs := Lib.hid (HXs.out.step hb)
      replace HXw1 := Lib.hid (HXw1.out.step hb)
      replace HXBsx := Lib.hid (HXBsx.out.step hb)
      replace HXg1 := Lib.hid (HXg1.out.step hb)
      replace HXh1 := Lib.hid (HXh1.out.step hb)
      replace HB := Lib.hid (below_trans HB.out hb)
      replace h0s := HXs.out.c0
      replace h1s := HXs.out.c1
      replace h0w1 := HXw1.out.c0
      replace h1w1 := HXw1.out.c1
      replace h0Bsx := HXBsx.out.c0
      replace h1Bsx := HXBsx.out.c1
      replace h0g1 := HXg1.out.c0
      replace h1g1 := HXg1.out.c1
      replace h0h1 := HXh1.out.c0
      replace h1h1 := HXh1.out.c1
      clear hb
      go_wp2_with fail
      refine (heldStateK_any Bg1 cg1 _ _ r1.length u1 ((r0.length : Int) + 1) (by omega) _ M1.out.ins l1).mono ?_
      rintro e w32 ⟨rfl, hb⟩
      have Z31 := Lib.hid hb.size
      replace HIs := Lib.hid (HIs.out.step hb)
      replace HIt := Lib.hid (HIt.out.step hb)
      replace Rw0 := Lib.hid (Rw0.out.step hb)
      replace Rw1 := Lib.hid (Rw1.out.step hb)
      replace M0 := Lib.hid (M0.out.step hb)
      replace M1 := Lib.hid (M1.out.step hb)
      replace Rh0 := Lib.hid (Rh0.out.step hb)
      replace Rh1 := Lib.hid (Rh1.out.step hb)
      replace HXs := Lib.hid (HXs.out.step hb)
      replace HXw1 := Lib.hid (HXw1.out.step hb)
      replace HXBsx := Lib.hid (HXBsx.out.step hb)
      replace HXg1 := Lib.hid (HXg1.out.step hb)
      replace HXh1 := Lib.hid (HXh1.out.step hb)
      replace HB := Lib.hid (below_trans HB.out hb)
      replace h0s := HXs.out.c0
      replace h1s := HXs.out.c1
      replace h0w1 := HXw1.out.c0
      replace h1w1 := HXw1.out.c1
      replace h0Bsx := HXBsx.out.c0
      replace h1Bsx := HXBsx.out.c1
      replace h0g1 := HXg1.out.c0
      replace h1g1 := HXg1.out.c1
      replace h0h1 := HXh1.out.c0
      replace h1h1 := HXh1.out.c1
      clear hb
      go_wp2
      go_ret
      exact ⟨rfl, HB.out⟩
  · rw [szI_no (by omega)] at C0
    go_enter Try.func14, Try.ntmps14
    go_wp2_with fail
    refine (C0.out _).mono ?_
    rintro e w1 ⟨rfl, hb⟩
    have hb0 : Below W.heap.size W (W.alloc (.cells #[.slice As s.length cs, .int .i64 ms] 33)) := (Below.alloc (Below.refl _ _) (Nat.le_refl _) _)
    have HB := Lib.hid (below_trans hb0 hb)
    clear hb0
    clear hb C0
    go_wp2
    go_ret
    exact ⟨rfl, HB.out⟩
end Go.Proofs.Ytdkffkgoalgjmab
