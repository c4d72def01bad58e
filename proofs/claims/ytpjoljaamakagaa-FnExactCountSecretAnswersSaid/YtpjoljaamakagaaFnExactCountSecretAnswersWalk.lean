/- The law FnExactCountSecretAnswers: its walk over the two functions' contracts. -/
import Derived.Test.YtpjoljaamakagaaL8W
namespace Go.Proofs.Ytpjoljaamakagaa
open Go.RowKit
set_option linter.unusedVariables false

set_option maxHeartbeats 40000000 in
theorem fnExactCountSecretAnswers_walk (As : Option Addr) (cs : Nat) (s : List Int) (ms : Int) (At : Option Addr) (ct : Nat) (t : List Int) (v : Int) (W : World) (hSs : Ints W 0 W.heap.size As s) (hcs : s.length ≤ cs) (hcms : cs ≤ maxLen) (wms : (Lit.int .i64 ms).wf = true) (hSt : Ints W 0 W.heap.size At t) (hct : t.length ≤ ct) (hcmt : ct ≤ maxLen) (wfv : (Lit.int .i64 v).wf = true) (hsh : W.ShapedOpen Try.prog) :
    Calls Try.prog 10 #[.agg #[.slice As s.length cs, .int .i64 ms], .slice At t.length ct, .int .i64 v] W fun e w' => e = .returned (.bool true) ∧ Below W.heap.size W w' := by
  clear hsh
  unfold maxLen at hcms
  unfold maxLen at hcmt
  by_cases ht : t.length ≤ 1048576
  case neg =>
    clear hSs hcs hSt hct
    go_enter Try.func10, Try.ntmps10
    go_wp2
    go_ret
    exact ⟨rfl, (Below.refl _ _).alloc (Nat.le_refl _) _⟩
  have hkeept := ht
  have C0 := Lib.hid (fun w => szState_any As cs s.length ms 1048576 w (by unfold maxLen; omega) (by omega))
  rw [show (((1048576 : Nat) : Int)) = 1048576 from rfl] at C0
  by_cases hs : s.length ≤ 1048576
  · rw [szI_yes hs] at C0
    have hz : (0 : Int) ≤ ((1048576 - s.length : Nat) : Int) := by omega
    generalize ((1048576 - s.length : Nat) : Int) = z at C0 hz
    obtain ⟨r0, r1, hI, hC⟩ := countSecretAnswers_both s ms hs t ht v
    have CI := Lib.hid hI
    have CS := Lib.hid hC
    clear hI hC
    have HIs := Lib.hid (Ins.mk hSs (Nat.le_refl _))
    have HIt := Lib.hid (Ins.mk hSt (Nat.le_refl _))
    have HB := Lib.hid (Below.refl W.heap.size W)
    have HXs := Lib.hid (Arg.next HB.out (.slice As s.length cs) (.int .i64 ms) 31 (W.heap.size) rfl)
    replace HB := Lib.hid (HXs.out.below)
    replace HIs := Lib.hid (HIs.out.step HB.out)
    clear hSs hcs
    replace HIt := Lib.hid (HIt.out.step HB.out)
    clear hSt hct
    have ZB := Lib.hid HB.out.size
    have ZXs : Hid (W.heap.size < (W.alloc (.cells #[.slice As s.length cs, .int .i64 ms] 31)).heap.size) := HXs.out.hi
    go_enter Try.func10, Try.ntmps10
    go_wp2_with fail
    generalize (W.alloc (.cells #[.slice As s.length cs, .int .i64 ms] 31)) = w0 at HIs HIt ZB HB HXs ZXs⊢
    have h0s := HXs.out.c0
    have h1s := HXs.out.c1
    go_wp2_with fail
    refine (C0.out _).mono ?_
    rintro e w1 ⟨rfl, hb⟩
    have Z0 := Lib.hid hb.size
    replace HIs := Lib.hid (HIs.out.step hb)
    replace HIt := Lib.hid (HIt.out.step hb)
    replace HXs := Lib.hid (HXs.out.step hb)
    replace HB := Lib.hid (below_trans HB.out hb)
    replace h0s := HXs.out.c0
    replace h1s := HXs.out.c1
    clear hb
    clear C0
    go_wp2_with fail
    refine (toState_any As cs 0 W.heap.size s ms _ HIs.out hs).mono ?_
    rintro e w2 ⟨Bsw, rfl, hr, hb⟩
    have Z1 := Lib.hid hb.size
    replace HIs := Lib.hid (HIs.out.step hb)
    replace HIt := Lib.hid (HIt.out.step hb)
    replace HXs := Lib.hid (HXs.out.step hb)
    replace HB := Lib.hid (below_trans HB.out hb)
    replace h0s := HXs.out.c0
    replace h1s := HXs.out.c1
    clear hb
    have RBsw := Lib.hid hr
    clear hr
    go_wp2_with fail
    refine (toInts_any At ct 0 W.heap.size t _ HIt.out ht).mono ?_
    rintro e w3 ⟨Btw, rfl, hr, hb⟩
    have Z2 := Lib.hid hb.size
    replace HIs := Lib.hid (HIs.out.step hb)
    replace HIt := Lib.hid (HIt.out.step hb)
    replace RBsw := Lib.hid (RBsw.out.step hb)
    replace HXs := Lib.hid (HXs.out.step hb)
    replace HB := Lib.hid (below_trans HB.out hb)
    replace h0s := HXs.out.c0
    replace h1s := HXs.out.c1
    clear hb
    have RBtw := Lib.hid hr
    clear hr
    go_wp2_with fail
    refine (CS.out _ Bsw _ _ _ Btw _ _ _ RBsw.out.ins RBtw.out.ins).mono ?_
    rintro e w4 ⟨rfl, hb⟩
    have Z3 := Lib.hid hb.size
    replace HIs := Lib.hid (HIs.out.step hb)
    replace HIt := Lib.hid (HIt.out.step hb)
    replace RBsw := Lib.hid (RBsw.out.step hb)
    replace RBtw := Lib.hid (RBtw.out.step hb)
    replace HXs := Lib.hid (HXs.out.step hb)
    replace HB := Lib.hid (below_trans HB.out hb)
    replace h0s := HXs.out.c0
    replace h1s := HXs.out.c1
    clear hb
    clear RBsw
    clear RBtw
    go_wp2_with fail
    refine (toState_any As cs 0 W.heap.size s ms _ HIs.out hs).mono ?_
    rintro e w5 ⟨Bsx, rfl, hr, hb⟩
    have Z4 := Lib.hid hb.size
    replace HIs := Lib.hid (HIs.out.step hb)
    replace HIt := Lib.hid (HIt.out.step hb)
    replace HXs := Lib.hid (HXs.out.step hb)
    replace HB := Lib.hid (below_trans HB.out hb)
    replace h0s := HXs.out.c0
    replace h1s := HXs.out.c1
    clear hb
    have RBsx := Lib.hid hr
    clear hr
    have hb : Below w5.heap.size w5 (w5.alloc (.cells #[.slice Bsx s.length s.length, .int .i64 ms] 35)) := (Below.refl _ _).alloc (Nat.le_refl _) _
    have g0s := (HXs.out.step hb).c0
    have g1s := (HXs.out.step hb).c1
    go_wp2_with fail
    clear g0s g1s
    have HXBsx := Lib.hid (Arg.next HB.out (.slice Bsx s.length s.length) (.int .i64 ms) 35 w5.heap.size rfl)
    have ZXBsx : Hid (w5.heap.size < (w5.alloc (.cells #[.slice Bsx s.length s.length, .int .i64 ms] 35)).heap.size) := HXBsx.out.hi
    have Z5 := Lib.hid hb.size
    replace HIs := Lib.hid (HIs.out.step hb)
    replace HIt := Lib.hid (HIt.out.step hb)
    replace RBsx := Lib.hid (RBsx.out.step hb)
    replace HXs := Lib.hid (HXs.out.step hb)
    replace HB := Lib.hid (below_trans HB.out hb)
    clear hb
    clear h0s h1s
    generalize (w5.alloc (.cells #[.slice Bsx s.length s.length, .int .i64 ms] 35)) = w6 at HB ZXBsx Z5 HIs HIt RBsx HXs HXBsx ⊢
    have h0s := HXs.out.c0
    have h1s := HXs.out.c1
    have h0Bsx := HXBsx.out.c0
    have h1Bsx := HXBsx.out.c1
    go_wp2_with fail
    refine (toInts_any At ct 0 W.heap.size t _ HIt.out ht).mono ?_
    rintro e w7 ⟨Btx, rfl, hr, hb⟩
    have Z6 := Lib.hid hb.size
    replace HIs := Lib.hid (HIs.out.step hb)
    replace HIt := Lib.hid (HIt.out.step hb)
    replace RBsx := Lib.hid (RBsx.out.step hb)
    replace HXs := Lib.hid (HXs.out.step hb)
    replace HXBsx := Lib.hid (HXBsx.out.step hb)
    replace HB := Lib.hid (below_trans HB.out hb)
    replace h0s := HXs.out.c0
    replace h1s := HXs.out.c1
    replace h0Bsx := HXBsx.out.c0
    replace h1Bsx := HXBsx.out.c1
    clear hb
    have RBtx := Lib.hid hr
    clear hr
    go_wp2_with fail
    refine (CI.out _ Bsx _ _ _ Btx _ _ _ RBsx.out.ins RBtx.out.ins).mono ?_
    rintro e w8 ⟨rfl, hb⟩
    have Z7 := Lib.hid hb.size
    replace HIs := Lib.hid (HIs.out.step hb)
    replace HIt := Lib.hid (HIt.out.step hb)
    replace RBsx := Lib.hid (RBsx.out.step hb)
    replace RBtx := Lib.hid (RBtx.out.step hb)
    replace HXs := Lib.hid (HXs.out.step hb)
    replace HXBsx := Lib.hid (HXBsx.out.step hb)
    replace HB := Lib.hid (below_trans HB.out hb)
    replace h0s := HXs.out.c0
    replace h1s := HXs.out.c1
    replace h0Bsx := HXBsx.out.c0
    replace h1Bsx := HXBsx.out.c1
    clear hb
    go_wp2_with fail
    go_region_with (first
      | (go_at_call 17; refine (toState_any As cs 0 W.heap.size s ms _ (HIs.out.step ((Below.refl _ _).drew)) hs).mono ?_; rintro e w9 ⟨Bsy, rfl, hr, hb0⟩; have hb : Below w8.heap.size w8 w9 := below_trans ((Below.refl _ _).drew) hb0; have Z8 := Lib.hid hb.size; replace HIs := Lib.hid (HIs.out.step hb); replace HIt := Lib.hid (HIt.out.step hb); replace RBsx := Lib.hid (RBsx.out.step hb); replace RBtx := Lib.hid (RBtx.out.step hb); replace HXs := Lib.hid (HXs.out.step hb); replace HXBsx := Lib.hid (HXBsx.out.step hb); replace HB := Lib.hid (below_trans HB.out hb); replace h0s := HXs.out.c0; replace h1s := HXs.out.c1; replace h0Bsx := HXBsx.out.c0; replace h1Bsx := HXBsx.out.c1; have RBsy := Lib.hid hr; clear hb hb0 hr)
      | (go_at_call 20; refine (eqState_same Bsx Bsy s.length s.length _ _ _ _ s ms _ RBsx.out.ins RBsy.out.ins hs).mono ?_; rintro e w10 ⟨rfl, hb⟩; have Z9 := Lib.hid hb.size; replace HIs := Lib.hid (HIs.out.step hb); replace HIt := Lib.hid (HIt.out.step hb); replace RBsx := Lib.hid (RBsx.out.step hb); replace RBtx := Lib.hid (RBtx.out.step hb); replace RBsy := Lib.hid (RBsy.out.step hb); replace HXs := Lib.hid (HXs.out.step hb); replace HXBsx := Lib.hid (HXBsx.out.step hb); replace HB := Lib.hid (below_trans HB.out hb); replace h0s := HXs.out.c0; replace h1s := HXs.out.c1; replace h0Bsx := HXBsx.out.c0; replace h1Bsx := HXBsx.out.c1; clear hb RBsy))
    all_goals
      go_wp2_with fail
      refine (toInts_any At ct 0 W.heap.size t _ HIt.out ht).mono ?_
      rintro e w11 ⟨Bty, rfl, hr, hb⟩
      have Z10 := Lib.hid hb.size
      replace HIs := Lib.hid (HIs.out.step hb)
      replace HIt := Lib.hid (HIt.out.step hb)
      replace RBsx := Lib.hid (RBsx.out.step hb)
      replace RBtx := Lib.hid (RBtx.out.step hb)
      replace HXs := Lib.hid (HXs.out.step hb)
      replace HXBsx := Lib.hid (HXBsx.out.step hb)
      replace HB := Lib.hid (below_trans HB.out hb)
      replace h0s := HXs.out.c0
      replace h1s := HXs.out.c1
      replace h0Bsx := HXBsx.out.c0
      replace h1Bsx := HXBsx.out.c1
      clear hb
      have RBty := Lib.hid hr
      clear hr
      go_wp2_with fail
      refine (eqInts_same Btx Bty t.length t.length _ _ _ _ t _ RBtx.out.ins RBty.out.ins ht).mono ?_
      rintro e w12 ⟨rfl, hb⟩
      have Z11 := Lib.hid hb.size
      replace HIs := Lib.hid (HIs.out.step hb)
      replace HIt := Lib.hid (HIt.out.step hb)
      replace RBsx := Lib.hid (RBsx.out.step hb)
      replace RBtx := Lib.hid (RBtx.out.step hb)
      replace RBty := Lib.hid (RBty.out.step hb)
      replace HXs := Lib.hid (HXs.out.step hb)
      replace HXBsx := Lib.hid (HXBsx.out.step hb)
      replace HB := Lib.hid (below_trans HB.out hb)
      replace h0s := HXs.out.c0
      replace h1s := HXs.out.c1
      replace h0Bsx := HXBsx.out.c0
      replace h1Bsx := HXBsx.out.c1
      clear hb
      clear RBty
      go_wp2
      go_ret
      exact ⟨rfl, HB.out⟩
  · rw [szI_no (by omega)] at C0
    go_enter Try.func10, Try.ntmps10
    go_wp2_with fail
    refine (C0.out _).mono ?_
    rintro e w1 ⟨rfl, hb⟩
    have hb0 : Below W.heap.size W (W.alloc (.cells #[.slice As s.length cs, .int .i64 ms] 31)) := (Below.alloc (Below.refl _ _) (Nat.le_refl _) _)
    have HB := Lib.hid (below_trans hb0 hb)
    clear hb0
    clear hb C0
    go_wp2
    go_ret
    exact ⟨rfl, HB.out⟩
end Go.Proofs.Ytpjoljaamakagaa
