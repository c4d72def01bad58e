/- The law FnExactOneWayState: its walk over the two functions' contracts. -/
import Derived.Test.YtdkffkgoalgjmaaAnswer
import Derived.Test.YtdkffkgoalgjmaaL10C
import Derived.Deep.CutRange
namespace Go.Proofs.Ytdkffkgoalgjmaa
open Go.RowKit
set_option linter.unusedVariables false

set_option maxHeartbeats 40000000 in
theorem fnExactOneWayState_walk (As : Option Addr) (cs : Nat) (s : List Int) (ms : Int) (qa : Int) (ya : Bool) (W : World) (hSs : Ints W 0 W.heap.size As s) (hcs : s.length ≤ cs) (hcms : cs ≤ maxLen) (wms : (Lit.int .i64 ms).wf = true) (wfqa : (Lit.int .i64 qa).wf = true) (hsh : W.ShapedOpen Try.prog) :
    Calls Try.prog 3 #[.agg #[.slice As s.length cs, .int .i64 ms], .agg #[.int .i64 qa, .bool ya]] W fun e w' => e = .returned (.bool true) ∧ Below W.heap.size W w' := by
  clear hsh
  unfold maxLen at hcms
  have C0 := Lib.hid (fun w => szState_any As cs s.length ms 1048576 w (by unfold maxLen; omega) (by omega))
  rw [show (((1048576 : Nat) : Int)) = 1048576 from rfl] at C0
  by_cases hs : s.length ≤ 1048576
  · rw [szI_yes hs] at C0
    have hz : (0 : Int) ≤ ((1048576 - s.length : Nat) : Int) := by omega
    generalize ((1048576 - s.length : Nat) : Int) = z at C0 hz
    obtain ⟨r0, u0, r1, l0, hI, hC⟩ := oneWayState_both s ms hs qa ya
    have CI := Lib.hid hI
    have CS := Lib.hid hC
    clear hI hC
    have HIs := Lib.hid (Ins.mk hSs (Nat.le_refl _))
    have HB := Lib.hid (Below.refl W.heap.size W)
    have HXs := Lib.hid (Arg.next HB.out (.slice As s.length cs) (.int .i64 ms) 24 (W.heap.size) rfl)
    replace HB := Lib.hid (HXs.out.below)
    have HXa := Lib.hid (Arg.next HB.out (.int .i64 qa) (.bool ya) 26 (W.heap.size + 1) (by simp))
    replace HXs := Lib.hid (HXs.out.step ((Below.refl _ _).alloc (Nat.le_refl _) (.cells #[.int .i64 qa, .bool ya] 26)))
    replace HB := Lib.hid (HXa.out.below)
    replace HIs := Lib.hid (HIs.out.step HB.out)
    clear hSs hcs
    have ZB := Lib.hid HB.out.size
    have ZXs : Hid (W.heap.size < ((W.alloc (.cells #[.slice As s.length cs, .int .i64 ms] 24)).alloc (.cells #[.int .i64 qa, .bool ya] 26)).heap.size) := HXs.out.hi
    have ZXa : Hid (W.heap.size + 1 < ((W.alloc (.cells #[.slice As s.length cs, .int .i64 ms] 24)).alloc (.cells #[.int .i64 qa, .bool ya] 26)).heap.size) := HXa.out.hi
    go_enter Try.func3, Try.ntmps3
    go_wp2_with fail
    generalize ((W.alloc (.cells #[.slice As s.length cs, .int .i64 ms] 24)).alloc (.cells #[.int .i64 qa, .bool ya] 26)) = w0 at HIs ZB HB HXs ZXs HXa ZXa⊢
    have h0s := HXs.out.c0
    have h1s := HXs.out.c1
    have h0a := HXa.out.c0
    have h1a := HXa.out.c1
    go_wp2_with fail
    refine (C0.out _).mono ?_
    rintro e w1 ⟨rfl, hb⟩
    have Z0 := Lib.hid hb.size
    replace HIs := Lib.hid (HIs.out.step hb)
    replace HXs := Lib.hid (HXs.out.step hb)
    replace HXa := Lib.hid (HXa.out.step hb)
    replace HB := Lib.hid (below_trans HB.out hb)
    replace h0s := HXs.out.c0
    replace h1s := HXs.out.c1
    replace h0a := HXa.out.c0
    replace h1a := HXa.out.c1
    clear hb
    clear C0
    go_wp2_with fail
    go_cut [6, 7] from 21 to 28 (fun pa pb wx => ∃ (b lo hi : Nat) (B : Option Addr) (c' : Nat), pa = .pointer (some ⟨b, 0, none⟩) ∧ pb = .bool r1 ∧ Hid (Two wx b (.slice B r0.length c') (.int .i64 u0) 28) ∧ Hid (Res wx lo hi B r0) ∧ Hid (Below w1.heap.size w1 wx) ∧ w1.heap.size ≤ lo ∧ w1.heap.size ≤ b ∧ (b < lo ∨ hi ≤ b))
    case first =>
      have hA0 := alloc_size w1 (.cells #[.slice none 0 0, .int .i64 0] 28)
      have g0s := (HXs.out.step ((Below.refl w1.heap.size w1).alloc (Nat.le_refl _) (.cells #[.slice none 0 0, .int .i64 0] 28))).c0
      have g1s := (HXs.out.step ((Below.refl w1.heap.size w1).alloc (Nat.le_refl _) (.cells #[.slice none 0 0, .int .i64 0] 28))).c1
      have g0a := (HXa.out.step ((Below.refl w1.heap.size w1).alloc (Nat.le_refl _) (.cells #[.slice none 0 0, .int .i64 0] 28))).c0
      have g1a := (HXa.out.step ((Below.refl w1.heap.size w1).alloc (Nat.le_refl _) (.cells #[.slice none 0 0, .int .i64 0] 28))).c1
      go_region_with (first
        | (go_at_call 17; refine (toState_any As cs 0 W.heap.size s ms _ (HIs.out.step (by first | exact (Below.refl _ _).drew | exact ((Below.refl _ _).drew).alloc (Nat.le_refl _) _ | exact ((Below.refl _ _).alloc (Nat.le_refl _) _).drew)) hs).mono ?_; rintro e v1 ⟨Bsw, rfl, hr, hb0⟩; have hb : Below w1.heap.size w1 v1 := below_trans (by first | exact (Below.refl _ _).drew | exact ((Below.refl _ _).drew).alloc (Nat.le_refl _) _ | exact ((Below.refl _ _).alloc (Nat.le_refl _) _).drew) hb0; (try (have HQ : Hid (v1.heap[w1.heap.size]? = some (.cells #[.slice none 0 0, .int .i64 0] 28 (0, 0))) := Lib.hid ((hb0.block w1.heap.size (by simp)).trans (alloc_row w1 _ _)))); have HBv1 := Lib.hid hb; have hz1 : w1.heap.size ≤ v1.heap.size := Nat.le_trans (by first | exact Nat.le_refl _ | simp) hb0.size; have hA1 := alloc_size v1 (.cells #[.slice none 0 0, .int .i64 0] 28); have h0s := (HXs.out.step hb).c0; have h1s := (HXs.out.step hb).c1; have g0s := ((HXs.out.step hb).step ((Below.refl v1.heap.size v1).alloc (Nat.le_refl _) (.cells #[.slice none 0 0, .int .i64 0] 28))).c0; have g1s := ((HXs.out.step hb).step ((Below.refl v1.heap.size v1).alloc (Nat.le_refl _) (.cells #[.slice none 0 0, .int .i64 0] 28))).c1; have h0a := (HXa.out.step hb).c0; have h1a := (HXa.out.step hb).c1; have g0a := ((HXa.out.step hb).step ((Below.refl v1.heap.size v1).alloc (Nat.le_refl _) (.cells #[.slice none 0 0, .int .i64 0] 28))).c0; have g1a := ((HXa.out.step hb).step ((Below.refl v1.heap.size v1).alloc (Nat.le_refl _) (.cells #[.slice none 0 0, .int .i64 0] 28))).c1; (try (have q0 := two0 HQ.out; have q1 := two1 HQ.out; have q2 := row_freeI HQ.out 0; have q3 := row_freeI HQ.out 1)); obtain ⟨loRBsw, hiRBsw, hr⟩ : ∃ lo hi, Res v1 lo hi Bsw s := ⟨_, _, hr⟩; have RBsw := Lib.hid hr; clear hb hb0)
        | (go_at_call 18; refine (toAsked_any qa ya _).mono ?_; rintro e v2 ⟨rfl, hb0⟩; have hb1 : Below v1.heap.size v1 v2 := (by first | exact hb0 | exact below_trans ((Below.refl _ _).alloc (Nat.le_refl _) _) hb0); have hb : Below w1.heap.size w1 v2 := below_trans HBv1.out hb1; (try (have hqlo := row_ltI HQ.out)); (try (replace HQ := Lib.hid ((hb0.block _ (row_ltI HQ.out)).trans HQ.out))); (try (have HQ : Hid (v2.heap[v1.heap.size]? = some (.cells #[.slice none 0 0, .int .i64 0] 28 (0, 0))) := Lib.hid ((hb0.block v1.heap.size (by simp)).trans (alloc_row v1 _ _)))); replace RBsw := Lib.hid (RBsw.out.step hb1); have HBv2 := Lib.hid hb; have hz2 : v1.heap.size ≤ v2.heap.size := Nat.le_trans (by first | exact Nat.le_refl _ | simp) hb0.size; have hA2 := alloc_size v2 (.cells #[.slice none 0 0, .int .i64 0] 28); have hA1 := alloc_size v1 (.cells #[.slice none 0 0, .int .i64 0] 28); have h0s := (HXs.out.step hb).c0; have h1s := (HXs.out.step hb).c1; have g0s := ((HXs.out.step hb).step ((Below.refl v2.heap.size v2).alloc (Nat.le_refl _) (.cells #[.slice none 0 0, .int .i64 0] 28))).c0; have g1s := ((HXs.out.step hb).step ((Below.refl v2.heap.size v2).alloc (Nat.le_refl _) (.cells #[.slice none 0 0, .int .i64 0] 28))).c1; have h0a := (HXa.out.step hb).c0; have h1a := (HXa.out.step hb).c1; have g0a := ((HXa.out.step hb).step ((Below.refl v2.heap.size v2).alloc (Nat.le_refl _) (.cells #[.slice none 0 0, .int .i64 0] 28))).c0; have g1a := ((HXa.out.step hb).step ((Below.refl v2.heap.size v2).alloc (Nat.le_refl _) (.cells #[.slice none 0 0, .int .i64 0] 28))).c1; (try (have q0 := two0 HQ.out; have q1 := two1 HQ.out; have q2 := row_freeI HQ.out 0; have q3 := row_freeI HQ.out 1)); clear hb hb0 hb1)
        | (go_at_call 16; refine (CS.out _ Bsw _ loRBsw hiRBsw (by first | exact RBsw.out.ins | exact RBsw.out.ins.step ((Below.refl _ _).alloc (Nat.le_refl _) _))).mono ?_; rintro e v3 ⟨BR, cR, rfl, hr, hb0⟩; have hb1 : Below v2.heap.size v2 v3 := (by first | exact hb0 | exact below_trans ((Below.refl _ _).alloc (Nat.le_refl _) _) hb0); have hb : Below w1.heap.size w1 v3 := below_trans HBv2.out hb1; (try (have hqlo := row_ltI HQ.out)); (try (replace HQ := Lib.hid ((hb0.block _ (row_ltI HQ.out)).trans HQ.out))); (try (have HQ : Hid (v3.heap[v2.heap.size]? = some (.cells #[.slice none 0 0, .int .i64 0] 28 (0, 0))) := Lib.hid ((hb0.block v2.heap.size (by simp)).trans (alloc_row v2 _ _)))); replace RBsw := Lib.hid (RBsw.out.step hb1); have HBv3 := Lib.hid hb; have hz3 : v2.heap.size ≤ v3.heap.size := Nat.le_trans (by first | exact Nat.le_refl _ | simp) hb0.size; have hA3 := alloc_size v3 (.cells #[.slice none 0 0, .int .i64 0] 28); have hA2 := alloc_size v2 (.cells #[.slice none 0 0, .int .i64 0] 28); have h0s := (HXs.out.step hb).c0; have h1s := (HXs.out.step hb).c1; have g0s := ((HXs.out.step hb).step ((Below.refl v3.heap.size v3).alloc (Nat.le_refl _) (.cells #[.slice none 0 0, .int .i64 0] 28))).c0; have g1s := ((HXs.out.step hb).step ((Below.refl v3.heap.size v3).alloc (Nat.le_refl _) (.cells #[.slice none 0 0, .int .i64 0] 28))).c1; have h0a := (HXa.out.step hb).c0; have h1a := (HXa.out.step hb).c1; have g0a := ((HXa.out.step hb).step ((Below.refl v3.heap.size v3).alloc (Nat.le_refl _) (.cells #[.slice none 0 0, .int .i64 0] 28))).c0; have g1a := ((HXa.out.step hb).step ((Below.refl v3.heap.size v3).alloc (Nat.le_refl _) (.cells #[.slice none 0 0, .int .i64 0] 28))).c1; (try (have q0 := two0 HQ.out; have q1 := two1 HQ.out; have q2 := row_freeI HQ.out 0; have q3 := row_freeI HQ.out 1)); have RR := Lib.hid hr; clear hb hb0 hb1 hr))
      all_goals
        go_wp2_with fail
        go_meet
        first
          | exact ⟨v3.heap.size, _, _, BR, cR, rfl, rfl, Lib.hid (Two.new v3 _ _ _ _ rfl), Lib.hid (RR.out.step ((Below.refl _ _).alloc (Nat.le_refl _) _)), Lib.hid (HBv3.out.alloc HBv3.out.size _), by first | omega | (simp; omega), HBv3.out.size, .inr (Nat.le_refl _)⟩
          | exact ⟨w1.heap.size, _, _, BR, cR, rfl, rfl, Lib.hid ⟨(stored2 HQ.out _ _).1⟩, Lib.hid (RR.out.within (stored2 HQ.out _ _).2 (by first | omega | (simp; omega))), Lib.hid (HBv3.out.trans ((stored2 HQ.out _ _).2.below (by omega) HBv3.out.size)), by first | omega | (simp; omega), by omega, by first | omega | (simp; omega)⟩
          | exact ⟨v1.heap.size, _, _, BR, cR, rfl, rfl, Lib.hid ⟨(stored2 HQ.out _ _).1⟩, Lib.hid (RR.out.within (stored2 HQ.out _ _).2 (by first | omega | (simp; omega))), Lib.hid (HBv3.out.trans ((stored2 HQ.out _ _).2.below (by omega) HBv3.out.size)), by first | omega | (simp; omega), by omega, by first | omega | (simp; omega)⟩
          | exact ⟨v2.heap.size, _, _, BR, cR, rfl, rfl, Lib.hid ⟨(stored2 HQ.out _ _).1⟩, Lib.hid (RR.out.within (stored2 HQ.out _ _).2 (by first | omega | (simp; omega))), Lib.hid (HBv3.out.trans ((stored2 HQ.out _ _).2.below (by omega) HBv3.out.size)), by first | omega | (simp; omega), by omega, by first | omega | (simp; omega)⟩
    case rest =>
      obtain ⟨bw, low, hiw, Bw0, cw0, rfl, rfl, HTc, HRc, HBc, hlow, hblw, hdisw⟩ := hcut
      obtain ⟨w2, hwc⟩ : ∃ x, x = wc := ⟨_, rfl⟩
      rw [← hwc] at HTc HRc HBc ⊢
      clear hwc
      have hb := HBc.out
      have Z1 := Lib.hid hb.size
      replace HIs := Lib.hid (HIs.out.step hb)
      replace HXs := Lib.hid (HXs.out.step hb)
      replace HXa := Lib.hid (HXa.out.step hb)
      replace HB := Lib.hid (below_trans HB.out hb)
      replace h0s := HXs.out.c0
      replace h1s := HXs.out.c1
      replace h0a := HXa.out.c0
      replace h1a := HXa.out.c1
      have Rw0 := HRc
      have HXw0 : Hid (Arg W w2 bw (.slice Bw0 r0.length cw0) (.int .i64 u0)) := Lib.hid ⟨HB.out, HTc.out.c0, HTc.out.c1, Nat.le_trans (by have := ZB.out; have := Z0.out; omega) hblw, HTc.out.lt⟩
      have hltw := HTc.out.lt
      have htopw := HRc.out.top
      have ZXw0 := Lib.hid hltw
      clear hb HTc HRc HBc
      have h0w0 := HXw0.out.c0
      have h1w0 := HXw0.out.c1
      go_wp2_with fail
      refine (toState_any As cs 0 W.heap.size s ms _ HIs.out hs).mono ?_
      rintro e w3 ⟨Bsx, rfl, hr, hb⟩
      have Z2 := Lib.hid hb.size
      replace HIs := Lib.hid (HIs.out.step hb)
      replace Rw0 := Lib.hid (Rw0.out.step hb)
      replace HXs := Lib.hid (HXs.out.step hb)
      replace HXa := Lib.hid (HXa.out.step hb)
      replace HXw0 := Lib.hid (HXw0.out.step hb)
      replace HB := Lib.hid (below_trans HB.out hb)
      replace h0s := HXs.out.c0
      replace h1s := HXs.out.c1
      replace h0a := HXa.out.c0
      replace h1a := HXa.out.c1
      replace h0w0 := HXw0.out.c0
      replace h1w0 := HXw0.out.c1
      clear hb
      have RBsx := Lib.hid hr
      clear hr
      have hb : Below w3.heap.size w3 (w3.alloc (.cells #[.slice Bsx s.length s.length, .int .i64 ms] 28)) := (Below.refl _ _).alloc (Nat.le_refl _) _
      have g0s := (HXs.out.step hb).c0
      have g1s := (HXs.out.step hb).c1
      have g0a := (HXa.out.step hb).c0
      have g1a := (HXa.out.step hb).c1
      have g0w0 := (HXw0.out.step hb).c0
      have g1w0 := (HXw0.out.step hb).c1
      go_wp2_with fail
      clear g0s g1s g0a g1a g0w0 g1w0
      have HXBsx := Lib.hid (Arg.next HB.out (.slice Bsx s.length s.length) (.int .i64 ms) 28 w3.heap.size rfl)
      have ZXBsx : Hid (w3.heap.size < (w3.alloc (.cells #[.slice Bsx s.length s.length, .int .i64 ms] 28)).heap.size) := HXBsx.out.hi
      have Z3 := Lib.hid hb.size
      replace HIs := Lib.hid (HIs.out.step hb)
      replace Rw0 := Lib.hid (Rw0.out.step hb)
      replace RBsx := Lib.hid (RBsx.out.step hb)
      replace HXs := Lib.hid (HXs.out.step hb)
      replace HXa := Lib.hid (HXa.out.step hb)
      replace HXw0 := Lib.hid (HXw0.out.step hb)
      replace HB := Lib.hid (below_trans HB.out hb)
      clear hb
      clear h0s h1s h0a h1a h0w0 h1w0
      generalize (w3.alloc (.cells #[.slice Bsx s.length s.length, .int .i64 ms] 28)) = w4 at HB ZXBsx Z3 HIs Rw0 RBsx HXs HXa HXw0 HXBsx ⊢
      have h0s := HXs.out.c0
      have h1s := HXs.out.c1
      have h0a := HXa.out.c0
      have h1a := HXa.out.c1
      have h0w0 := HXw0.out.c0
      have h1w0 := HXw0.out.c1
      have h0Bsx := HXBsx.out.c0
      have h1Bsx := HXBsx.out.c1
      go_wp2_with fail
      go_cut [9, 10] from 31 to 37 (fun pa pb wx => ∃ (b lo hi : Nat) (B : Option Addr) (c' : Nat), pa = .pointer (some ⟨b, 0, none⟩) ∧ pb = .bool r1 ∧ Hid (Two wx b (.slice B r0.length c') (.int .i64 u0) 28) ∧ Hid (Res wx lo hi B r0) ∧ Hid (Below w4.heap.size w4 wx) ∧ w4.heap.size ≤ lo ∧ w4.heap.size ≤ b ∧ (b < lo ∨ hi ≤ b))
      case first =>
        have hA0 := alloc_size w4 (.cells #[.slice none 0 0, .int .i64 0] 28)
        clear h0s h1s h0w0 h1w0
        have g0a := (HXa.out.step ((Below.refl w4.heap.size w4).alloc (Nat.le_refl _) (.cells #[.slice none 0 0, .int .i64 0] 28))).c0
        have g1a := (HXa.out.step ((Below.refl w4.heap.size w4).alloc (Nat.le_refl _) (.cells #[.slice none 0 0, .int .i64 0] 28))).c1
        have g0Bsx := (HXBsx.out.step ((Below.refl w4.heap.size w4).alloc (Nat.le_refl _) (.cells #[.slice none 0 0, .int .i64 0] 28))).c0
        have g1Bsx := (HXBsx.out.step ((Below.refl w4.heap.size w4).alloc (Nat.le_refl _) (.cells #[.slice none 0 0, .int .i64 0] 28))).c1
        go_region_with (first
          | (go_at_call 18; refine (toAsked_any qa ya _).mono ?_; rintro e v1 ⟨rfl, hb0⟩; have hb : Below w4.heap.size w4 v1 := below_trans (by first | exact (Below.refl _ _).drew | exact ((Below.refl _ _).drew).alloc (Nat.le_refl _) _ | exact ((Below.refl _ _).alloc (Nat.le_refl _) _).drew) hb0; (try (have HQ : Hid (v1.heap[w4.heap.size]? = some (.cells #[.slice none 0 0, .int .i64 0] 28 (0, 0))) := Lib.hid ((hb0.block w4.heap.size (by simp)).trans (alloc_row w4 _ _)))); have HBv1 := Lib.hid hb; have hz1 : w4.heap.size ≤ v1.heap.size := Nat.le_trans (by first | exact Nat.le_refl _ | simp) hb0.size; have hA1 := alloc_size v1 (.cells #[.slice none 0 0, .int .i64 0] 28); have h0a := (HXa.out.step hb).c0; have h1a := (HXa.out.step hb).c1; have g0a := ((HXa.out.step hb).step ((Below.refl v1.heap.size v1).alloc (Nat.le_refl _) (.cells #[.slice none 0 0, .int .i64 0] 28))).c0; have g1a := ((HXa.out.step hb).step ((Below.refl v1.heap.size v1).alloc (Nat.le_refl _) (.cells #[.slice none 0 0, .int .i64 0] 28))).c1; have h0Bsx := (HXBsx.out.step hb).c0; have h1Bsx := (HXBsx.out.step hb).c1; have g0Bsx := ((HXBsx.out.step hb).step ((Below.refl v1.heap.size v1).alloc (Nat.le_refl _) (.cells #[.slice none 0 0, .int .i64 0] 28))).c0; have g1Bsx := ((HXBsx.out.step hb).step ((Below.refl v1.heap.size v1).alloc (Nat.le_refl _) (.cells #[.slice none 0 0, .int .i64 0] 28))).c1; (try (have q0 := two0 HQ.out; have q1 := two1 HQ.out; have q2 := row_freeI HQ.out 0; have q3 := row_freeI HQ.out 1)); clear hb hb0)
          | (go_at_call 19; refine (CI.out _ Bsx _ w2.heap.size w3.heap.size (by first | exact RBsx.out.ins.step HBv1.out | exact RBsx.out.ins.step (HBv1.out.alloc HBv1.out.size _))).mono ?_; rintro e v2 ⟨BR, cR, rfl, hr, hb0⟩; have hb1 : Below v1.heap.size v1 v2 := (by first | exact hb0 | exact below_trans ((Below.refl _ _).alloc (Nat.le_refl _) _) hb0); have hb : Below w4.heap.size w4 v2 := below_trans HBv1.out hb1; (try (have hqlo := row_ltI HQ.out)); (try (replace HQ := Lib.hid ((hb0.block _ (row_ltI HQ.out)).trans HQ.out))); (try (have HQ : Hid (v2.heap[v1.heap.size]? = some (.cells #[.slice none 0 0, .int .i64 0] 28 (0, 0))) := Lib.hid ((hb0.block v1.heap.size (by simp)).trans (alloc_row v1 _ _)))); have HBv2 := Lib.hid hb; have hz2 : v1.heap.size ≤ v2.heap.size := Nat.le_trans (by first | exact Nat.le_refl _ | simp) hb0.size; have hA2 := alloc_size v2 (.cells #[.slice none 0 0, .int .i64 0] 28); have hA1 := alloc_size v1 (.cells #[.slice none 0 0, .int .i64 0] 28); have h0a := (HXa.out.step hb).c0; have h1a := (HXa.out.step hb).c1; have g0a := ((HXa.out.step hb).step ((Below.refl v2.heap.size v2).alloc (Nat.le_refl _) (.cells #[.slice none 0 0, .int .i64 0] 28))).c0; have g1a := ((HXa.out.step hb).step ((Below.refl v2.heap.size v2).alloc (Nat.le_refl _) (.cells #[.slice none 0 0, .int .i64 0] 28))).c1; have h0Bsx := (HXBsx.out.step hb).c0; have h1Bsx := (HXBsx.out.step hb).c1; have g0Bsx := ((HXBsx.out.step hb).step ((Below.refl v2.heap.size v2).alloc (Nat.le_refl _) (.cells #[.slice none 0 0, .int .i64 0] 28))).c0; have g1Bsx := ((HXBsx.out.step hb).step ((Below.refl v2.heap.size v2).alloc (Nat.le_refl _) (.cells #[.slice none 0 0, .int .i64 0] 28))).c1; (try (have q0 := two0 HQ.out; have q1 := two1 HQ.out; have q2 := row_freeI HQ.out 0; have q3 := row_freeI HQ.out 1)); have RR := Lib.hid hr; clear hb hb0 hb1 hr))
        all_goals
          go_wp2_with fail
          go_meet
          first
            | exact ⟨v2.heap.size, _, _, BR, cR, rfl, rfl, Lib.hid (Two.new v2 _ _ _ _ rfl), Lib.hid (RR.out.step ((Below.refl _ _).alloc (Nat.le_refl _) _)), Lib.hid (HBv2.out.alloc HBv2.out.size _), by first | omega | (simp; omega), HBv2.out.size, .inr (Nat.le_refl _)⟩
            | exact ⟨w4.heap.size, _, _, BR, cR, rfl, rfl, Lib.hid ⟨(stored2 HQ.out _ _).1⟩, Lib.hid (RR.out.within (stored2 HQ.out _ _).2 (by first | omega | (simp; omega))), Lib.hid (HBv2.out.trans ((stored2 HQ.out _ _).2.below (by omega) HBv2.out.size)), by first | omega | (simp; omega), by omega, by first | omega | (simp; omega)⟩
            | exact ⟨v1.heap.size, _, _, BR, cR, rfl, rfl, Lib.hid ⟨(stored2 HQ.out _ _).1⟩, Lib.hid (RR.out.within (stored2 HQ.out _ _).2 (by first | omega | (simp; omega))), Lib.hid (HBv2.out.trans ((stored2 HQ.out _ _).2.below (by omega) HBv2.out.size)), by first | omega | (simp; omega), by omega, by first | omega | (simp; omega)⟩
      case rest =>
        obtain ⟨bg, log, hig, Bg0, cg0, rfl, rfl, HTc, HRc, HBc, hlog, hblg, hdisg⟩ := hcut
        obtain ⟨w5, hwc⟩ : ∃ x, x = wc := ⟨_, rfl⟩
        rw [← hwc] at HTc HRc HBc ⊢
        clear hwc
        have hb := HBc.out
        have Z4 := Lib.hid hb.size
        replace HIs := Lib.hid (HIs.out.step hb)
        replace Rw0 := Lib.hid (Rw0.out.step hb)
        replace RBsx := Lib.hid (RBsx.out.step hb)
        replace HXs := Lib.hid (HXs.out.step hb)
        replace HXa := Lib.hid (HXa.out.step hb)
        replace HXw0 := Lib.hid (HXw0.out.step hb)
        replace HXBsx := Lib.hid (HXBsx.out.step hb)
        replace HB := Lib.hid (below_trans HB.out hb)
        replace h0s := HXs.out.c0
        replace h1s := HXs.out.c1
        replace h0a := HXa.out.c0
        replace h1a := HXa.out.c1
        replace h0w0 := HXw0.out.c0
        replace h1w0 := HXw0.out.c1
        replace h0Bsx := HXBsx.out.c0
        replace h1Bsx := HXBsx.out.c1
        have Rg0 := HRc
        have HXg0 : Hid (Arg W w5 bg (.slice Bg0 r0.length cg0) (.int .i64 u0)) := Lib.hid ⟨HB.out, HTc.out.c0, HTc.out.c1, Nat.le_trans (by have := ZB.out; have := Z0.out; have := Z1.out; have := Z2.out; have := Z3.out; omega) hblg, HTc.out.lt⟩
        have hltg := HTc.out.lt
        have htopg := HRc.out.top
        have ZXg0 := Lib.hid hltg
        clear hb HTc HRc HBc
        have h0g0 := HXg0.out.c0
        have h1g0 := HXg0.out.c1
        go_wp2_with fail
        refine (eqState_same Bg0 Bw0 cg0 cw0 _ _ _ _ r0 u0 _ Rg0.out.ins Rw0.out.ins l0).mono ?_
        rintro e w6 ⟨rfl, hb⟩
        have Z5 := Lib.hid hb.size
        replace HIs := Lib.hid (HIs.out.step hb)
        replace Rw0 := Lib.hid (Rw0.out.step hb)
        replace RBsx := Lib.hid (RBsx.out.step hb)
        replace Rg0 := Lib.hid (Rg0.out.step hb)
        replace HXs := Lib.hid (HXs.out.step hb)
        replace HXa := Lib.hid (HXa.out.step hb)
        replace HXw0 := Lib.hid (HXw0.out.step hb)
        replace HXBsx := Lib.hid (HXBsx.out.step hb)
        replace HXg0 := Lib.hid (HXg0.out.step hb)
        replace HB := Lib.hid (below_trans HB.out hb)
        replace h0s := HXs.out.c0
        replace h1s := HXs.out.c1
        replace h0a := HXa.out.c0
        replace h1a := HXa.out.c1
        replace h0w0 := HXw0.out.c0
        replace h1w0 := HXw0.out.c1
        replace h0Bsx := HXBsx.out.c0
        replace h1Bsx := HXBsx.out.c1
        replace h0g0 := HXg0.out.c0
        replace h1g0 := HXg0.out.c1
        clear hb
        go_wp2_with fail
        go_cut [51] from 47 to 51 (fun pa wx => pa = .bool false ∧ Hid (Below w6.heap.size w6 wx))
        case first =>
          have HB9 := Lib.hid (Below.refl w6.heap.size w6)
          go_region_with (first
            | (go_at_call 17; refine (toState_any As cs 0 W.heap.size s ms _ (HIs.out.step ((Below.refl _ _).drew)) hs).mono ?_; rintro e w7 ⟨Bsy, rfl, hr, hb0⟩; have hb : Below w6.heap.size w6 w7 := below_trans ((Below.refl _ _).drew) hb0; have Y1 := Lib.hid hb; replace HIs := Lib.hid (HIs.out.step hb); replace Rw0 := Lib.hid (Rw0.out.step hb); replace RBsx := Lib.hid (RBsx.out.step hb); replace Rg0 := Lib.hid (Rg0.out.step hb); have h0s := (HXs.out.step hb).c0; have h1s := (HXs.out.step hb).c1; have h0a := (HXa.out.step hb).c0; have h1a := (HXa.out.step hb).c1; have h0w0 := (HXw0.out.step hb).c0; have h1w0 := (HXw0.out.step hb).c1; have h0Bsx := (HXBsx.out.step hb).c0; have h1Bsx := (HXBsx.out.step hb).c1; have h0g0 := (HXg0.out.step hb).c0; have h1g0 := (HXg0.out.step hb).c1; have RBsy := Lib.hid hr; clear hb hb0 hr)
            | (go_at_call 20; refine (eqState_same Bsx Bsy s.length s.length _ _ _ _ s ms _ RBsx.out.ins RBsy.out.ins hs).mono ?_; rintro e w8 ⟨rfl, hb⟩; have Y2 := Lib.hid (below_trans Y1.out hb); clear hb))
          all_goals
            go_wp2_with fail
            go_meet
            exact ⟨rfl, Y2⟩
        case rest =>
          obtain ⟨w7, hwc⟩ : ∃ x, x = wc := ⟨_, rfl⟩
          obtain ⟨rfl, hcut2⟩ := hcut
          rw [← hwc] at hcut2 ⊢
          clear hwc
          have hb := hcut2.out
          have Z6 := Lib.hid hb.size
          replace HIs := Lib.hid (HIs.out.step hb)
          replace Rw0 := Lib.hid (Rw0.out.step hb)
          replace RBsx := Lib.hid (RBsx.out.step hb)
          replace Rg0 := Lib.hid (Rg0.out.step hb)
          replace HXs := Lib.hid (HXs.out.step hb)
          replace HXa := Lib.hid (HXa.out.step hb)
          replace HXw0 := Lib.hid (HXw0.out.step hb)
          replace HXBsx := Lib.hid (HXBsx.out.step hb)
          replace HXg0 := Lib.hid (HXg0.out.step hb)
          replace HB := Lib.hid (below_trans HB.out hb)
          replace h0s := HXs.out.c0
          replace h1s := HXs.out.c1
          replace h0a := HXa.out.c0
          replace h1a := HXa.out.c1
          replace h0w0 := HXw0.out.c0
          replace h1w0 := HXw0.out.c1
          replace h0Bsx := HXBsx.out.c0
          replace h1Bsx := HXBsx.out.c1
          replace h0g0 := HXg0.out.c0
          replace h1g0 := HXg0.out.c1
          clear hb hcut2
          go_wp2_with fail
          refine (markState_any Bsx s.length _ _ s ms _ RBsx.out hs).mono ?_
          rintro e w8 ⟨rfl, hr, hw⟩
          clear hr
          have ZZ : W.heap.size ≤ w0.heap.size ∧ w0.heap.size ≤ w1.heap.size ∧ w1.heap.size ≤ w2.heap.size ∧ w2.heap.size ≤ w3.heap.size ∧ w3.heap.size ≤ w4.heap.size ∧ w4.heap.size ≤ w5.heap.size ∧ w5.heap.size ≤ w6.heap.size ∧ w6.heap.size ≤ w7.heap.size := ⟨ZB.out, Z0.out, Z1.out, Z2.out, Z3.out, Z4.out, Z5.out, Z6.out⟩
          replace HIs := Lib.hid (HIs.out.within hw (by omega))
          replace Rw0 := Lib.hid (Rw0.out.within hw (by omega))
          replace Rg0 := Lib.hid (Rg0.out.within hw (by omega))
          have ZX := ZXs.out
          replace HXs := Lib.hid (HXs.out.within hw (by omega))
          clear ZX
          have ZX := ZXa.out
          replace HXa := Lib.hid (HXa.out.within hw (by omega))
          clear ZX
          have ZX := ZXw0.out
          replace HXw0 := Lib.hid (HXw0.out.within hw (by omega))
          clear ZX
          have ZX := ZXBsx.out
          replace HXBsx := Lib.hid (HXBsx.out.within hw (by omega))
          clear ZX
          have ZX := ZXg0.out
          replace HXg0 := Lib.hid (HXg0.out.within hw (by omega))
          clear ZX
          replace HB := Lib.hid (HB.out.trans (hw.below (by omega) HB.out.size))
          replace h0s := HXs.out.c0
          replace h1s := HXs.out.c1
          replace h0a := HXa.out.c0
          replace h1a := HXa.out.c1
          replace h0w0 := HXw0.out.c0
          replace h1w0 := HXw0.out.c1
          replace h0Bsx := HXBsx.out.c0
          replace h1Bsx := HXBsx.out.c1
          replace h0g0 := HXg0.out.c0
          replace h1g0 := HXg0.out.c1
          have Z7 := Lib.hid hw.size
          clear hw ZZ
          clear RBsx
          go_wp2_with fail
          refine (eqState_same Bg0 Bw0 cg0 cw0 _ _ _ _ r0 u0 _ Rg0.out.ins Rw0.out.ins l0).mono ?_
          rintro e w9 ⟨rfl, hb⟩
          have Z8 := Lib.hid hb.size
          replace HIs := Lib.hid (HIs.out.step hb)
          replace Rw0 := Lib.hid (Rw0.out.step hb)
          replace Rg0 := Lib.hid (Rg0.out.step hb)
          replace HXs := Lib.hid (HXs.out.step hb)
          replace HXa := Lib.hid (HXa.out.step hb)
          replace HXw0 := Lib.hid (HXw0.out.step hb)
          replace HXBsx := Lib.hid (HXBsx.out.step hb)
          replace HXg0 := Lib.hid (HXg0.out.step hb)
          replace HB := Lib.hid (below_trans HB.out hb)
          replace h0s := HXs.out.c0
          replace h1s := HXs.out.c1
          replace h0a := HXa.out.c0
          replace h1a := HXa.out.c1
          replace h0w0 := HXw0.out.c0
          replace h1w0 := HXw0.out.c1
          replace h0Bsx := HXBsx.out.c0
          replace h1Bsx := HXBsx.out.c1
          replace h0g0 := HXg0.out.c0
          replace h1g0 := HXg0.out.c1
          clear hb
          go_wp2_with fail
          refine (markState_any Bg0 cg0 _ _ r0 u0 _ Rg0.out l0).mono ?_
          rintro e w10 ⟨rfl, hr, hw⟩
          have ZZ : W.heap.size ≤ w0.heap.size ∧ w0.heap.size ≤ w1.heap.size ∧ w1.heap.size ≤ w2.heap.size ∧ w2.heap.size ≤ w3.heap.size ∧ w3.heap.size ≤ w4.heap.size ∧ w4.heap.size ≤ w5.heap.size ∧ w5.heap.size ≤ w6.heap.size ∧ w6.heap.size ≤ w7.heap.size ∧ w7.heap.size ≤ w8.heap.size ∧ w8.heap.size ≤ w9.heap.size := ⟨ZB.out, Z0.out, Z1.out, Z2.out, Z3.out, Z4.out, Z5.out, Z6.out, Z7.out, Z8.out⟩
          replace HIs := Lib.hid (HIs.out.within hw (by omega))
          replace Rw0 := Lib.hid (Rw0.out.within hw (by omega))
          have ZX := ZXs.out
          replace HXs := Lib.hid (HXs.out.within hw (by omega))
          clear ZX
          have ZX := ZXa.out
          replace HXa := Lib.hid (HXa.out.within hw (by omega))
          clear ZX
          have ZX := ZXw0.out
          replace HXw0 := Lib.hid (HXw0.out.within hw (by omega))
          clear ZX
          have ZX := ZXBsx.out
          replace HXBsx := Lib.hid (HXBsx.out.within hw (by omega))
          clear ZX
          have ZX := ZXg0.out
          replace HXg0 := Lib.hid (HXg0.out.within hw (by omega))
          clear ZX
          replace HB := Lib.hid (HB.out.trans (hw.below (by omega) HB.out.size))
          replace h0s := HXs.out.c0
          replace h1s := HXs.out.c1
          replace h0a := HXa.out.c0
          replace h1a := HXa.out.c1
          replace h0w0 := HXw0.out.c0
          replace h1w0 := HXw0.out.c1
          replace h0Bsx := HXBsx.out.c0
          replace h1Bsx := HXBsx.out.c1
          replace h0g0 := HXg0.out.c0
          replace h1g0 := HXg0.out.c1
          have Z9 := Lib.hid hw.size
          clear hw ZZ
          have M0 := Lib.hid hr
          clear hr
          clear Rg0
          go_wp2_with fail
          refine (heldState_any Bg0 cg0 _ _ r0.length u0 _ M0.out.ins l0).mono ?_
          rintro e w11 ⟨rfl, hb⟩
          have Z10 := Lib.hid hb.size
          replace HIs := Lib.hid (HIs.out.step hb)
          replace Rw0 := Lib.hid (Rw0.out.step hb)
          replace M0 := Lib.hid (M0.out.step hb)
          replace HXs := Lib.hid (HXs.out.step hb)
          replace HXa := Lib.hid (HXa.out.step hb)
          replace HXw0 := Lib.hid (HXw0.out.step hb)
          replace HXBsx := Lib.hid (HXBsx.out.step hb)
          replace HXg0 := Lib.hid (HXg0.out.step hb)
          replace HB := Lib.hid (below_trans HB.out hb)
          replace h0s := HXs.out.c0
          replace h1s := HXs.out.c1
          replace h0a := HXa.out.c0
          replace h1a := HXa.out.c1
          replace h0w0 := HXw0.out.c0
          replace h1w0 := HXw0.out.c1
          replace h0Bsx := HXBsx.out.c0
          replace h1Bsx := HXBsx.out.c1
          replace h0g0 := HXg0.out.c0
          replace h1g0 := HXg0.out.c1
          clear hb
          go_wp2_with fail
          go_cut [14, 15] from 79 to 86 (fun pa pb wx => ∃ (b lo hi : Nat) (B : Option Addr) (c' : Nat), pa = .pointer (some ⟨b, 0, none⟩) ∧ pb = .bool r1 ∧ Hid (Two wx b (.slice B r0.length c') (.int .i64 u0) 28) ∧ Hid (Res wx lo hi B r0) ∧ Hid (Below w11.heap.size w11 wx) ∧ w11.heap.size ≤ lo ∧ w11.heap.size ≤ b ∧ (b < lo ∨ hi ≤ b))
          case first =>
            have hA0 := alloc_size w11 (.cells #[.slice none 0 0, .int .i64 0] 28)
            clear h0w0 h1w0 h0Bsx h1Bsx h0g0 h1g0
            have g0s := (HXs.out.step ((Below.refl w11.heap.size w11).alloc (Nat.le_refl _) (.cells #[.slice none 0 0, .int .i64 0] 28))).c0
            have g1s := (HXs.out.step ((Below.refl w11.heap.size w11).alloc (Nat.le_refl _) (.cells #[.slice none 0 0, .int .i64 0] 28))).c1
            have g0a := (HXa.out.step ((Below.refl w11.heap.size w11).alloc (Nat.le_refl _) (.cells #[.slice none 0 0, .int .i64 0] 28))).c0
            have g1a := (HXa.out.step ((Below.refl w11.heap.size w11).alloc (Nat.le_refl _) (.cells #[.slice none 0 0, .int .i64 0] 28))).c1
            go_region_with (first
              | (go_at_call 17; refine (toState_any As cs 0 W.heap.size s ms _ (HIs.out.step (by first | exact (Below.refl _ _).drew | exact ((Below.refl _ _).drew).alloc (Nat.le_refl _) _ | exact ((Below.refl _ _).alloc (Nat.le_refl _) _).drew)) hs).mono ?_; rintro e v1 ⟨Bsh, rfl, hr, hb0⟩; have hb : Below w11.heap.size w11 v1 := below_trans (by first | exact (Below.refl _ _).drew | exact ((Below.refl _ _).drew).alloc (Nat.le_refl _) _ | exact ((Below.refl _ _).alloc (Nat.le_refl _) _).drew) hb0; (try (have HQ : Hid (v1.heap[w11.heap.size]? = some (.cells #[.slice none 0 0, .int .i64 0] 28 (0, 0))) := Lib.hid ((hb0.block w11.heap.size (by simp)).trans (alloc_row w11 _ _)))); have HBv1 := Lib.hid hb; have hz1 : w11.heap.size ≤ v1.heap.size := Nat.le_trans (by first | exact Nat.le_refl _ | simp) hb0.size; have hA1 := alloc_size v1 (.cells #[.slice none 0 0, .int .i64 0] 28); have h0s := (HXs.out.step hb).c0; have h1s := (HXs.out.step hb).c1; have g0s := ((HXs.out.step hb).step ((Below.refl v1.heap.size v1).alloc (Nat.le_refl _) (.cells #[.slice none 0 0, .int .i64 0] 28))).c0; have g1s := ((HXs.out.step hb).step ((Below.refl v1.heap.size v1).alloc (Nat.le_refl _) (.cells #[.slice none 0 0, .int .i64 0] 28))).c1; have h0a := (HXa.out.step hb).c0; have h1a := (HXa.out.step hb).c1; have g0a := ((HXa.out.step hb).step ((Below.refl v1.heap.size v1).alloc (Nat.le_refl _) (.cells #[.slice none 0 0, .int .i64 0] 28))).c0; have g1a := ((HXa.out.step hb).step ((Below.refl v1.heap.size v1).alloc (Nat.le_refl _) (.cells #[.slice none 0 0, .int .i64 0] 28))).c1; (try (have q0 := two0 HQ.out; have q1 := two1 HQ.out; have q2 := row_freeI HQ.out 0; have q3 := row_freeI HQ.out 1)); obtain ⟨loRBsh, hiRBsh, hr⟩ : ∃ lo hi, Res v1 lo hi Bsh s := ⟨_, _, hr⟩; have RBsh := Lib.hid hr; clear hb hb0)
              | (go_at_call 18; refine (toAsked_any qa ya _).mono ?_; rintro e v2 ⟨rfl, hb0⟩; have hb1 : Below v1.heap.size v1 v2 := (by first | exact hb0 | exact below_trans ((Below.refl _ _).alloc (Nat.le_refl _) _) hb0); have hb : Below w11.heap.size w11 v2 := below_trans HBv1.out hb1; (try (have hqlo := row_ltI HQ.out)); (try (replace HQ := Lib.hid ((hb0.block _ (row_ltI HQ.out)).trans HQ.out))); (try (have HQ : Hid (v2.heap[v1.heap.size]? = some (.cells #[.slice none 0 0, .int .i64 0] 28 (0, 0))) := Lib.hid ((hb0.block v1.heap.size (by simp)).trans (alloc_row v1 _ _)))); replace RBsh := Lib.hid (RBsh.out.step hb1); have HBv2 := Lib.hid hb; have hz2 : v1.heap.size ≤ v2.heap.size := Nat.le_trans (by first | exact Nat.le_refl _ | simp) hb0.size; have hA2 := alloc_size v2 (.cells #[.slice none 0 0, .int .i64 0] 28); have hA1 := alloc_size v1 (.cells #[.slice none 0 0, .int .i64 0] 28); have h0s := (HXs.out.step hb).c0; have h1s := (HXs.out.step hb).c1; have g0s := ((HXs.out.step hb).step ((Below.refl v2.heap.size v2).alloc (Nat.le_refl _) (.cells #[.slice none 0 0, .int .i64 0] 28))).c0; have g1s := ((HXs.out.step hb).step ((Below.refl v2.heap.size v2).alloc (Nat.le_refl _) (.cells #[.slice none 0 0, .int .i64 0] 28))).c1; have h0a := (HXa.out.step hb).c0; have h1a := (HXa.out.step hb).c1; have g0a := ((HXa.out.step hb).step ((Below.refl v2.heap.size v2).alloc (Nat.le_refl _) (.cells #[.slice none 0 0, .int .i64 0] 28))).c0; have g1a := ((HXa.out.step hb).step ((Below.refl v2.heap.size v2).alloc (Nat.le_refl _) (.cells #[.slice none 0 0, .int .i64 0] 28))).c1; (try (have q0 := two0 HQ.out; have q1 := two1 HQ.out; have q2 := row_freeI HQ.out 0; have q3 := row_freeI HQ.out 1)); clear hb hb0 hb1)
              | (go_at_call 19; refine (CI.out _ Bsh _ loRBsh hiRBsh (by first | exact RBsh.out.ins | exact RBsh.out.ins.step ((Below.refl _ _).alloc (Nat.le_refl _) _))).mono ?_; rintro e v3 ⟨BR, cR, rfl, hr, hb0⟩; have hb1 : Below v2.heap.size v2 v3 := (by first | exact hb0 | exact below_trans ((Below.refl _ _).alloc (Nat.le_refl _) _) hb0); have hb : Below w11.heap.size w11 v3 := below_trans HBv2.out hb1; (try (have hqlo := row_ltI HQ.out)); (try (replace HQ := Lib.hid ((hb0.block _ (row_ltI HQ.out)).trans HQ.out))); (try (have HQ : Hid (v3.heap[v2.heap.size]? = some (.cells #[.slice none 0 0, .int .i64 0] 28 (0, 0))) := Lib.hid ((hb0.block v2.heap.size (by simp)).trans (alloc_row v2 _ _)))); replace RBsh := Lib.hid (RBsh.out.step hb1); have HBv3 := Lib.hid hb; have hz3 : v2.heap.size ≤ v3.heap.size := Nat.le_trans (by first | exact Nat.le_refl _ | simp) hb0.size; have hA3 := alloc_size v3 (.cells #[.slice none 0 0, .int .i64 0] 28); have hA2 := alloc_size v2 (.cells #[.slice none 0 0, .int .i64 0] 28); have h0s := (HXs.out.step hb).c0; have h1s := (HXs.out.step hb).c1; have g0s := ((HXs.out.step hb).step ((Below.refl v3.heap.size v3).alloc (Nat.le_refl _) (.cells #[.slice none 0 0, .int .i64 0] 28))).c0; have g1s := ((HXs.out.step hb).step ((Below.refl v3.heap.size v3).alloc (Nat.le_refl _) (.cells #[.slice none 0 0, .int .i64 0] 28))).c1; have h0a := (HXa.out.step hb).c0; have h1a := (HXa.out.step hb).c1; have g0a := ((HXa.out.step hb).step ((Below.refl v3.heap.size v3).alloc (Nat.le_refl _) (.cells #[.slice none 0 0, .int .i64 0] 28))).c0; have g1a := ((HXa.out.step hb).step ((Below.refl v3.heap.size v3).alloc (Nat.le_refl _) (.cells #[.slice none 0 0, .int .i64 0] 28))).c1; (try (have q0 := two0 HQ.out; have q1 := two1 HQ.out; have q2 := row_freeI HQ.out 0; have q3 := row_freeI HQ.out 1)); have RR := Lib.hid hr; clear hb hb0 hb1 hr))
            all_goals
              go_wp2_with fail
              go_meet
              first
                | exact ⟨v3.heap.size, _, _, BR, cR, rfl, rfl, Lib.hid (Two.new v3 _ _ _ _ rfl), Lib.hid (RR.out.step ((Below.refl _ _).alloc (Nat.le_refl _) _)), Lib.hid (HBv3.out.alloc HBv3.out.size _), by first | omega | (simp; omega), HBv3.out.size, .inr (Nat.le_refl _)⟩
                | exact ⟨w11.heap.size, _, _, BR, cR, rfl, rfl, Lib.hid ⟨(stored2 HQ.out _ _).1⟩, Lib.hid (RR.out.within (stored2 HQ.out _ _).2 (by first | omega | (simp; omega))), Lib.hid (HBv3.out.trans ((stored2 HQ.out _ _).2.below (by omega) HBv3.out.size)), by first | omega | (simp; omega), by omega, by first | omega | (simp; omega)⟩
                | exact ⟨v1.heap.size, _, _, BR, cR, rfl, rfl, Lib.hid ⟨(stored2 HQ.out _ _).1⟩, Lib.hid (RR.out.within (stored2 HQ.out _ _).2 (by first | omega | (simp; omega))), Lib.hid (HBv3.out.trans ((stored2 HQ.out _ _).2.below (by omega) HBv3.out.size)), by first | omega | (simp; omega), by omega, by first | omega | (simp; omega)⟩
                | exact ⟨v2.heap.size, _, _, BR, cR, rfl, rfl, Lib.hid ⟨(stored2 HQ.out _ _).1⟩, Lib.hid (RR.out.within (stored2 HQ.out _ _).2 (by first | omega | (simp; omega))), Lib.hid (HBv3.out.trans ((stored2 HQ.out _ _).2.below (by omega) HBv3.out.size)), by first | omega | (simp; omega), by omega, by first | omega | (simp; omega)⟩
          case rest =>
            obtain ⟨bh, loh, hih, Bh0, ch0, rfl, rfl, HTc, HRc, HBc, hloh, hblh, hdish⟩ := hcut
            obtain ⟨w12, hwc⟩ : ∃ x, x = wc := ⟨_, rfl⟩
            rw [← hwc] at HTc HRc HBc ⊢
            clear hwc
            have hb := HBc.out
            have Z11 := Lib.hid hb.size
            replace HIs := Lib.hid (HIs.out.step hb)
            replace Rw0 := Lib.hid (Rw0.out.step hb)
            replace M0 := Lib.hid (M0.out.step hb)
            replace HXs := Lib.hid (HXs.out.step hb)
            replace HXa := Lib.hid (HXa.out.step hb)
            replace HXw0 := Lib.hid (HXw0.out.step hb)
            replace HXBsx := Lib.hid (HXBsx.out.step hb)
            replace HXg0 := Lib.hid (HXg0.out.step hb)
            replace HB := Lib.hid (below_trans HB.out hb)
            replace h0s := HXs.out.c0
            replace h1s := HXs.out.c1
            replace h0a := HXa.out.c0
            replace h1a := HXa.out.c1
            replace h0w0 := HXw0.out.c0
            replace h1w0 := HXw0.out.c1
            replace h0Bsx := HXBsx.out.c0
            replace h1Bsx := HXBsx.out.c1
            replace h0g0 := HXg0.out.c0
            replace h1g0 := HXg0.out.c1
            have Rh0 := HRc
            have HXh0 : Hid (Arg W w12 bh (.slice Bh0 r0.length ch0) (.int .i64 u0)) := Lib.hid ⟨HB.out, HTc.out.c0, HTc.out.c1, Nat.le_trans (by have := ZB.out; have := Z0.out; have := Z1.out; have := Z2.out; have := Z3.out; have := Z4.out; have := Z5.out; have := Z6.out; have := Z7.out; have := Z8.out; have := Z9.out; have := Z10.out; omega) hblh, HTc.out.lt⟩
            have hlth := HTc.out.lt
            have htoph := HRc.out.top
            have ZXh0 := Lib.hid hlth
            clear hb HTc HRc HBc
            have h0h0 := HXh0.out.c0
            have h1h0 := HXh0.out.c1
            go_wp2_with fail
            refine (eqState_same Bh0 Bw0 ch0 cw0 _ _ _ _ r0 u0 _ Rh0.out.ins Rw0.out.ins l0).mono ?_
            rintro e w13 ⟨rfl, hb⟩
            have Z12 := Lib.hid hb.size
            replace HIs := Lib.hid (HIs.out.step hb)
            replace Rw0 := Lib.hid (Rw0.out.step hb)
            replace M0 := Lib.hid (M0.out.step hb)
            replace Rh0 := Lib.hid (Rh0.out.step hb)
            replace HXs := Lib.hid (HXs.out.step hb)
            replace HXa := Lib.hid (HXa.out.step hb)
            replace HXw0 := Lib.hid (HXw0.out.step hb)
            replace HXBsx := Lib.hid (HXBsx.out.step hb)
            replace HXg0 := Lib.hid (HXg0.out.step hb)
            replace HXh0 := Lib.hid (HXh0.out.step hb)
            replace HB := Lib.hid (below_trans HB.out hb)
            replace h0s := HXs.out.c0
            replace h1s := HXs.out.c1
            replace h0a := HXa.out.c0
            replace h1a := HXa.out.c1
            replace h0w0 := HXw0.out.c0
            replace h1w0 := HXw0.out.c1
            replace h0Bsx := HXBsx.out.c0
            replace h1Bsx := HXBsx.out.c1
            replace h0g0 := HXg0.out.c0
            replace h1g0 := HXg0.out.c1
            replace h0h0 := HXh0.out.c0
            replace h1h0 := HXh0.out.c1
            clear hb
            go_wp2_with fail
            refine (heldState_any Bg0 cg0 _ _ r0.length u0 _ M0.out.ins l0).mono ?_
            rintro e w14 ⟨rfl, hb⟩
            have Z13 := Lib.hid hb.size
            replace HIs := Lib.hid (HIs.out.step hb)
            replace Rw0 := Lib.hid (Rw0.out.step hb)
            replace M0 := Lib.hid (M0.out.step hb)
            replace Rh0 := Lib.hid (Rh0.out.step hb)
            replace HXs := Lib.hid (HXs.out.step hb)
            replace HXa := Lib.hid (HXa.out.step hb)
            replace HXw0 := Lib.hid (HXw0.out.step hb)
            replace HXBsx := Lib.hid (HXBsx.out.step hb)
            replace HXg0 := Lib.hid (HXg0.out.step hb)
            replace HXh0 := Lib.hid (HXh0.out.step hb)
            replace HB := Lib.hid (below_trans HB.out hb)
            replace h0s := HXs.out.c0
            replace h1s := HXs.out.c1
            replace h0a := HXa.out.c0
            replace h1a := HXa.out.c1
            replace h0w0 := HXw0.out.c0
            replace h1w0 := HXw0.out.c1
            replace h0Bsx := HXBsx.out.c0
            replace h1Bsx := HXBsx.out.c1
            replace h0g0 := HXg0.out.c0
            replace h1g0 := HXg0.out.c1
            replace h0h0 := HXh0.out.c0
            replace h1h0 := HXh0.out.c1
            clear hb
            go_wp2
            go_ret
            exact ⟨rfl, HB.out⟩
  · rw [szI_no (by omega)] at C0
    go_enter Try.func3, Try.ntmps3
    go_wp2_with fail
    refine (C0.out _).mono ?_
    rintro e w1 ⟨rfl, hb⟩
    have hb0 : Below W.heap.size W ((W.alloc (.cells #[.slice As s.length cs, .int .i64 ms] 24)).alloc (.cells #[.int .i64 qa, .bool ya] 26)) := (Below.alloc (Below.alloc (Below.refl _ _) (Nat.le_refl _) _) (by simp) _)
    have HB := Lib.hid (below_trans hb0 hb)
    clear hb0
    clear hb C0
    go_wp2
    go_ret
    exact ⟨rfl, HB.out⟩
end Go.Proofs.Ytdkffkgoalgjmaa
