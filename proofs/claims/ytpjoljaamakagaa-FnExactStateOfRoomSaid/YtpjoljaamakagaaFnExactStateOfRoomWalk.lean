/- The law FnExactStateOfRoom: its walk. -/
import Derived.Test.YtpjoljaamakagaaL12Y
import Derived.Test.YtpjoljaamakagaaStates
namespace Go.Proofs.Ytpjoljaamakagaa
open Go.RowKit Go.ChangeShapes Go.WideShapes
set_option linter.unusedVariables false
set_option linter.unusedSimpArgs false


set_option maxRecDepth 100000 in
set_option maxHeartbeats 16000000 in
theorem fnExactStateOfRoom_walk (p : Nat → Int) (n m c : Int) (W : World) (wp : ∀ i, i < 12 → (Lit.int .i64 (p i)).wf = true) (wn : (Lit.int .i64 n).wf = true) (wm : (Lit.int .i64 m).wf = true) (wc : (Lit.int .i64 c).wf = true) (hsh : W.ShapedOpen Try.prog) :
    Calls Try.prog 5 #[.agg (rmA p n m c)] W fun e w' => e = .returned (.bool true) ∧ Below W.heap.size W w' := by
  clear hsh wp wn wm wc
  obtain ⟨r0, u0, r1, l0, hi, hs⟩ := stateOfRoom_both p n m c
  have HCI := Lib.hid hi
  have HCS := Lib.hid hs
  have HC := Lib.hid (fun w => toRoom_any p n m c w)
  clear hi hs
  simp only [rmA] at HCI HCS HC
  have HX := Lib.hid (Rw.new W #[.int .i64 (p 0), .int .i64 (p 1), .int .i64 (p 2), .int .i64 (p 3), .int .i64 (p 4), .int .i64 (p 5), .int .i64 (p 6), .int .i64 (p 7), .int .i64 (p 8), .int .i64 (p 9), .int .i64 (p 10), .int .i64 (p 11), .int .i64 n, .int .i64 m, .int .i64 c] 24 (W.heap.size) rfl)
  have HB := Lib.hid ((Below.refl W.heap.size W).alloc (Nat.le_refl _) (.cells #[.int .i64 (p 0), .int .i64 (p 1), .int .i64 (p 2), .int .i64 (p 3), .int .i64 (p 4), .int .i64 (p 5), .int .i64 (p 6), .int .i64 (p 7), .int .i64 (p 8), .int .i64 (p 9), .int .i64 (p 10), .int .i64 (p 11), .int .i64 n, .int .i64 m, .int .i64 c] 24))
  go_enter Try.func5, Try.ntmps5
  simp only [rmA]
  go_upto_region 1 with fail
  generalize W.alloc (.cells #[.int .i64 (p 0), .int .i64 (p 1), .int .i64 (p 2), .int .i64 (p 3), .int .i64 (p 4), .int .i64 (p 5), .int .i64 (p 6), .int .i64 (p 7), .int .i64 (p 8), .int .i64 (p 9), .int .i64 (p 10), .int .i64 (p 11), .int .i64 n, .int .i64 m, .int .i64 c] 24) = w0 at HB HX ⊢
  have Z1 := Lib.hid HX.out.lt
  have hx_0 := HX.out.cell (i := 0) (v := .int .i64 (p 0)) rfl
  have hx_1 := HX.out.cell (i := 1) (v := .int .i64 (p 1)) rfl
  have hx_2 := HX.out.cell (i := 2) (v := .int .i64 (p 2)) rfl
  have hx_3 := HX.out.cell (i := 3) (v := .int .i64 (p 3)) rfl
  have hx_4 := HX.out.cell (i := 4) (v := .int .i64 (p 4)) rfl
  have hx_5 := HX.out.cell (i := 5) (v := .int .i64 (p 5)) rfl
  have hx_6 := HX.out.cell (i := 6) (v := .int .i64 (p 6)) rfl
  have hx_7 := HX.out.cell (i := 7) (v := .int .i64 (p 7)) rfl
  have hx_8 := HX.out.cell (i := 8) (v := .int .i64 (p 8)) rfl
  have hx_9 := HX.out.cell (i := 9) (v := .int .i64 (p 9)) rfl
  have hx_10 := HX.out.cell (i := 10) (v := .int .i64 (p 10)) rfl
  have hx_11 := HX.out.cell (i := 11) (v := .int .i64 (p 11)) rfl
  have hx_12 := HX.out.cell (i := 12) (v := .int .i64 n) rfl
  have hx_13 := HX.out.cell (i := 13) (v := .int .i64 m) rfl
  have hx_14 := HX.out.cell (i := 14) (v := .int .i64 c) rfl
  go_wp2_with fail
  refine (HC.out _).mono ?_
  rintro e w1 ⟨rfl, hb⟩
  clear hx_0 hx_1 hx_2 hx_3 hx_4 hx_5 hx_6 hx_7 hx_8 hx_9 hx_10 hx_11 hx_12 hx_13 hx_14
  replace HX := Lib.hid (HX.out.step hb)
  replace HB := Lib.hid (below_trans HB.out hb)
  have Z2 := Lib.hid hb.size
  clear hb
  go_wp2_with fail
  refine (HCS.out _).mono ?_
  rintro e w2 ⟨Bw, cw, rfl, hr, hb⟩
  replace HX := Lib.hid (HX.out.step hb)
  replace HB := Lib.hid (below_trans HB.out hb)
  have Z3 := Lib.hid hb.size
  have Rw0 := Lib.hid hr
  clear hr
  clear hb
  have hb : Below w2.heap.size w2 (w2.alloc (.cells #[.slice Bw r0.length cw, .int .i64 u0] 35)) := (Below.refl _ _).alloc (Nat.le_refl _) _
  have W0 := Lib.hid (Rw.new w2 #[.slice Bw r0.length cw, .int .i64 u0] 35 w2.heap.size rfl)
  have g_hx_0 := (HX.out.step hb).cell (i := 0) (v := .int .i64 (p 0)) rfl
  have g_hx_1 := (HX.out.step hb).cell (i := 1) (v := .int .i64 (p 1)) rfl
  have g_hx_2 := (HX.out.step hb).cell (i := 2) (v := .int .i64 (p 2)) rfl
  have g_hx_3 := (HX.out.step hb).cell (i := 3) (v := .int .i64 (p 3)) rfl
  have g_hx_4 := (HX.out.step hb).cell (i := 4) (v := .int .i64 (p 4)) rfl
  have g_hx_5 := (HX.out.step hb).cell (i := 5) (v := .int .i64 (p 5)) rfl
  have g_hx_6 := (HX.out.step hb).cell (i := 6) (v := .int .i64 (p 6)) rfl
  have g_hx_7 := (HX.out.step hb).cell (i := 7) (v := .int .i64 (p 7)) rfl
  have g_hx_8 := (HX.out.step hb).cell (i := 8) (v := .int .i64 (p 8)) rfl
  have g_hx_9 := (HX.out.step hb).cell (i := 9) (v := .int .i64 (p 9)) rfl
  have g_hx_10 := (HX.out.step hb).cell (i := 10) (v := .int .i64 (p 10)) rfl
  have g_hx_11 := (HX.out.step hb).cell (i := 11) (v := .int .i64 (p 11)) rfl
  have g_hx_12 := (HX.out.step hb).cell (i := 12) (v := .int .i64 n) rfl
  have g_hx_13 := (HX.out.step hb).cell (i := 13) (v := .int .i64 m) rfl
  have g_hx_14 := (HX.out.step hb).cell (i := 14) (v := .int .i64 c) rfl
  go_wp2_with fail
  clear g_hx_0 g_hx_1 g_hx_2 g_hx_3 g_hx_4 g_hx_5 g_hx_6 g_hx_7 g_hx_8 g_hx_9 g_hx_10 g_hx_11 g_hx_12 g_hx_13 g_hx_14
  replace HX := Lib.hid (HX.out.step hb)
  replace Rw0 := Lib.hid (Rw0.out.step hb)
  replace HB := Lib.hid (below_trans HB.out hb)
  have Z4 := Lib.hid hb.size
  clear hb
  have Z5 := Lib.hid W0.out.lt
  generalize (w2.alloc (.cells #[.slice Bw r0.length cw, .int .i64 u0] 35)) = w3 at HB Z4 Z5 HX Rw0 W0 ⊢
  refine (HC.out _).mono ?_
  rintro e w4 ⟨rfl, hb⟩
  replace HX := Lib.hid (HX.out.step hb)
  replace Rw0 := Lib.hid (Rw0.out.step hb)
  replace W0 := Lib.hid (W0.out.step hb)
  replace HB := Lib.hid (below_trans HB.out hb)
  have Z6 := Lib.hid hb.size
  clear hb
  go_wp2_with fail
  refine (HCI.out _).mono ?_
  rintro e w5 ⟨Bg, cg, rfl, hr, hb⟩
  replace HX := Lib.hid (HX.out.step hb)
  replace Rw0 := Lib.hid (Rw0.out.step hb)
  replace W0 := Lib.hid (W0.out.step hb)
  replace HB := Lib.hid (below_trans HB.out hb)
  have Z7 := Lib.hid hb.size
  have Rg := Lib.hid hr
  clear hr
  clear hb
  have hb : Below w5.heap.size w5 (w5.alloc (.cells #[.slice Bg r0.length cg, .int .i64 u0] 35)) := (Below.refl _ _).alloc (Nat.le_refl _) _
  have G0 := Lib.hid (Rw.new w5 #[.slice Bg r0.length cg, .int .i64 u0] 35 w5.heap.size rfl)
  have g_g0_0 := G0.out.cell (i := 0) (v := .slice Bg r0.length cg) rfl
  have g_g0_1 := G0.out.cell (i := 1) (v := .int .i64 u0) rfl
  have g_w0_0 := (W0.out.step hb).cell (i := 0) (v := .slice Bw r0.length cw) rfl
  have g_w0_1 := (W0.out.step hb).cell (i := 1) (v := .int .i64 u0) rfl
  go_wp2_with fail
  clear g_g0_0 g_g0_1
  clear g_w0_0 g_w0_1
  replace HX := Lib.hid (HX.out.step hb)
  replace Rw0 := Lib.hid (Rw0.out.step hb)
  replace W0 := Lib.hid (W0.out.step hb)
  replace Rg := Lib.hid (Rg.out.step hb)
  replace HB := Lib.hid (below_trans HB.out hb)
  have Z8 := Lib.hid hb.size
  clear hb
  have Z9 := Lib.hid G0.out.lt
  generalize (w5.alloc (.cells #[.slice Bg r0.length cg, .int .i64 u0] 35)) = w6 at HB Z8 Z9 HX Rw0 W0 Rg G0 ⊢
  refine (eqState_same Bg Bw cg cw _ _ _ _ r0 u0 _ Rg.out.ins Rw0.out.ins l0).mono ?_
  rintro e w7 ⟨rfl, hb⟩
  replace HX := Lib.hid (HX.out.step hb)
  replace Rw0 := Lib.hid (Rw0.out.step hb)
  replace W0 := Lib.hid (W0.out.step hb)
  replace Rg := Lib.hid (Rg.out.step hb)
  replace G0 := Lib.hid (G0.out.step hb)
  replace HB := Lib.hid (below_trans HB.out hb)
  have Z10 := Lib.hid hb.size
  clear hb
  have g0_0 := G0.out.cell (i := 0) (v := .slice Bg r0.length cg) rfl
  have g0_1 := G0.out.cell (i := 1) (v := .int .i64 u0) rfl
  go_wp2_with fail
  clear g0_0 g0_1
  refine (markState_any Bg cg _ _ r0 u0 _ Rg.out l0).mono ?_
  rintro e w8 ⟨rfl, hr, hw⟩
  replace HX := Lib.hid (HX.out.within hw (by have z1 := Z1.out; have z2 := Z2.out; have z3 := Z3.out; have z4 := Z4.out; have z5 := Z5.out; have z6 := Z6.out; have z7 := Z7.out; have z8 := Z8.out; have z9 := Z9.out; have z10 := Z10.out; omega))
  replace Rw0 := Lib.hid (Rw0.out.within hw (by have z1 := Z1.out; have z2 := Z2.out; have z3 := Z3.out; have z4 := Z4.out; have z5 := Z5.out; have z6 := Z6.out; have z7 := Z7.out; have z8 := Z8.out; have z9 := Z9.out; have z10 := Z10.out; omega))
  replace W0 := Lib.hid (W0.out.within hw (by have z1 := Z1.out; have z2 := Z2.out; have z3 := Z3.out; have z4 := Z4.out; have z5 := Z5.out; have z6 := Z6.out; have z7 := Z7.out; have z8 := Z8.out; have z9 := Z9.out; have z10 := Z10.out; omega))
  replace G0 := Lib.hid (G0.out.within hw (by have z1 := Z1.out; have z2 := Z2.out; have z3 := Z3.out; have z4 := Z4.out; have z5 := Z5.out; have z6 := Z6.out; have z7 := Z7.out; have z8 := Z8.out; have z9 := Z9.out; have z10 := Z10.out; omega))
  replace HB := Lib.hid (HB.out.trans (hw.below (by have z1 := Z1.out; have z2 := Z2.out; have z3 := Z3.out; have z4 := Z4.out; have z5 := Z5.out; have z6 := Z6.out; have z7 := Z7.out; have z8 := Z8.out; have z9 := Z9.out; have z10 := Z10.out; omega) HB.out.size))
  have Z11 := Lib.hid hw.size
  have Rm := Lib.hid hr
  clear hr Rg
  clear hw
  have g0_0 := G0.out.cell (i := 0) (v := .slice Bg r0.length cg) rfl
  have g0_1 := G0.out.cell (i := 1) (v := .int .i64 u0) rfl
  go_wp2_with fail
  refine (heldState_any Bg cg _ _ r0.length u0 _ Rm.out.ins l0).mono ?_
  rintro e w9 ⟨rfl, hb⟩
  clear g0_0 g0_1
  replace HX := Lib.hid (HX.out.step hb)
  replace Rw0 := Lib.hid (Rw0.out.step hb)
  replace W0 := Lib.hid (W0.out.step hb)
  replace G0 := Lib.hid (G0.out.step hb)
  replace Rm := Lib.hid (Rm.out.step hb)
  replace HB := Lib.hid (below_trans HB.out hb)
  have Z12 := Lib.hid hb.size
  clear hb
  have hx_0 := HX.out.cell (i := 0) (v := .int .i64 (p 0)) rfl
  have hx_1 := HX.out.cell (i := 1) (v := .int .i64 (p 1)) rfl
  have hx_2 := HX.out.cell (i := 2) (v := .int .i64 (p 2)) rfl
  have hx_3 := HX.out.cell (i := 3) (v := .int .i64 (p 3)) rfl
  have hx_4 := HX.out.cell (i := 4) (v := .int .i64 (p 4)) rfl
  have hx_5 := HX.out.cell (i := 5) (v := .int .i64 (p 5)) rfl
  have hx_6 := HX.out.cell (i := 6) (v := .int .i64 (p 6)) rfl
  have hx_7 := HX.out.cell (i := 7) (v := .int .i64 (p 7)) rfl
  have hx_8 := HX.out.cell (i := 8) (v := .int .i64 (p 8)) rfl
  have hx_9 := HX.out.cell (i := 9) (v := .int .i64 (p 9)) rfl
  have hx_10 := HX.out.cell (i := 10) (v := .int .i64 (p 10)) rfl
  have hx_11 := HX.out.cell (i := 11) (v := .int .i64 (p 11)) rfl
  have hx_12 := HX.out.cell (i := 12) (v := .int .i64 n) rfl
  have hx_13 := HX.out.cell (i := 13) (v := .int .i64 m) rfl
  have hx_14 := HX.out.cell (i := 14) (v := .int .i64 c) rfl
  go_wp2_with fail
  refine (HC.out _).mono ?_
  rintro e w10 ⟨rfl, hb⟩
  clear hx_0 hx_1 hx_2 hx_3 hx_4 hx_5 hx_6 hx_7 hx_8 hx_9 hx_10 hx_11 hx_12 hx_13 hx_14
  replace HX := Lib.hid (HX.out.step hb)
  replace Rw0 := Lib.hid (Rw0.out.step hb)
  replace W0 := Lib.hid (W0.out.step hb)
  replace G0 := Lib.hid (G0.out.step hb)
  replace Rm := Lib.hid (Rm.out.step hb)
  replace HB := Lib.hid (below_trans HB.out hb)
  have Z13 := Lib.hid hb.size
  clear hb
  go_wp2_with fail
  refine (HCI.out _).mono ?_
  rintro e w11 ⟨Bh, ch, rfl, hr, hb⟩
  replace HX := Lib.hid (HX.out.step hb)
  replace Rw0 := Lib.hid (Rw0.out.step hb)
  replace W0 := Lib.hid (W0.out.step hb)
  replace G0 := Lib.hid (G0.out.step hb)
  replace Rm := Lib.hid (Rm.out.step hb)
  replace HB := Lib.hid (below_trans HB.out hb)
  have Z14 := Lib.hid hb.size
  have Rh := Lib.hid hr
  clear hr
  clear hb
  have hb : Below w11.heap.size w11 (w11.alloc (.cells #[.slice Bh r0.length ch, .int .i64 u0] 35)) := (Below.refl _ _).alloc (Nat.le_refl _) _
  have H0 := Lib.hid (Rw.new w11 #[.slice Bh r0.length ch, .int .i64 u0] 35 w11.heap.size rfl)
  have g_h0_0 := H0.out.cell (i := 0) (v := .slice Bh r0.length ch) rfl
  have g_h0_1 := H0.out.cell (i := 1) (v := .int .i64 u0) rfl
  have g_w0_0 := (W0.out.step hb).cell (i := 0) (v := .slice Bw r0.length cw) rfl
  have g_w0_1 := (W0.out.step hb).cell (i := 1) (v := .int .i64 u0) rfl
  go_wp2_with fail
  clear g_h0_0 g_h0_1
  clear g_w0_0 g_w0_1
  replace HX := Lib.hid (HX.out.step hb)
  replace Rw0 := Lib.hid (Rw0.out.step hb)
  replace W0 := Lib.hid (W0.out.step hb)
  replace G0 := Lib.hid (G0.out.step hb)
  replace Rm := Lib.hid (Rm.out.step hb)
  replace Rh := Lib.hid (Rh.out.step hb)
  replace HB := Lib.hid (below_trans HB.out hb)
  have Z15 := Lib.hid hb.size
  clear hb
  have Z16 := Lib.hid H0.out.lt
  generalize (w11.alloc (.cells #[.slice Bh r0.length ch, .int .i64 u0] 35)) = w12 at HB Z15 Z16 HX Rw0 W0 G0 Rm Rh H0 ⊢
  refine (eqState_same Bh Bw ch cw _ _ _ _ r0 u0 _ Rh.out.ins Rw0.out.ins l0).mono ?_
  rintro e w13 ⟨rfl, hb⟩
  replace HX := Lib.hid (HX.out.step hb)
  replace Rw0 := Lib.hid (Rw0.out.step hb)
  replace W0 := Lib.hid (W0.out.step hb)
  replace G0 := Lib.hid (G0.out.step hb)
  replace Rm := Lib.hid (Rm.out.step hb)
  replace Rh := Lib.hid (Rh.out.step hb)
  replace H0 := Lib.hid (H0.out.step hb)
  replace HB := Lib.hid (below_trans HB.out hb)
  have Z17 := Lib.hid hb.size
  clear hb
  have g0_0 := G0.out.cell (i := 0) (v := .slice Bg r0.length cg) rfl
  have g0_1 := G0.out.cell (i := 1) (v := .int .i64 u0) rfl
  go_wp2_with fail
  refine (heldState_any Bg cg _ _ r0.length u0 _ Rm.out.ins l0).mono ?_
  rintro e w14 ⟨rfl, hb⟩
  clear g0_0 g0_1
  replace HX := Lib.hid (HX.out.step hb)
  replace Rw0 := Lib.hid (Rw0.out.step hb)
  replace W0 := Lib.hid (W0.out.step hb)
  replace G0 := Lib.hid (G0.out.step hb)
  replace Rm := Lib.hid (Rm.out.step hb)
  replace Rh := Lib.hid (Rh.out.step hb)
  replace H0 := Lib.hid (H0.out.step hb)
  replace HB := Lib.hid (below_trans HB.out hb)
  have Z18 := Lib.hid hb.size
  clear hb
  go_wp2
  go_ret
  exact ⟨rfl, HB.out⟩
end Go.Proofs.Ytpjoljaamakagaa
