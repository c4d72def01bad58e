/- The law FnExactNewRoom: its walk. -/
import Derived.Test.YtpjoljaamakagaaL12X
import Derived.Test.YtpjoljaamakagaaStates
namespace Go.Proofs.Ytpjoljaamakagaa
open Go.RowKit Go.ChangeShapes Go.WideShapes
set_option linter.unusedVariables false
set_option linter.unusedSimpArgs false


theorem newRoom_both (zs : List Int) (m : Int) (hn : zs.length ≤ 1048576) : ∃ (q : Nat → Int) (u v x : Int) (b : Bool),
    (∀ (w : World) (B : Option Addr) (c lo hi : Nat), Ins w lo hi B zs → Calls Try.prog 18 #[.agg #[.slice B zs.length c, .int .i64 m]] w fun e w' => e = .returned (.tuple #[.agg (rmA q u v x), .bool b]) ∧ Below w.heap.size w w') ∧
    (∀ (w : World) (B : Option Addr) (c lo hi : Nat), Ins w lo hi B zs → Calls Try.prog 16 #[.agg #[.slice B zs.length c, .int .i64 m]] w fun e w' => e = .returned (.tuple #[.agg (rmA q u v x), .bool b]) ∧ Below w.heap.size w w') := by
  cases h : isSt zs m with
  | true => exact ⟨rz zs, zs.length, m, 0, true, fun w B c lo hi hS => newRoom_impl_yes B c lo hi zs m w hS hn h, fun w B c lo hi hS => newRoom_spec_yes B c lo hi zs m w hS hn h⟩
  | false => exact ⟨fun _ => 0, 0, 0, 0, false, fun w B c lo hi hS => newRoom_impl_no B c lo hi zs m w hS hn h, fun w B c lo hi hS => newRoom_spec_no B c lo hi zs m w hS hn h⟩

set_option maxRecDepth 100000 in
set_option maxHeartbeats 8000000 in
theorem fnExactNewRoom_walk (A : Option Addr) (c : Nat) (zs : List Int) (m : Int) (W : World) (hS : Ints W 0 W.heap.size A zs) (hc : zs.length ≤ c) (hcm : c ≤ maxLen) (wm : (Lit.int .i64 m).wf = true) (hsh : W.ShapedOpen Try.prog) :
    Calls Try.prog 4 #[.agg #[.slice A zs.length c, .int .i64 m]] W fun e w' => e = .returned (.bool true) ∧ Below W.heap.size W w' := by
  clear hsh wm
  have HI := Lib.hid (show Ins W 0 W.heap.size A zs from ⟨hS, Nat.le_refl _⟩)
  have HSZ := Lib.hid (fun w => szState_any A c zs.length m 1048576 w (Nat.le_trans hc hcm) (Nat.le_refl _))
  clear hS hc hcm
  by_cases hn : zs.length ≤ 1048576
  · obtain ⟨q, u, v, x, b, hi, hs⟩ := newRoom_both zs m hn
    have HCI := Lib.hid hi
    have HCS := Lib.hid hs
    clear hi hs
    rw [szI_yes hn] at HSZ
    simp only [rmA] at HCI HCS
    have hlf : (0 : Int) ≤ ((1048576 - zs.length : Nat) : Int) := by omega
    generalize ((1048576 - zs.length : Nat) : Int) = lf at HSZ hlf
    have HX := Lib.hid (Rw.new W #[.slice A zs.length c, .int .i64 m] 31 (W.heap.size) rfl)
    have HB := Lib.hid ((Below.refl W.heap.size W).alloc (Nat.le_refl _) (.cells #[.slice A zs.length c, .int .i64 m] 31))
    replace HI := Lib.hid (HI.out.step HB.out)
    go_enter Try.func4, Try.ntmps4
    go_upto_region 1 with fail
    generalize W.alloc (.cells #[.slice A zs.length c, .int .i64 m] 31) = w0 at HB HI HX ⊢
    have hx_0 := HX.out.cell (i := 0) (v := .slice A zs.length c) rfl
    have hx_1 := HX.out.cell (i := 1) (v := .int .i64 m) rfl
    go_wp2_with fail
    refine (HSZ.out _).mono ?_
    rintro e w1 ⟨rfl, hb⟩
    clear hx_0 hx_1
    replace HI := Lib.hid (HI.out.step hb)
    replace HX := Lib.hid (HX.out.step hb)
    replace HB := Lib.hid (below_trans HB.out hb)
    clear hb
    clear HSZ
    have hx_0 := HX.out.cell (i := 0) (v := .slice A zs.length c) rfl
    have hx_1 := HX.out.cell (i := 1) (v := .int .i64 m) rfl
    go_wp2_with fail
    refine (toState_any A c 0 W.heap.size zs m _ HI.out hn).mono ?_
    rintro e w2 ⟨B1, rfl, hr, hb⟩
    clear hx_0 hx_1
    replace HI := Lib.hid (HI.out.step hb)
    replace HX := Lib.hid (HX.out.step hb)
    replace HB := Lib.hid (below_trans HB.out hb)
    have R1 := Lib.hid hr
    clear hr
    clear hb
    go_wp2_with fail
    refine (HCS.out _ _ _ _ _ R1.out.ins).mono ?_
    rintro e w3 ⟨rfl, hb⟩
    replace HI := Lib.hid (HI.out.step hb)
    replace HX := Lib.hid (HX.out.step hb)
    replace R1 := Lib.hid (R1.out.step hb)
    replace HB := Lib.hid (below_trans HB.out hb)
    clear hb
    clear R1
    have hb : Below w3.heap.size w3 (w3.alloc (.cells #[.int .i64 (q 0), .int .i64 (q 1), .int .i64 (q 2), .int .i64 (q 3), .int .i64 (q 4), .int .i64 (q 5), .int .i64 (q 6), .int .i64 (q 7), .int .i64 (q 8), .int .i64 (q 9), .int .i64 (q 10), .int .i64 (q 11), .int .i64 u, .int .i64 v, .int .i64 x] 26)) := (Below.refl _ _).alloc (Nat.le_refl _) _
    have W0 := Lib.hid (Rw.new w3 #[.int .i64 (q 0), .int .i64 (q 1), .int .i64 (q 2), .int .i64 (q 3), .int .i64 (q 4), .int .i64 (q 5), .int .i64 (q 6), .int .i64 (q 7), .int .i64 (q 8), .int .i64 (q 9), .int .i64 (q 10), .int .i64 (q 11), .int .i64 u, .int .i64 v, .int .i64 x] 26 w3.heap.size rfl)
    have g_hx_0 := (HX.out.step hb).cell (i := 0) (v := .slice A zs.length c) rfl
    have g_hx_1 := (HX.out.step hb).cell (i := 1) (v := .int .i64 m) rfl
    go_wp2_with fail
    clear g_hx_0 g_hx_1
    replace HI := Lib.hid (HI.out.step hb)
    replace HX := Lib.hid (HX.out.step hb)
    replace HB := Lib.hid (below_trans HB.out hb)
    clear hb
    generalize (w3.alloc (.cells #[.int .i64 (q 0), .int .i64 (q 1), .int .i64 (q 2), .int .i64 (q 3), .int .i64 (q 4), .int .i64 (q 5), .int .i64 (q 6), .int .i64 (q 7), .int .i64 (q 8), .int .i64 (q 9), .int .i64 (q 10), .int .i64 (q 11), .int .i64 u, .int .i64 v, .int .i64 x] 26)) = w4 at HB HI HX W0 ⊢
    refine (toState_any A c 0 W.heap.size zs m _ HI.out hn).mono ?_
    rintro e w5 ⟨B2, rfl, hr, hb⟩
    replace HI := Lib.hid (HI.out.step hb)
    replace HX := Lib.hid (HX.out.step hb)
    replace W0 := Lib.hid (W0.out.step hb)
    replace HB := Lib.hid (below_trans HB.out hb)
    have R2 := Lib.hid hr
    clear hr hb
    have hb : Below w5.heap.size w5 (w5.alloc (.cells #[.slice B2 zs.length zs.length, .int .i64 m] 35)) := (Below.refl _ _).alloc (Nat.le_refl _) _
    have X0 := Lib.hid (Rw.new w5 #[.slice B2 zs.length zs.length, .int .i64 m] 35 w5.heap.size rfl)
    have g_x0_0 := X0.out.cell (i := 0) (v := .slice B2 zs.length zs.length) rfl
    have g_x0_1 := X0.out.cell (i := 1) (v := .int .i64 m) rfl
    go_wp2_with fail
    clear g_x0_0 g_x0_1
    replace HI := Lib.hid (HI.out.step hb)
    replace HX := Lib.hid (HX.out.step hb)
    replace W0 := Lib.hid (W0.out.step hb)
    replace R2 := Lib.hid (R2.out.step hb)
    replace HB := Lib.hid (below_trans HB.out hb)
    clear hb
    generalize (w5.alloc (.cells #[.slice B2 zs.length zs.length, .int .i64 m] 35)) = w6 at HB HI HX W0 R2 X0 ⊢
    refine (HCI.out _ _ _ _ _ R2.out.ins).mono ?_
    rintro e w7 ⟨rfl, hb⟩
    replace HI := Lib.hid (HI.out.step hb)
    replace HX := Lib.hid (HX.out.step hb)
    replace W0 := Lib.hid (W0.out.step hb)
    replace R2 := Lib.hid (R2.out.step hb)
    replace X0 := Lib.hid (X0.out.step hb)
    replace HB := Lib.hid (below_trans HB.out hb)
    clear hb
    have hb : Below w7.heap.size w7 (w7.alloc (.cells #[.int .i64 (q 0), .int .i64 (q 1), .int .i64 (q 2), .int .i64 (q 3), .int .i64 (q 4), .int .i64 (q 5), .int .i64 (q 6), .int .i64 (q 7), .int .i64 (q 8), .int .i64 (q 9), .int .i64 (q 10), .int .i64 (q 11), .int .i64 u, .int .i64 v, .int .i64 x] 26)) := (Below.refl _ _).alloc (Nat.le_refl _) _
    have G0 := Lib.hid (Rw.new w7 #[.int .i64 (q 0), .int .i64 (q 1), .int .i64 (q 2), .int .i64 (q 3), .int .i64 (q 4), .int .i64 (q 5), .int .i64 (q 6), .int .i64 (q 7), .int .i64 (q 8), .int .i64 (q 9), .int .i64 (q 10), .int .i64 (q 11), .int .i64 u, .int .i64 v, .int .i64 x] 26 w7.heap.size rfl)
    have g_g0_0 := G0.out.cell (i := 0) (v := .int .i64 (q 0)) rfl
    have g_g0_1 := G0.out.cell (i := 1) (v := .int .i64 (q 1)) rfl
    have g_g0_2 := G0.out.cell (i := 2) (v := .int .i64 (q 2)) rfl
    have g_g0_3 := G0.out.cell (i := 3) (v := .int .i64 (q 3)) rfl
    have g_g0_4 := G0.out.cell (i := 4) (v := .int .i64 (q 4)) rfl
    have g_g0_5 := G0.out.cell (i := 5) (v := .int .i64 (q 5)) rfl
    have g_g0_6 := G0.out.cell (i := 6) (v := .int .i64 (q 6)) rfl
    have g_g0_7 := G0.out.cell (i := 7) (v := .int .i64 (q 7)) rfl
    have g_g0_8 := G0.out.cell (i := 8) (v := .int .i64 (q 8)) rfl
    have g_g0_9 := G0.out.cell (i := 9) (v := .int .i64 (q 9)) rfl
    have g_g0_10 := G0.out.cell (i := 10) (v := .int .i64 (q 10)) rfl
    have g_g0_11 := G0.out.cell (i := 11) (v := .int .i64 (q 11)) rfl
    have g_g0_12 := G0.out.cell (i := 12) (v := .int .i64 u) rfl
    have g_g0_13 := G0.out.cell (i := 13) (v := .int .i64 v) rfl
    have g_g0_14 := G0.out.cell (i := 14) (v := .int .i64 x) rfl
    have g_w0_0 := (W0.out.step hb).cell (i := 0) (v := .int .i64 (q 0)) rfl
    have g_w0_1 := (W0.out.step hb).cell (i := 1) (v := .int .i64 (q 1)) rfl
    have g_w0_2 := (W0.out.step hb).cell (i := 2) (v := .int .i64 (q 2)) rfl
    have g_w0_3 := (W0.out.step hb).cell (i := 3) (v := .int .i64 (q 3)) rfl
    have g_w0_4 := (W0.out.step hb).cell (i := 4) (v := .int .i64 (q 4)) rfl
    have g_w0_5 := (W0.out.step hb).cell (i := 5) (v := .int .i64 (q 5)) rfl
    have g_w0_6 := (W0.out.step hb).cell (i := 6) (v := .int .i64 (q 6)) rfl
    have g_w0_7 := (W0.out.step hb).cell (i := 7) (v := .int .i64 (q 7)) rfl
    have g_w0_8 := (W0.out.step hb).cell (i := 8) (v := .int .i64 (q 8)) rfl
    have g_w0_9 := (W0.out.step hb).cell (i := 9) (v := .int .i64 (q 9)) rfl
    have g_w0_10 := (W0.out.step hb).cell (i := 10) (v := .int .i64 (q 10)) rfl
    have g_w0_11 := (W0.out.step hb).cell (i := 11) (v := .int .i64 (q 11)) rfl
    have g_w0_12 := (W0.out.step hb).cell (i := 12) (v := .int .i64 u) rfl
    have g_w0_13 := (W0.out.step hb).cell (i := 13) (v := .int .i64 v) rfl
    have g_w0_14 := (W0.out.step hb).cell (i := 14) (v := .int .i64 x) rfl
    go_wp2_with fail
    clear g_g0_0 g_g0_1 g_g0_2 g_g0_3 g_g0_4 g_g0_5 g_g0_6 g_g0_7 g_g0_8 g_g0_9 g_g0_10 g_g0_11 g_g0_12 g_g0_13 g_g0_14
    clear g_w0_0 g_w0_1 g_w0_2 g_w0_3 g_w0_4 g_w0_5 g_w0_6 g_w0_7 g_w0_8 g_w0_9 g_w0_10 g_w0_11 g_w0_12 g_w0_13 g_w0_14
    replace HI := Lib.hid (HI.out.step hb)
    replace HX := Lib.hid (HX.out.step hb)
    replace W0 := Lib.hid (W0.out.step hb)
    replace R2 := Lib.hid (R2.out.step hb)
    replace X0 := Lib.hid (X0.out.step hb)
    replace HB := Lib.hid (below_trans HB.out hb)
    clear hb
    generalize (w7.alloc (.cells #[.int .i64 (q 0), .int .i64 (q 1), .int .i64 (q 2), .int .i64 (q 3), .int .i64 (q 4), .int .i64 (q 5), .int .i64 (q 6), .int .i64 (q 7), .int .i64 (q 8), .int .i64 (q 9), .int .i64 (q 10), .int .i64 (q 11), .int .i64 u, .int .i64 v, .int .i64 x] 26)) = w8 at HB HI HX W0 R2 X0 G0 ⊢
    refine (eqRoom_same q u v x _).mono ?_
    rintro e w9 ⟨rfl, hb⟩
    replace HI := Lib.hid (HI.out.step hb)
    replace HX := Lib.hid (HX.out.step hb)
    replace W0 := Lib.hid (W0.out.step hb)
    replace R2 := Lib.hid (R2.out.step hb)
    replace X0 := Lib.hid (X0.out.step hb)
    replace G0 := Lib.hid (G0.out.step hb)
    replace HB := Lib.hid (below_trans HB.out hb)
    clear hb
    clear G0 W0
    have x0_0 := X0.out.cell (i := 0) (v := .slice B2 zs.length zs.length) rfl
    have x0_1 := X0.out.cell (i := 1) (v := .int .i64 m) rfl
    have hx_0 := HX.out.cell (i := 0) (v := .slice A zs.length c) rfl
    have hx_1 := HX.out.cell (i := 1) (v := .int .i64 m) rfl
    go_wp2_with fail
    go_region_with (first
      | (go_at_call 17; refine (toState_any A c 0 W.heap.size zs m _ (HI.out.step ((Below.refl _ _).drew)) hn).mono ?_; rintro e w10 ⟨B3, rfl, hr, hb0⟩; have hb : Below w9.heap.size w9 w10 := below_trans ((Below.refl _ _).drew) hb0; replace HI := Lib.hid (HI.out.step hb); replace HX := Lib.hid (HX.out.step hb); replace R2 := Lib.hid (R2.out.step hb); replace X0 := Lib.hid (X0.out.step hb); replace HB := Lib.hid (below_trans HB.out hb); replace x0_0 := X0.out.cell (i := 0) (v := .slice B2 zs.length zs.length) rfl; replace x0_1 := X0.out.cell (i := 1) (v := .int .i64 m) rfl; replace hx_0 := HX.out.cell (i := 0) (v := .slice A zs.length c) rfl; replace hx_1 := HX.out.cell (i := 1) (v := .int .i64 m) rfl; have R3 := Lib.hid hr; clear hr; clear hb hb0)
      | (go_at_call 20; refine (eqState_same B2 B3 zs.length zs.length _ _ _ _ zs m _ R2.out.ins R3.out.ins hn).mono ?_; rintro e w11 ⟨rfl, hb⟩; replace HI := Lib.hid (HI.out.step hb); replace HX := Lib.hid (HX.out.step hb); replace R2 := Lib.hid (R2.out.step hb); replace X0 := Lib.hid (X0.out.step hb); replace HB := Lib.hid (below_trans HB.out hb); replace x0_0 := X0.out.cell (i := 0) (v := .slice B2 zs.length zs.length) rfl; replace x0_1 := X0.out.cell (i := 1) (v := .int .i64 m) rfl; replace hx_0 := HX.out.cell (i := 0) (v := .slice A zs.length c) rfl; replace hx_1 := HX.out.cell (i := 1) (v := .int .i64 m) rfl; clear hb))
    all_goals
      clear x0_0 x0_1
      clear hx_0 hx_1
      go_wp2
      go_ret
      exact ⟨rfl, HB.out⟩
  · rw [szI_no (by omega)] at HSZ
    have HX := Lib.hid (Rw.new W #[.slice A zs.length c, .int .i64 m] 31 (W.heap.size) rfl)
    have HB := Lib.hid ((Below.refl W.heap.size W).alloc (Nat.le_refl _) (.cells #[.slice A zs.length c, .int .i64 m] 31))
    replace HI := Lib.hid (HI.out.step HB.out)
    go_enter Try.func4, Try.ntmps4
    go_upto_region 1 with fail
    generalize W.alloc (.cells #[.slice A zs.length c, .int .i64 m] 31) = w0 at HB HI HX ⊢
    have hx_0 := HX.out.cell (i := 0) (v := .slice A zs.length c) rfl
    have hx_1 := HX.out.cell (i := 1) (v := .int .i64 m) rfl
    go_wp2_with fail
    refine (HSZ.out _).mono ?_
    rintro e w1 ⟨rfl, hb⟩
    clear hx_0 hx_1
    replace HI := Lib.hid (HI.out.step hb)
    replace HX := Lib.hid (HX.out.step hb)
    replace HB := Lib.hid (below_trans HB.out hb)
    clear hb
    go_wp2
    go_ret
    exact ⟨rfl, HB.out⟩
end Go.Proofs.Ytpjoljaamakagaa
