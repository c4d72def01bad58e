/- The law FnExactAnswerAll: its walk over the two functions' contracts. -/
import Derived.Test.YtdkffkgoalgjmaaAll2
namespace Go.Proofs.Ytdkffkgoalgjmaa
open Go.RowKit
set_option linter.unusedVariables false

set_option maxHeartbeats 4000000 in
theorem fnExactAnswerAll_walk (n : Int) (m : Int) (Al : Option Addr) (cl : Nat) (l : List (Int × Bool)) (W : World) (wfn : (Lit.int .i64 n).wf = true) (wfm : (Lit.int .i64 m).wf = true) (hSl : Asks W 0 W.heap.size Al l) (hcl : l.length ≤ cl) (hcml : cl ≤ maxLen) (hsh : W.ShapedOpen Try.prog) :
    Calls Try.prog 14 #[.int .i64 n, .int .i64 m, .slice Al l.length cl] W fun e w' => e = .returned (.bool true) ∧ Below W.heap.size W w' := by
  clear hsh
  unfold maxLen at hcml
  have C0 := Lib.hid (fun w => szAskedS_any Al cl l.length 1048576 w (by unfold maxLen; omega) (by omega))
  rw [show (((1048576 : Nat) : Int)) = 1048576 from rfl] at C0
  by_cases hl : l.length ≤ 1048576
  · rw [szI_yes hl] at C0
    have hz : (0 : Int) ≤ ((1048576 - l.length : Nat) : Int) := by omega
    generalize ((1048576 - l.length : Nat) : Int) = z at C0 hz
    obtain ⟨r0, u0, r1, l0, hI, hC⟩ := answerAll_both n m l hl
    have CI := Lib.hid hI
    have CS := Lib.hid hC
    clear hI hC
    have HIl := Lib.hid (AIns.mk hSl (Nat.le_refl _))
    have HB := Lib.hid (Below.refl W.heap.size W)
    clear hSl hcl
    have ZB := Lib.hid HB.out.size
    go_enter Try.func14, Try.ntmps14
    go_wp2_with fail
    go_wp2_with fail
    refine (C0.out _).mono ?_
    rintro e w1 ⟨rfl, hb⟩
    have Z0 := Lib.hid hb.size
    replace HIl := Lib.hid (HIl.out.step hb)
    replace HB := Lib.hid (below_trans HB.out hb)
    clear hb
    clear C0
    go_wp2_with fail
    refine (toAskedS_any Al cl 0 W.heap.size l _ HIl.out hl).mono ?_
    rintro e w2 ⟨Blw, rfl, hr, hb⟩
    have Z1 := Lib.hid hb.size
    replace HIl := Lib.hid (HIl.out.step hb)
    replace HB := Lib.hid (below_trans HB.out hb)
    clear hb
    have RBlw := Lib.hid hr
    clear hr
    go_wp2_with fail
    refine (CS.out _ Blw _ _ _ RBlw.out.ins).mono ?_
    rintro e w3 ⟨Bw0, cw0, rfl, hr0, hb⟩
    have Z2 := Lib.hid hb.size
    replace HIl := Lib.hid (HIl.out.step hb)
    replace RBlw := Lib.hid (RBlw.out.step hb)
    replace HB := Lib.hid (below_trans HB.out hb)
    clear hb
    have Rw0 := Lib.hid hr0
    clear hr0
    have hb : Below w3.heap.size w3 (w3.alloc (.cells #[.slice Bw0 r0.length cw0, .int .i64 u0] 28)) := (Below.refl _ _).alloc (Nat.le_refl _) _
    go_wp2_with fail
    have HXw0 := Lib.hid (Arg.next HB.out (.slice Bw0 r0.length cw0) (.int .i64 u0) 28 w3.heap.size rfl)
    have ZXw0 : Hid (w3.heap.size < (w3.alloc (.cells #[.slice Bw0 r0.length cw0, .int .i64 u0] 28)).heap.size) := HXw0.out.hi
    have Z3 := Lib.hid hb.size
    replace HIl := Lib.hid (HIl.out.step hb)
    replace RBlw := Lib.hid (RBlw.out.step hb)
    replace Rw0 := Lib.hid (Rw0.out.step hb)
    replace HB := Lib.hid (below_trans HB.out hb)
    clear hb
    generalize (w3.alloc (.cells #[.slice Bw0 r0.length cw0, .int .i64 u0] 28)) = w4 at HB ZXw0 Z3 HIl RBlw Rw0 HXw0 ⊢
    have h0w0 := HXw0.out.c0
    have h1w0 := HXw0.out.c1
    clear RBlw
    go_wp2_with fail
    refine (toAskedS_any Al cl 0 W.heap.size l _ HIl.out hl).mono ?_
    rintro e w5 ⟨Blx, rfl, hr, hb⟩
    have Z4 := Lib.hid hb.size
    replace HIl := Lib.hid (HIl.out.step hb)
    replace Rw0 := Lib.hid (Rw0.out.step hb)
    replace HXw0 := Lib.hid (HXw0.out.step hb)
    replace HB := Lib.hid (below_trans HB.out hb)
    replace h0w0 := HXw0.out.c0
    replace h1w0 := HXw0.out.c1
    clear hb
    have RBlx := Lib.hid hr
    clear hr
    go_wp2_with fail
    refine (CI.out _ Blx _ _ _ RBlx.out.ins).mono ?_
    rintro e w6 ⟨Bg0, cg0, rfl, hr0, hb⟩
    have Z5 := Lib.hid hb.size
    replace HIl := Lib.hid (HIl.out.step hb)
    replace Rw0 := Lib.hid (Rw0.out.step hb)
    replace RBlx := Lib.hid (RBlx.out.step hb)
    replace HXw0 := Lib.hid (HXw0.out.step hb)
    replace HB := Lib.hid (below_trans HB.out hb)
    replace h0w0 := HXw0.out.c0
    replace h1w0 := HXw0.out.c1
    clear hb
    have Rg0 := Lib.hid hr0
    clear hr0
    have hb : Below w6.heap.size w6 (w6.alloc (.cells #[.slice Bg0 r0.length cg0, .int .i64 u0] 28)) := (Below.refl _ _).alloc (Nat.le_refl _) _
    have g0w0 := (HXw0.out.step hb).c0
    have g1w0 := (HXw0.out.step hb).c1
    go_wp2_with fail
    clear g0w0 g1w0
    have HXg0 := Lib.hid (Arg.next HB.out (.slice Bg0 r0.length cg0) (.int .i64 u0) 28 w6.heap.size rfl)
    have ZXg0 : Hid (w6.heap.size < (w6.alloc (.cells #[.slice Bg0 r0.length cg0, .int .i64 u0] 28)).heap.size) := HXg0.out.hi
    have Z6 := Lib.hid hb.size
    replace HIl := Lib.hid (HIl.out.step hb)
    replace Rw0 := Lib.hid (Rw0.out.step hb)
    replace RBlx := Lib.hid (RBlx.out.step hb)
    replace Rg0 := Lib.hid (Rg0.out.step hb)
    replace HXw0 := Lib.hid (HXw0.out.step hb)
    replace HB := Lib.hid (below_trans HB.out hb)
    clear hb
    clear h0w0 h1w0
    generalize (w6.alloc (.cells #[.slice Bg0 r0.length cg0, .int .i64 u0] 28)) = w7 at HB ZXg0 Z6 HIl Rw0 RBlx Rg0 HXw0 HXg0 ⊢
    have h0w0 := HXw0.out.c0
    have h1w0 := HXw0.out.c1
    have h0g0 := HXg0.out.c0
    have h1g0 := HXg0.out.c1
    go_wp2_with fail
    refine (eqState_same Bg0 Bw0 cg0 cw0 _ _ _ _ r0 u0 _ Rg0.out.ins Rw0.out.ins l0).mono ?_
    rintro e w8 ⟨rfl, hb⟩
    have Z7 := Lib.hid hb.size
    replace HIl := Lib.hid (HIl.out.step hb)
    replace Rw0 := Lib.hid (Rw0.out.step hb)
    replace RBlx := Lib.hid (RBlx.out.step hb)
    replace Rg0 := Lib.hid (Rg0.out.step hb)
    replace HXw0 := Lib.hid (HXw0.out.step hb)
    replace HXg0 := Lib.hid (HXg0.out.step hb)
    replace HB := Lib.hid (below_trans HB.out hb)
    replace h0w0 := HXw0.out.c0
    replace h1w0 := HXw0.out.c1
    replace h0g0 := HXg0.out.c0
    replace h1g0 := HXg0.out.c1
    clear hb
    go_wp2_with fail
    refine (toAskedS_any Al cl 0 W.heap.size l _ HIl.out hl).mono ?_
    rintro e w9 ⟨Bly, rfl, hr, hb⟩
    have Z8 := Lib.hid hb.size
    replace HIl := Lib.hid (HIl.out.step hb)
    replace Rw0 := Lib.hid (Rw0.out.step hb)
    replace RBlx := Lib.hid (RBlx.out.step hb)
    replace Rg0 := Lib.hid (Rg0.out.step hb)
    replace HXw0 := Lib.hid (HXw0.out.step hb)
    replace HXg0 := Lib.hid (HXg0.out.step hb)
    replace HB := Lib.hid (below_trans HB.out hb)
    replace h0w0 := HXw0.out.c0
    replace h1w0 := HXw0.out.c1
    replace h0g0 := HXg0.out.c0
    replace h1g0 := HXg0.out.c1
    clear hb
    have RBly := Lib.hid hr
    clear hr
    go_wp2_with fail
    refine (eqAskedS_same Blx Bly l.length l.length _ _ _ _ l _ RBlx.out.ins RBly.out.ins hl).mono ?_
    rintro e w10 ⟨rfl, hb⟩
    have Z9 := Lib.hid hb.size
    replace HIl := Lib.hid (HIl.out.step hb)
    replace Rw0 := Lib.hid (Rw0.out.step hb)
    replace RBlx := Lib.hid (RBlx.out.step hb)
    replace Rg0 := Lib.hid (Rg0.out.step hb)
    replace RBly := Lib.hid (RBly.out.step hb)
    replace HXw0 := Lib.hid (HXw0.out.step hb)
    replace HXg0 := Lib.hid (HXg0.out.step hb)
    replace HB := Lib.hid (below_trans HB.out hb)
    replace h0w0 := HXw0.out.c0
    replace h1w0 := HXw0.out.c1
    replace h0g0 := HXg0.out.c0
    replace h1g0 := HXg0.out.c1
    clear hb
    clear RBly
    go_wp2_with fail
    refine (markAskedS_any Blx l.length _ _ l _ RBlx.out hl).mono ?_
    rintro e w11 ⟨rfl, hr, hw⟩
    clear hr
    have ZZ : W.heap.size ≤ W.heap.size ∧ W.heap.size ≤ w1.heap.size ∧ w1.heap.size ≤ w2.heap.size ∧ w2.heap.size ≤ w3.heap.size ∧ w3.heap.size ≤ w4.heap.size ∧ w4.heap.size ≤ w5.heap.size ∧ w5.heap.size ≤ w6.heap.size ∧ w6.heap.size ≤ w7.heap.size ∧ w7.heap.size ≤ w8.heap.size ∧ w8.heap.size ≤ w9.heap.size ∧ w9.heap.size ≤ w10.heap.size := ⟨ZB.out, Z0.out, Z1.out, Z2.out, Z3.out, Z4.out, Z5.out, Z6.out, Z7.out, Z8.out, Z9.out⟩
    replace HIl := Lib.hid (HIl.out.within hw (by omega))
    replace Rw0 := Lib.hid (Rw0.out.within hw (by omega))
    replace Rg0 := Lib.hid (Rg0.out.within hw (by omega))
    have ZX := ZXw0.out
    replace HXw0 := Lib.hid (HXw0.out.within hw (by omega))
    clear ZX
    have ZX := ZXg0.out
    replace HXg0 := Lib.hid (HXg0.out.within hw (by omega))
    clear ZX
    replace HB := Lib.hid (HB.out.trans (hw.below (by omega) HB.out.size))
    replace h0w0 := HXw0.out.c0
    replace h1w0 := HXw0.out.c1
    replace h0g0 := HXg0.out.c0
    replace h1g0 := HXg0.out.c1
    have Z10 := Lib.hid hw.size
    clear hw ZZ
    clear RBlx
    go_wp2_with fail
    refine (eqState_same Bg0 Bw0 cg0 cw0 _ _ _ _ r0 u0 _ Rg0.out.ins Rw0.out.ins l0).mono ?_
    rintro e w12 ⟨rfl, hb⟩
    have Z11 := Lib.hid hb.size
    replace HIl := Lib.hid (HIl.out.step hb)
    replace Rw0 := Lib.hid (Rw0.out.step hb)
    replace Rg0 := Lib.hid (Rg0.out.step hb)
    replace HXw0 := Lib.hid (HXw0.out.step hb)
    replace HXg0 := Lib.hid (HXg0.out.step hb)
    replace HB := Lib.hid (below_trans HB.out hb)
    replace h0w0 := HXw0.out.c0
    replace h1w0 := HXw0.out.c1
    replace h0g0 := HXg0.out.c0
    replace h1g0 := HXg0.out.c1
    clear hb
    go_wp2_with fail
    refine (markState_any Bg0 cg0 _ _ r0 u0 _ Rg0.out l0).mono ?_
    rintro e w13 ⟨rfl, hr, hw⟩
    have ZZ : W.heap.size ≤ W.heap.size ∧ W.heap.size ≤ w1.heap.size ∧ w1.heap.size ≤ w2.heap.size ∧ w2.heap.size ≤ w3.heap.size ∧ w3.heap.size ≤ w4.heap.size ∧ w4.heap.size ≤ w5.heap.size ∧ w5.heap.size ≤ w6.heap.size ∧ w6.heap.size ≤ w7.heap.size ∧ w7.heap.size ≤ w8.heap.size ∧ w8.heap.size ≤ w9.heap.size ∧ w9.heap.size ≤ w10.heap.size ∧ w10.heap.size ≤ w11.heap.size ∧ w11.heap.size ≤ w12.heap.size := ⟨ZB.out, Z0.out, Z1.out, Z2.out, Z3.out, Z4.out, Z5.out, Z6.out, Z7.out, Z8.out, Z9.out, Z10.out, Z11.out⟩
    replace HIl := Lib.hid (HIl.out.within hw (by omega))
    replace Rw0 := Lib.hid (Rw0.out.within hw (by omega))
    have ZX := ZXw0.out
    replace HXw0 := Lib.hid (HXw0.out.within hw (by omega))
    clear ZX
    have ZX := ZXg0.out
    replace HXg0 := Lib.hid (HXg0.out.within hw (by omega))
    clear ZX
    replace HB := Lib.hid (HB.out.trans (hw.below (by omega) HB.out.size))
    replace h0w0 := HXw0.out.c0
    replace h1w0 := HXw0.out.c1
    replace h0g0 := HXg0.out.c0
    replace h1g0 := HXg0.out.c1
    have Z12 := Lib.hid hw.size
    clear hw ZZ
    have M0 := Lib.hid hr
    clear hr
    clear Rg0
    go_wp2_with fail
    refine (heldState_any Bg0 cg0 _ _ r0.length u0 _ M0.out.ins l0).mono ?_
    rintro e w14 ⟨rfl, hb⟩
    have Z13 := Lib.hid hb.size
    replace HIl := Lib.hid (HIl.out.step hb)
    replace Rw0 := Lib.hid (Rw0.out.step hb)
    replace M0 := Lib.hid (M0.out.step hb)
    replace HXw0 := Lib.hid (HXw0.out.step hb)
    replace HXg0 := Lib.hid (HXg0.out.step hb)
    replace HB := Lib.hid (below_trans HB.out hb)
    replace h0w0 := HXw0.out.c0
    replace h1w0 := HXw0.out.c1
    replace h0g0 := HXg0.out.c0
    replace h1g0 := HXg0.out.c1
    clear hb
    go_wp2_with fail
    refine (toAskedS_any Al cl 0 W.heap.size l _ HIl.out hl).mono ?_
    rintro e w15 ⟨Blh, rfl, hr, hb⟩
    have Z14 := Lib.hid hb.size
    replace HIl := Lib.hid (HIl.out.step hb)
    replace Rw0 := Lib.hid (Rw0.out.step hb)
    replace M0 := Lib.hid (M0.out.step hb)
    replace HXw0 := Lib.hid (HXw0.out.step hb)
    replace HXg0 := Lib.hid (HXg0.out.step hb)
    replace HB := Lib.hid (below_trans HB.out hb)
    replace h0w0 := HXw0.out.c0
    replace h1w0 := HXw0.out.c1
    replace h0g0 := HXg0.out.c0
    replace h1g0 := HXg0.out.c1
    clear hb
    have RBlh := Lib.hid hr
    clear hr
    go_wp2_with fail
    refine (CI.out _ Blh _ _ _ RBlh.out.ins).mono ?_
    rintro e w16 ⟨Bh0, ch0, rfl, hr0, hb⟩
    have Z15 := Lib.hid hb.size
    replace HIl := Lib.hid (HIl.out.step hb)
    replace Rw0 := Lib.hid (Rw0.out.step hb)
    replace M0 := Lib.hid (M0.out.step hb)
    replace RBlh := Lib.hid (RBlh.out.step hb)
    replace HXw0 := Lib.hid (HXw0.out.step hb)
    replace HXg0 := Lib.hid (HXg0.out.step hb)
    replace HB := Lib.hid (below_trans HB.out hb)
    replace h0w0 := HXw0.out.c0
    replace h1w0 := HXw0.out.c1
    replace h0g0 := HXg0.out.c0
    replace h1g0 := HXg0.out.c1
    clear hb
    have Rh0 := Lib.hid hr0
    clear hr0
    have hb : Below w16.heap.size w16 (w16.alloc (.cells #[.slice Bh0 r0.length ch0, .int .i64 u0] 28)) := (Below.refl _ _).alloc (Nat.le_refl _) _
    have g0w0 := (HXw0.out.step hb).c0
    have g1w0 := (HXw0.out.step hb).c1
    have g0g0 := (HXg0.out.step hb).c0
    have g1g0 := (HXg0.out.step hb).c1
    go_wp2_with fail
    clear g0w0 g1w0 g0g0 g1g0
    have HXh0 := Lib.hid (Arg.next HB.out (.slice Bh0 r0.length ch0) (.int .i64 u0) 28 w16.heap.size rfl)
    have ZXh0 : Hid (w16.heap.size < (w16.alloc (.cells #[.slice Bh0 r0.length ch0, .int .i64 u0] 28)).heap.size) := HXh0.out.hi
    have Z16 := Lib.hid hb.size
    replace HIl := Lib.hid (HIl.out.step hb)
    replace Rw0 := Lib.hid (Rw0.out.step hb)
    replace M0 := Lib.hid (M0.out.step hb)
    replace RBlh := Lib.hid (RBlh.out.step hb)
    replace Rh0 := Lib.hid (Rh0.out.step hb)
    replace HXw0 := Lib.hid (HXw0.out.step hb)
    replace HXg0 := Lib.hid (HXg0.out.step hb)
    replace HB := Lib.hid (below_trans HB.out hb)
    clear hb
    clear h0w0 h1w0 h0g0 h1g0
    generalize (w16.alloc (.cells #[.slice Bh0 r0.length ch0, .int .i64 u0] 28)) = w17 at HB ZXh0 Z16 HIl Rw0 M0 RBlh Rh0 HXw0 HXg0 HXh0 ⊢
    have h0w0 := HXw0.out.c0
    have h1w0 := HXw0.out.c1
    have h0g0 := HXg0.out.c0
    have h1g0 := HXg0.out.c1
    have h0h0 := HXh0.out.c0
    have h1h0 := HXh0.out.c1
    clear RBlh
    go_wp2_with fail
    refine (eqState_same Bh0 Bw0 ch0 cw0 _ _ _ _ r0 u0 _ Rh0.out.ins Rw0.out.ins l0).mono ?_
    rintro e w18 ⟨rfl, hb⟩
    have Z17 := Lib.hid hb.size
    replace HIl := Lib.hid (HIl.out.step hb)
    replace Rw0 := Lib.hid (Rw0.out.step hb)
    replace M0 := Lib.hid (M0.out.step hb)
    replace Rh0 := Lib.hid (Rh0.out.step hb)
    replace HXw0 := Lib.hid (HXw0.out.step hb)
    replace HXg0 := Lib.hid (HXg0.out.step hb)
    replace HXh0 := Lib.hid (HXh0.out.step hb)
    replace HB := Lib.hid (below_trans HB.out hb)
    replace h0w0 := HXw0.out.c0
    replace h1w0 := HXw0.out.c1
    replace h0g0 := HXg0.out.c0
    replace h1g0 := HXg0.out.c1
    replace h0h0 := HXh0.out.c0
    replace h1h0 := HXh0.out.c1
    clear hb
    go_wp2_with fail
    refine (heldState_any Bg0 cg0 _ _ r0.length u0 _ M0.out.ins l0).mono ?_
    rintro e w19 ⟨rfl, hb⟩
    have Z18 := Lib.hid hb.size
    replace HIl := Lib.hid (HIl.out.step hb)
    replace Rw0 := Lib.hid (Rw0.out.step hb)
    replace M0 := Lib.hid (M0.out.step hb)
    replace Rh0 := Lib.hid (Rh0.out.step hb)
    replace HXw0 := Lib.hid (HXw0.out.step hb)
    replace HXg0 := Lib.hid (HXg0.out.step hb)
    replace HXh0 := Lib.hid (HXh0.out.step hb)
    replace HB := Lib.hid (below_trans HB.out hb)
    replace h0w0 := HXw0.out.c0
    replace h1w0 := HXw0.out.c1
    replace h0g0 := HXg0.out.c0
    replace h1g0 := HXg0.out.c1
    replace h0h0 := HXh0.out.c0
    replace h1h0 := HXh0.out.c1
    clear hb
    go_wp2
    go_ret
    exact ⟨rfl, HB.out⟩
  · rw [szI_no (by omega)] at C0
    go_enter Try.func14, Try.ntmps14
    go_wp2_with fail
    refine (C0.out _).mono ?_
    rintro e w1 ⟨rfl, hb⟩
    have hb0 : Below W.heap.size W W := (Below.refl _ _)
    have HB := Lib.hid (below_trans hb0 hb)
    clear hb0
    clear hb C0
    go_wp2
    go_ret
    exact ⟨rfl, HB.out⟩
end Go.Proofs.Ytdkffkgoalgjmaa
