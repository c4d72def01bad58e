/- The law FnExactParseState: its walk over the two functions' contracts. -/
import Derived.Test.YtdolonmjhlhkeabDoorPSi
namespace Go.Proofs.YtdolonmjhlhkeabDoor
open Go.RowKit Go.ChangeShapes Go.WideShapes
set_option linter.unusedVariables false

set_option maxHeartbeats 4000000 in
theorem fnExactParseState_walk (s : ByteArray) (W : World) (wfs : s.size ≤ maxLen) (hL : laidMetH Tryd.prog Rows.fnExactParseStateRow.laid W) (hsh : W.ShapedOpen Tryd.prog) :
    Calls Tryd.prog 3 #[.string s] W fun e w' => e = .returned (.bool true) ∧ Below W.heap.size W w' := by
  have HP0 := Lib.hid (show Pow W from laid_pow hL)
  have HE0 := Lib.hid (show Errs W from laid_errs hL)
  have HM0 := Lib.hid (maxL_of hsh)
  clear hsh hL
  by_cases hsz : s.size ≤ 1048576
  rotate_left
  · go_enter Tryd.func3, Tryd.ntmps3
    go_wp2
    go_ret
    exact ⟨rfl, Below.refl _ _⟩
  obtain ⟨r0, u0, r1, l0, hI, hC⟩ := parseState_both s hsz
  have CI := Lib.hid hI
  have CS := Lib.hid hC
  clear hI hC
  have HB := Lib.hid (Below.refl W.heap.size W)
  have ZB := Lib.hid HB.out.size
  go_enter Tryd.func3, Tryd.ntmps3
  go_wp2_with fail
  go_wp2_with fail
  refine (CS.out _  ).mono ?_
  rintro e w1 ⟨Bw0, cw0, rfl, hr0, hb⟩
  have Z0 := Lib.hid hb.size
  replace HB := Lib.hid (below_trans HB.out hb)
  clear hb
  have Rw0 := Lib.hid hr0
  clear hr0
  have hb : Below w1.heap.size w1 (w1.alloc (.cells #[.slice Bw0 r0.length cw0, .int .i64 u0] 24)) := (Below.refl _ _).alloc (Nat.le_refl _) _
  go_wp2_with fail
  have HXw0 := Lib.hid (Arg.next HB.out (.slice Bw0 r0.length cw0) (.int .i64 u0) 24 w1.heap.size rfl)
  have ZXw0 : Hid (w1.heap.size < (w1.alloc (.cells #[.slice Bw0 r0.length cw0, .int .i64 u0] 24)).heap.size) := HXw0.out.hi
  have Z1 := Lib.hid hb.size
  replace Rw0 := Lib.hid (Rw0.out.step hb)
  replace HB := Lib.hid (below_trans HB.out hb)
  clear hb
  generalize (w1.alloc (.cells #[.slice Bw0 r0.length cw0, .int .i64 u0] 24)) = w2 at HB ZXw0 Z1 Rw0 HXw0 ⊢
  have h0w0 := HXw0.out.c0
  have h1w0 := HXw0.out.c1
  go_wp2_with fail
  refine (CI.out _ (HP0.out.below HB.out) (HE0.out.below HB.out) (HM0.out.below HB.out)).mono ?_
  rintro e w3 ⟨Bg0, cg0, rfl, hr0, hb⟩
  have Z2 := Lib.hid hb.size
  replace Rw0 := Lib.hid (Rw0.out.step hb)
  replace HXw0 := Lib.hid (HXw0.out.step hb)
  replace HB := Lib.hid (below_trans HB.out hb)
  replace h0w0 := HXw0.out.c0
  replace h1w0 := HXw0.out.c1
  clear hb
  have Rg0 := Lib.hid hr0
  clear hr0
  have hb : Below w3.heap.size w3 (w3.alloc (.cells #[.slice Bg0 r0.length cg0, .int .i64 u0] 24)) := (Below.refl _ _).alloc (Nat.le_refl _) _
  have g0w0 := (HXw0.out.step hb).c0
  have g1w0 := (HXw0.out.step hb).c1
  go_wp2_with fail
  clear g0w0 g1w0
  have HXg0 := Lib.hid (Arg.next HB.out (.slice Bg0 r0.length cg0) (.int .i64 u0) 24 w3.heap.size rfl)
  have ZXg0 : Hid (w3.heap.size < (w3.alloc (.cells #[.slice Bg0 r0.length cg0, .int .i64 u0] 24)).heap.size) := HXg0.out.hi
  have Z3 := Lib.hid hb.size
  replace Rw0 := Lib.hid (Rw0.out.step hb)
  replace Rg0 := Lib.hid (Rg0.out.step hb)
  replace HXw0 := Lib.hid (HXw0.out.step hb)
  replace HB := Lib.hid (below_trans HB.out hb)
  clear hb
  clear h0w0 h1w0
  generalize (w3.alloc (.cells #[.slice Bg0 r0.length cg0, .int .i64 u0] 24)) = w4 at HB ZXg0 Z3 Rw0 Rg0 HXw0 HXg0 ⊢
  have h0w0 := HXw0.out.c0
  have h1w0 := HXw0.out.c1
  have h0g0 := HXg0.out.c0
  have h1g0 := HXg0.out.c1
  go_wp2_with fail
  refine (eqState_same Bg0 Bw0 cg0 cw0 _ _ _ _ r0 u0 _ Rg0.out.ins Rw0.out.ins l0).mono ?_
  rintro e w5 ⟨rfl, hb⟩
  have Z4 := Lib.hid hb.size
  replace Rw0 := Lib.hid (Rw0.out.step hb)
  replace Rg0 := Lib.hid (Rg0.out.step hb)
  replace HXw0 := Lib.hid (HXw0.out.step hb)
  replace HXg0 := Lib.hid (HXg0.out.step hb)
  replace HB := Lib.hid (below_trans HB.out hb)
  replace h0w0 := HXw0.out.c0
  replace h1w0 := HXw0.out.c1
  replace h0g0 := HXg0.out.c0
  replace h1g0 := HXg0.out.c1
  clear hb
  go_wp2_with fail
  refine (markState_any Bg0 cg0 _ _ r0 u0 _ Rg0.out l0).mono ?_
  rintro e w6 ⟨rfl, hr, hw⟩
  have ZZ : W.heap.size ≤ W.heap.size ∧ W.heap.size ≤ w1.heap.size ∧ w1.heap.size ≤ w2.heap.size ∧ w2.heap.size ≤ w3.heap.size ∧ w3.heap.size ≤ w4.heap.size ∧ w4.heap.size ≤ w5.heap.size := ⟨ZB.out, Z0.out, Z1.out, Z2.out, Z3.out, Z4.out⟩
  replace Rw0 := Lib.hid (Rw0.out.within hw (by omega))
  have ZX := ZXw0.out
  replace HXw0 := Lib.hid (HXw0.out.within hw (by omega))
  clear ZX
  have ZX := ZXg0.out
  replace HXg0 := Lib.hid (HXg0.out.within hw (by omega))
  clear ZX
  replace HB := Lib.hid (HB.out.trans (hw.below (by omega) HB.out.size))
  replace h0w0 := HXw0.out.c0
  replace h1w0 := HXw0.out.c1
  replace h0g0 := HXg0.out.c0
  replace h1g0 := HXg0.out.c1
  have Z5 := Lib.hid hw.size
  clear hw ZZ
  have M0 := Lib.hid hr
  clear hr
  clear Rg0
  go_wp2_with fail
  refine (heldState_any Bg0 cg0 _ _ r0.length u0 _ M0.out.ins l0).mono ?_
  rintro e w7 ⟨rfl, hb⟩
  have Z6 := Lib.hid hb.size
  replace Rw0 := Lib.hid (Rw0.out.step hb)
  replace M0 := Lib.hid (M0.out.step hb)
  replace HXw0 := Lib.hid (HXw0.out.step hb)
  replace HXg0 := Lib.hid (HXg0.out.step hb)
  replace HB := Lib.hid (below_trans HB.out hb)
  replace h0w0 := HXw0.out.c0
  replace h1w0 := HXw0.out.c1
  replace h0g0 := HXg0.out.c0
  replace h1g0 := HXg0.out.c1
  clear hb
  go_wp2_with fail
  refine (CI.out _ (HP0.out.below HB.out) (HE0.out.below HB.out) (HM0.out.below HB.out)).mono ?_
  rintro e w8 ⟨Bh0, ch0, rfl, hr0, hb⟩
  have Z7 := Lib.hid hb.size
  replace Rw0 := Lib.hid (Rw0.out.step hb)
  replace M0 := Lib.hid (M0.out.step hb)
  replace HXw0 := Lib.hid (HXw0.out.step hb)
  replace HXg0 := Lib.hid (HXg0.out.step hb)
  replace HB := Lib.hid (below_trans HB.out hb)
  replace h0w0 := HXw0.out.c0
  replace h1w0 := HXw0.out.c1
  replace h0g0 := HXg0.out.c0
  replace h1g0 := HXg0.out.c1
  clear hb
  have Rh0 := Lib.hid hr0
  clear hr0
  have hb : Below w8.heap.size w8 (w8.alloc (.cells #[.slice Bh0 r0.length ch0, .int .i64 u0] 24)) := (Below.refl _ _).alloc (Nat.le_refl _) _
  have g0w0 := (HXw0.out.step hb).c0
  have g1w0 := (HXw0.out.step hb).c1
  have g0g0 := (HXg0.out.step hb).c0
  have g1g0 := (HXg0.out.step hb).c1
  go_wp2_with fail
  clear g0w0 g1w0 g0g0 g1g0
  have HXh0 := Lib.hid (Arg.next HB.out (.slice Bh0 r0.length ch0) (.int .i64 u0) 24 w8.heap.size rfl)
  have ZXh0 : Hid (w8.heap.size < (w8.alloc (.cells #[.slice Bh0 r0.length ch0, .int .i64 u0] 24)).heap.size) := HXh0.out.hi
  have Z8 := Lib.hid hb.size
  replace Rw0 := Lib.hid (Rw0.out.step hb)
  replace M0 := Lib.hid (M0.out.step hb)
  replace Rh0 := Lib.hid (Rh0.out.step hb)
  replace HXw0 := Lib.hid (HXw0.out.step hb)
  replace HXg0 := Lib.hid (HXg0.out.step hb)
  replace HB := Lib.hid (below_trans HB.out hb)
  clear hb
  clear h0w0 h1w0 h0g0 h1g0
  generalize (w8.alloc (.cells #[.slice Bh0 r0.length ch0, .int .i64 u0] 24)) = w9 at HB ZXh0 Z8 Rw0 M0 Rh0 HXw0 HXg0 HXh0 ⊢
  have h0w0 := HXw0.out.c0
  have h1w0 := HXw0.out.c1
  have h0g0 := HXg0.out.c0
  have h1g0 := HXg0.out.c1
  have h0h0 := HXh0.out.c0
  have h1h0 := HXh0.out.c1
  go_wp2_with fail
  refine (eqState_same Bh0 Bw0 ch0 cw0 _ _ _ _ r0 u0 _ Rh0.out.ins Rw0.out.ins l0).mono ?_
  rintro e w10 ⟨rfl, hb⟩
  have Z9 := Lib.hid hb.size
  replace Rw0 := Lib.hid (Rw0.out.step hb)
  replace M0 := Lib.hid (M0.out.step hb)
  replace Rh0 := Lib.hid (Rh0.out.step hb)
  replace HXw0 := Lib.hid (HXw0.out.step hb)
  replace HXg0 := Lib.hid (HXg0.out.step hb)
  replace HXh0 := Lib.hid (HXh0.out.step hb)
  replace HB := Lib.hid (below_trans HB.out hb)
  replace h0w0 := HXw0.out.c0
  replace h1w0 := HXw0.out.c1
  replace h0g0 := HXg0.out.c0
  replace h1g0 := HXg0.out.c1
  replace h0h0 := HXh0.out.c0
  replace h1h0 := HXh0.out.c1
  clear hb
  go_wp2_with fail
  refine (heldState_any Bg0 cg0 _ _ r0.length u0 _ M0.out.ins l0).mono ?_
  rintro e w11 ⟨rfl, hb⟩
  have Z10 := Lib.hid hb.size
  replace Rw0 := Lib.hid (Rw0.out.step hb)
  replace M0 := Lib.hid (M0.out.step hb)
  replace Rh0 := Lib.hid (Rh0.out.step hb)
  replace HXw0 := Lib.hid (HXw0.out.step hb)
  replace HXg0 := Lib.hid (HXg0.out.step hb)
  replace HXh0 := Lib.hid (HXh0.out.step hb)
  replace HB := Lib.hid (below_trans HB.out hb)
  replace h0w0 := HXw0.out.c0
  replace h1w0 := HXw0.out.c1
  replace h0g0 := HXg0.out.c0
  replace h1g0 := HXg0.out.c1
  replace h0h0 := HXh0.out.c0
  replace h1h0 := HXh0.out.c1
  clear hb
  go_wp2
  go_ret
  exact ⟨rfl, HB.out⟩
end Go.Proofs.YtdolonmjhlhkeabDoor
