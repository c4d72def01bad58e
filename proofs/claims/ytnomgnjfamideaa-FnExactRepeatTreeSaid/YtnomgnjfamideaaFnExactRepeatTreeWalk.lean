/- The law FnExactRepeatTree: its walk over the two functions' contracts. -/
import Derived.Test.YtnomgnjfamideaaL9I
import Derived.Test.YtnomgnjfamideaaL9M
import Derived.Deep.RegionHeld3
namespace Go.Proofs.Ytnomgnjfamideaa
open Go.RowKit
set_option linter.unusedVariables false

set_option maxRecDepth 100000 in
set_option maxHeartbeats 40000000 in
theorem fnExactRepeatTree_walk (n : Int) (q : Int) (t : Int) (W : World) (wfn : (Lit.int .i64 n).wf = true) (wfq : (Lit.int .i64 q).wf = true) (wft : (Lit.int .i64 t).wf = true) (hsh : W.ShapedOpen Try.prog) :
    Calls Try.prog 14 #[.int .i64 n, .int .i64 q, .int .i64 t] W fun e w' => e = .returned (.bool true) ∧ Below W.heap.size W w' := by
  clear hsh
  obtain ⟨r0, r1, l0, hI, hC⟩ := repeatTree_both n q t
  have CI := Lib.hid hI
  have CS := Lib.hid hC
  clear hI hC
  have HB := Lib.hid (Below.refl W.heap.size W)
  have ZB : Hid (W.heap.size ≤ W.heap.size) := Lib.hid (Nat.le_refl _)
  go_enter Try.func14, Try.ntmps14
  go_wp2_with fail
  with_reducible refine (CS.out _).mono ?_
  rintro e w0 ⟨Bw0, cw0, rfl, hr, hb⟩
  replace HB := Lib.hid (below_trans HB.out hb)
  replace ZB : Hid (W.heap.size ≤ w0.heap.size) := Lib.hid hb.size
  have Rw0 := Lib.hid hr
  clear hr hb
  have hb : Below w0.heap.size w0 (w0.alloc (.cells #[.slice Bw0 r0.length cw0] 29)) := (Below.refl _ _).alloc (Nat.le_refl _) _
  go_wp2_with fail
  have HVw0 := Lib.hid (One.new w0 (.slice Bw0 r0.length cw0) 29 w0.heap.size rfl)
  have Z0 : Hid (w0.heap.size < (w0.alloc (.cells #[.slice Bw0 r0.length cw0] 29)).heap.size) := Lib.hid (by simp)
  replace HB := Lib.hid (below_trans HB.out hb)
  replace Rw0 := Lib.hid (Rw0.out.step hb)
  clear hb
  generalize w0.alloc (.cells #[.slice Bw0 r0.length cw0] 29) = w1 at HB Rw0 HVw0 Z0 ⊢
  have vw00 := HVw0.out.c0
  go_wp2_with fail
  with_reducible refine (CI.out _).mono ?_
  rintro e w2 ⟨Bg0, cg0, rfl, hr, hb⟩
  have Z1 : Hid (w1.heap.size ≤ w2.heap.size) := Lib.hid hb.size
  replace HB := Lib.hid (below_trans HB.out hb)
  replace Rw0 := Lib.hid (Rw0.out.step hb)
  replace HVw0 := Lib.hid (HVw0.out.step hb)
  replace vw00 := HVw0.out.c0
  have Rg0 := Lib.hid hr
  clear hr
  clear hb
  have hb : Below w2.heap.size w2 (w2.alloc (.cells #[.slice Bg0 r0.length cg0] 29)) := (Below.refl _ _).alloc (Nat.le_refl _) _
  have gvw00 := (HVw0.out.step hb).c0
  go_wp2_with fail
  clear gvw00 vw00
  have HVg0 := Lib.hid (One.new w2 (.slice Bg0 r0.length cg0) 29 w2.heap.size rfl)
  have Z2 : Hid (w2.heap.size < (w2.alloc (.cells #[.slice Bg0 r0.length cg0] 29)).heap.size) := Lib.hid (by simp)
  replace HB := Lib.hid (below_trans HB.out hb)
  replace Rw0 := Lib.hid (Rw0.out.step hb)
  replace HVw0 := Lib.hid (HVw0.out.step hb)
  replace Rg0 := Lib.hid (Rg0.out.step hb)
  clear hb
  generalize w2.alloc (.cells #[.slice Bg0 r0.length cg0] 29) = w3 at HB Rw0 HVw0 Rg0 HVg0 Z2 ⊢
  have vw00 := HVw0.out.c0
  have vg00 := HVg0.out.c0
  go_wp2_with fail
  with_reducible refine (eqTree_same Bg0 Bw0 cg0 cw0 _ _ _ _ r0 _ Rg0.out.ins Rw0.out.ins l0).mono ?_
  rintro e w4 ⟨rfl, hb⟩
  have Z3 : Hid (w3.heap.size ≤ w4.heap.size) := Lib.hid hb.size
  replace HB := Lib.hid (below_trans HB.out hb)
  replace Rw0 := Lib.hid (Rw0.out.step hb)
  replace HVw0 := Lib.hid (HVw0.out.step hb)
  replace Rg0 := Lib.hid (Rg0.out.step hb)
  replace HVg0 := Lib.hid (HVg0.out.step hb)
  replace vw00 := HVw0.out.c0
  replace vg00 := HVg0.out.c0
  clear hb
  have hq0 : (0 : Int) ≤ ((r0.length : Int) * 3 + 1) := by omega
  go_wp2_with fail
  with_reducible refine (markTree_any Bg0 cg0 _ _ r0 _ Rg0.out l0).mono ?_
  rintro e w5 ⟨rfl, hr, hw⟩
  have ZZ := And.intro ZB.out (And.intro Z0.out ( And.intro Z1.out ( And.intro Z2.out ( And.intro Z3.out (trivial)))))
  replace HB := Lib.hid (HB.out.trans (hw.below (by omega) HB.out.size))
  replace Rw0 := Lib.hid (Rw0.out.within hw (by omega))
  replace HVw0 := Lib.hid (HVw0.out.within hw (by omega))
  replace HVg0 := Lib.hid (HVg0.out.within hw (by omega))
  have Z4 : Hid (w4.heap.size ≤ w5.heap.size) := Lib.hid hw.size
  replace vw00 := HVw0.out.c0
  replace vg00 := HVg0.out.c0
  have M0 := Lib.hid hr
  clear hr
  clear hw ZZ
  clear Rg0
  go_wp2_with fail
  with_reducible refine (heldTree_any Bg0 cg0 _ _ r0.length _ M0.out l0).mono ?_
  rintro e w6 ⟨rfl, hb⟩
  have Z5 : Hid (w5.heap.size ≤ w6.heap.size) := Lib.hid hb.size
  replace HB := Lib.hid (below_trans HB.out hb)
  replace Rw0 := Lib.hid (Rw0.out.step hb)
  replace HVw0 := Lib.hid (HVw0.out.step hb)
  replace HVg0 := Lib.hid (HVg0.out.step hb)
  replace M0 := Lib.hid (M0.out.step hb)
  replace vw00 := HVw0.out.c0
  replace vg00 := HVg0.out.c0
  clear hb
  go_wp2_with fail
  with_reducible refine (CI.out _).mono ?_
  rintro e w7 ⟨Bh0, ch0, rfl, hr, hb⟩
  have Z6 : Hid (w6.heap.size ≤ w7.heap.size) := Lib.hid hb.size
  replace HB := Lib.hid (below_trans HB.out hb)
  replace Rw0 := Lib.hid (Rw0.out.step hb)
  replace HVw0 := Lib.hid (HVw0.out.step hb)
  replace HVg0 := Lib.hid (HVg0.out.step hb)
  replace M0 := Lib.hid (M0.out.step hb)
  replace vw00 := HVw0.out.c0
  replace vg00 := HVg0.out.c0
  have Rh0 := Lib.hid hr
  clear hr
  clear hb
  have hb : Below w7.heap.size w7 (w7.alloc (.cells #[.slice Bh0 r0.length ch0] 29)) := (Below.refl _ _).alloc (Nat.le_refl _) _
  have gvw00 := (HVw0.out.step hb).c0
  have gvg00 := (HVg0.out.step hb).c0
  go_wp2_with fail
  clear gvw00 vw00 gvg00 vg00
  have HVh0 := Lib.hid (One.new w7 (.slice Bh0 r0.length ch0) 29 w7.heap.size rfl)
  have Z7 : Hid (w7.heap.size < (w7.alloc (.cells #[.slice Bh0 r0.length ch0] 29)).heap.size) := Lib.hid (by simp)
  replace HB := Lib.hid (below_trans HB.out hb)
  replace Rw0 := Lib.hid (Rw0.out.step hb)
  replace HVw0 := Lib.hid (HVw0.out.step hb)
  replace HVg0 := Lib.hid (HVg0.out.step hb)
  replace M0 := Lib.hid (M0.out.step hb)
  replace Rh0 := Lib.hid (Rh0.out.step hb)
  clear hb
  generalize w7.alloc (.cells #[.slice Bh0 r0.length ch0] 29) = w8 at HB Rw0 HVw0 HVg0 M0 Rh0 HVh0 Z7 ⊢
  have vw00 := HVw0.out.c0
  have vg00 := HVg0.out.c0
  have vh00 := HVh0.out.c0
  go_wp2_with fail
  with_reducible refine (eqTree_same Bh0 Bw0 ch0 cw0 _ _ _ _ r0 _ Rh0.out.ins Rw0.out.ins l0).mono ?_
  rintro e w9 ⟨rfl, hb⟩
  have Z8 : Hid (w8.heap.size ≤ w9.heap.size) := Lib.hid hb.size
  replace HB := Lib.hid (below_trans HB.out hb)
  replace Rw0 := Lib.hid (Rw0.out.step hb)
  replace HVw0 := Lib.hid (HVw0.out.step hb)
  replace HVg0 := Lib.hid (HVg0.out.step hb)
  replace M0 := Lib.hid (M0.out.step hb)
  replace Rh0 := Lib.hid (Rh0.out.step hb)
  replace HVh0 := Lib.hid (HVh0.out.step hb)
  replace vw00 := HVw0.out.c0
  replace vg00 := HVg0.out.c0
  replace vh00 := HVh0.out.c0
  clear hb
  go_wp2_with fail
  with_reducible refine (heldTree_any Bg0 cg0 _ _ r0.length _ M0.out l0).mono ?_
  rintro e w10 ⟨rfl, hb⟩
  have Z9 : Hid (w9.heap.size ≤ w10.heap.size) := Lib.hid hb.size
  replace HB := Lib.hid (below_trans HB.out hb)
  replace Rw0 := Lib.hid (Rw0.out.step hb)
  replace HVw0 := Lib.hid (HVw0.out.step hb)
  replace HVg0 := Lib.hid (HVg0.out.step hb)
  replace M0 := Lib.hid (M0.out.step hb)
  replace Rh0 := Lib.hid (Rh0.out.step hb)
  replace HVh0 := Lib.hid (HVh0.out.step hb)
  replace vw00 := HVw0.out.c0
  replace vg00 := HVg0.out.c0
  replace vh00 := HVh0.out.c0
  clear hb
  go_wp2
  go_ret
  exact ⟨rfl, HB.out⟩
end Go.Proofs.Ytnomgnjfamideaa
