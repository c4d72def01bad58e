/- The law FnExactChanceWithin: its walk over the two functions' contracts. -/
import Derived.Test.YtlhpbhmldcinmaaL7g
import Derived.Test.YtlhpbhmldcinmaaArr
namespace Go.Proofs.Ytlhpbhmldcinmaa
open Go.RowKit
set_option linter.unusedVariables false

set_option maxHeartbeats 4000000 in
theorem fnExactChanceWithin_walk (m : Int) (k : Int) (ad bd : Int) (W : World) (wfm : (Lit.int .i64 m).wf = true) (wfk : (Lit.int .i64 k).wf = true) (wfad : (Lit.int .i64 ad).wf = true) (wfbd : (Lit.int .i64 bd).wf = true) (hsh : W.ShapedOpen Try.prog) :
    Calls Try.prog 5 #[.int .i64 m, .int .i64 k, .agg #[.int .i64 ad, .int .i64 bd]] W fun e w' => e = .returned (.bool true) ∧ Below W.heap.size W w' := by
  clear hsh
  obtain ⟨r0, u0, r1, hI, hC⟩ := chanceWithin_both m k ad bd
  have CI := Lib.hid hI
  have CS := Lib.hid hC
  clear hI hC
  have HB := Lib.hid (Below.refl W.heap.size W)
  have HXd := Lib.hid (Arg.next HB.out (.int .i64 ad) (.int .i64 bd) 23 (W.heap.size) rfl)
  replace HB := Lib.hid (HXd.out.below)
  have ZB := Lib.hid HB.out.size
  have ZXd : Hid (W.heap.size < (W.alloc (.cells #[.int .i64 ad, .int .i64 bd] 23)).heap.size) := HXd.out.hi
  go_enter Try.func5, Try.ntmps5
  go_wp2_with fail
  generalize (W.alloc (.cells #[.int .i64 ad, .int .i64 bd] 23)) = w0 at  ZB HB HXd ZXd⊢
  have h0d := HXd.out.c0
  have h1d := HXd.out.c1
  go_wp2_with fail
  refine (toDoubt_any ad bd _).mono ?_
  rintro e w1 ⟨rfl, hb⟩
  have Z0 := Lib.hid hb.size
  replace HXd := Lib.hid (HXd.out.step hb)
  replace HB := Lib.hid (below_trans HB.out hb)
  replace h0d := HXd.out.c0
  replace h1d := HXd.out.c1
  clear hb
  go_wp2_with fail
  refine (CS.out _  ).mono ?_
  rintro e w2 ⟨rfl, hb⟩
  have Z1 := Lib.hid hb.size
  replace HXd := Lib.hid (HXd.out.step hb)
  replace HB := Lib.hid (below_trans HB.out hb)
  replace h0d := HXd.out.c0
  replace h1d := HXd.out.c1
  clear hb
  have hb : Below w2.heap.size w2 (w2.alloc (.cells #[.int .i64 r0, .int .i64 u0] 28)) := (Below.refl _ _).alloc (Nat.le_refl _) _
  have g0d := (HXd.out.step hb).c0
  have g1d := (HXd.out.step hb).c1
  go_wp2_with fail
  clear g0d g1d
  have HXw0 := Lib.hid (Arg.next HB.out (.int .i64 r0) (.int .i64 u0) 28 w2.heap.size rfl)
  have ZXw0 : Hid (w2.heap.size < (w2.alloc (.cells #[.int .i64 r0, .int .i64 u0] 28)).heap.size) := HXw0.out.hi
  have Z2 := Lib.hid hb.size
  replace HXd := Lib.hid (HXd.out.step hb)
  replace HB := Lib.hid (below_trans HB.out hb)
  clear hb
  clear h0d h1d
  generalize (w2.alloc (.cells #[.int .i64 r0, .int .i64 u0] 28)) = w3 at HB ZXw0 Z2 HXd HXw0 ⊢
  have h0d := HXd.out.c0
  have h1d := HXd.out.c1
  have h0w0 := HXw0.out.c0
  have h1w0 := HXw0.out.c1
  go_wp2_with fail
  refine (toDoubt_any ad bd _).mono ?_
  rintro e w4 ⟨rfl, hb⟩
  have Z3 := Lib.hid hb.size
  replace HXd := Lib.hid (HXd.out.step hb)
  replace HXw0 := Lib.hid (HXw0.out.step hb)
  replace HB := Lib.hid (below_trans HB.out hb)
  replace h0d := HXd.out.c0
  replace h1d := HXd.out.c1
  replace h0w0 := HXw0.out.c0
  replace h1w0 := HXw0.out.c1
  clear hb
  go_wp2_with fail
  refine (CI.out _  ).mono ?_
  rintro e w5 ⟨rfl, hb⟩
  have Z4 := Lib.hid hb.size
  replace HXd := Lib.hid (HXd.out.step hb)
  replace HXw0 := Lib.hid (HXw0.out.step hb)
  replace HB := Lib.hid (below_trans HB.out hb)
  replace h0d := HXd.out.c0
  replace h1d := HXd.out.c1
  replace h0w0 := HXw0.out.c0
  replace h1w0 := HXw0.out.c1
  clear hb
  have hb : Below w5.heap.size w5 (w5.alloc (.cells #[.int .i64 r0, .int .i64 u0] 28)) := (Below.refl _ _).alloc (Nat.le_refl _) _
  have g0d := (HXd.out.step hb).c0
  have g1d := (HXd.out.step hb).c1
  have g0w0 := (HXw0.out.step hb).c0
  have g1w0 := (HXw0.out.step hb).c1
  go_wp2_with fail
  clear g0d g1d g0w0 g1w0
  have HXg0 := Lib.hid (Arg.next HB.out (.int .i64 r0) (.int .i64 u0) 28 w5.heap.size rfl)
  have ZXg0 : Hid (w5.heap.size < (w5.alloc (.cells #[.int .i64 r0, .int .i64 u0] 28)).heap.size) := HXg0.out.hi
  have Z5 := Lib.hid hb.size
  replace HXd := Lib.hid (HXd.out.step hb)
  replace HXw0 := Lib.hid (HXw0.out.step hb)
  replace HB := Lib.hid (below_trans HB.out hb)
  clear hb
  clear h0d h1d h0w0 h1w0
  generalize (w5.alloc (.cells #[.int .i64 r0, .int .i64 u0] 28)) = w6 at HB ZXg0 Z5 HXd HXw0 HXg0 ⊢
  have h0d := HXd.out.c0
  have h1d := HXd.out.c1
  have h0w0 := HXw0.out.c0
  have h1w0 := HXw0.out.c1
  have h0g0 := HXg0.out.c0
  have h1g0 := HXg0.out.c1
  go_wp2_with fail
  refine (eqIntA2_same r0 u0 _).mono ?_
  rintro e w7 ⟨rfl, hb⟩
  have Z6 := Lib.hid hb.size
  replace HXd := Lib.hid (HXd.out.step hb)
  replace HXw0 := Lib.hid (HXw0.out.step hb)
  replace HXg0 := Lib.hid (HXg0.out.step hb)
  replace HB := Lib.hid (below_trans HB.out hb)
  replace h0d := HXd.out.c0
  replace h1d := HXd.out.c1
  replace h0w0 := HXw0.out.c0
  replace h1w0 := HXw0.out.c1
  replace h0g0 := HXg0.out.c0
  replace h1g0 := HXg0.out.c1
  clear hb
  go_wp2
  go_ret
  exact ⟨rfl, HB.out⟩
end Go.Proofs.Ytlhpbhmldcinmaa
