/- ToldNumber of the program, by its open numbers. -/
import Derived.Test.YtnomgnjfamideabL6y
import Derived.Test.YtnomgnjfamideabTold
namespace Go.Proofs.Ytnomgnjfamideab
open Go.RowKit Go.ChangeShapes Go.WideShapes
set_option linter.unusedVariables false

theorem told_one (A : Option Addr) (c lo hi : Nat) (zs : List Int) (m x : Int) (w : World) (hS : Ins w lo hi A zs) (hst : isSt zs m = true) (hx : opens zs = [x]) :
    Calls Try.prog 53 #[.agg #[.slice A zs.length c, .int .i64 m]] w fun e w' => e = .returned (.tuple #[.int .i64 x, .bool true]) ∧ Below w.heap.size w w' := by
  have HX0 := Lib.hid (Arg.next (Below.refl w.heap.size w) (.slice A zs.length c) (.int .i64 m) 44 w.heap.size rfl)
  have HI0 := Lib.hid (hS.step HX0.out.below)
  clear hS
  go_enter Try.func53, Try.ntmps53
  go_wp2_with fail
  generalize w.alloc (.cells #[.slice A zs.length c, .int .i64 m] 44) = wa at HX0 HI0 ⊢
  refine (openNumbers_impl A c lo hi zs m wa HI0.out hst).mono ?_
  rintro e wb ⟨v, rfl, ho, hb⟩
  have HB := Lib.hid (below_trans HX0.out.below hb)
  obtain ⟨B, c', rfl, _, hr⟩ := own_res ho rfl
  rw [hx] at hr ⊢
  obtain ⟨g, rfl, hc⟩ := told_cell (c := 0) hr
  clear hb HX0 HI0 ho hr hx hst
  go_wp2
  go_ret2
  exact ⟨rfl, HB.out⟩
theorem told_none (A : Option Addr) (c lo hi : Nat) (zs : List Int) (m : Int) (w : World) (hS : Ins w lo hi A zs) (hst : isSt zs m = true) (h1 : (opens zs).length ≠ 1) :
    Calls Try.prog 53 #[.agg #[.slice A zs.length c, .int .i64 m]] w fun e w' => e = .returned (.tuple #[.int .i64 0, .bool false]) ∧ Below w.heap.size w w' := by
  have HX0 := Lib.hid (Arg.next (Below.refl w.heap.size w) (.slice A zs.length c) (.int .i64 m) 44 w.heap.size rfl)
  have HI0 := Lib.hid (hS.step HX0.out.below)
  have h1' : ¬ ((opens zs).length : Int) = 1 := by omega
  clear hS
  go_enter Try.func53, Try.ntmps53
  go_wp2_with fail
  generalize w.alloc (.cells #[.slice A zs.length c, .int .i64 m] 44) = wa at HX0 HI0 ⊢
  refine (openNumbers_impl A c lo hi zs m wa HI0.out hst).mono ?_
  rintro e wb ⟨v, rfl, ho, hb⟩
  have HB := Lib.hid (below_trans HX0.out.below hb)
  obtain ⟨B, c', rfl, _, hr⟩ := own_res ho rfl
  clear hb HX0 HI0 ho hr hst
  go_wp2
  go_ret2
  exact ⟨rfl, HB.out⟩
end Go.Proofs.Ytnomgnjfamideab
