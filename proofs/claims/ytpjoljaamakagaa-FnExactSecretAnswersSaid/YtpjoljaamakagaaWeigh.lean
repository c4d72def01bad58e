/- The weight of a State, and of a number of it: both sides. -/
import Derived.Test.YtpjoljaamakagaaBound
namespace Go.Proofs.Ytpjoljaamakagaa
open Go.RowKit Go.ChangeShapes Go.WideShapes
set_option linter.unusedVariables false

theorem row_insW {w : World} {g : Nat} {l : List Int} (h : w.heap[g]? = some (.cells (l.map (Value.int .i64)).toArray 3 (0, 0))) : Ins w g (g + 1) (some ⟨g, 0, none⟩) l :=
  ⟨Own.ints (.inr ⟨g, _, rfl, Nat.le_refl _, Nat.lt_succ_self _, h, by simp, fun j x hx => by simp [hx]⟩), row_ltI h⟩
/-- Whether a State and questions ahead are valid. -/
def wOK (zs : List Int) (m q : Int) : Bool := isSt zs m && inB q 0 30
theorem wOK_iff {zs : List Int} {m q : Int} : wOK zs m q = true ↔ isSt zs m = true ∧ 0 ≤ q ∧ q ≤ 30 := by simp [wOK, inB]
theorem wOK_no {zs : List Int} {m q : Int} (h : wOK zs m q = false) : isSt zs m = false ∨ (isSt zs m = true ∧ inB q 0 30 = false) := by
  unfold wOK at h
  cases h1 : isSt zs m with
  | false => exact .inl rfl
  | true => rw [h1, Bool.true_and] at h; exact .inr ⟨rfl, h⟩
set_option maxHeartbeats 2000000 in
theorem isWeighed_any (A : Option Addr) (c lo hi : Nat) (zs : List Int) (m q : Int) (w : World) (hS : Ins w lo hi A zs) (hn : zs.length ≤ 1048576) :
    Calls Try.prog 132 #[.agg #[.slice A zs.length c, .int .i64 m], .int .i64 q] w fun e w' => e = .returned (.bool (wOK zs m q)) ∧ Below w.heap.size w w' := by
  have HB := Lib.hid ((Below.refl w.heap.size w).alloc (Nat.le_refl _) (.cells #[.slice A zs.length c, .int .i64 m] 35))
  have HI := Lib.hid (hS.step HB.out)
  have HC := Lib.hid (fun W h => isState_impl A c lo hi zs m W h hn)
  have HD := Lib.hid (fun W => isAhead_any q W)
  unfold wOK
  generalize isSt zs m = x at HC ⊢
  generalize inB q 0 30 = y at HD ⊢
  clear hS
  cases x
  · go_enter Try.func132, Try.ntmps132
    go_wp2_with fail
    generalize w.alloc (.cells #[.slice A zs.length c, .int .i64 m] 35) = wa at HI HB ⊢
    refine (HC.out wa HI.out).mono ?_
    rintro e wb ⟨rfl, hb⟩
    replace HB := Lib.hid (below_trans HB.out hb)
    clear hb
    go_wp2
    go_ret
    exact ⟨rfl, HB.out⟩
  · go_enter Try.func132, Try.ntmps132
    go_wp2_with fail
    generalize w.alloc (.cells #[.slice A zs.length c, .int .i64 m] 35) = wa at HI HB ⊢
    refine (HC.out wa HI.out).mono ?_
    rintro e wb ⟨rfl, hb⟩
    replace HB := Lib.hid (below_trans HB.out hb)
    clear hb
    go_wp2_with fail
    refine (HD.out _).mono ?_
    rintro e w1 ⟨rfl, hw⟩
    have hw := hw.symm
    subst hw
    go_wp2
    go_ret
    exact ⟨rfl, HB.out⟩

end Go.Proofs.Ytpjoljaamakagaa
