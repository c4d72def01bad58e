/- The weight of a State, and of a number of it: both sides. -/
import Derived.Test.YtdolonmjhlhkeabBound
namespace Go.Proofs.Ytdolonmjhlhkeab
open Go.RowKit Go.ChangeShapes Go.WideShapes
set_option linter.unusedVariables false

theorem row_insW {w : World} {g : Nat} {l : List Int} (h : w.heap[g]? = some (.cells (l.map (Value.int .i64)).toArray 3 (0, 0))) : Ins w g (g + 1) (some ⟨g, 0, none⟩) l :=
  ⟨Own.ints (.inr ⟨g, _, rfl, Nat.le_refl _, Nat.lt_succ_self _, h, by simp, fun j x hx => by simp [hx]⟩), row_ltI h⟩
/-- Whether a State and questions ahead are valid. -/
def wOK (zs : List Int) (m q : Int) : Bool := isSt zs m && inB q 0 30
theorem wOK_iff {zs : List Int} {m q : Int} : wOK zs m q = true ↔ isSt zs m = true ∧ 0 ≤ q ∧ q ≤ 30 := by simp [wOK, inB]
theorem wOK_no {zs : List Int} {m q : Int} (h : wOK zs m q = false) : isSt zs m = false ∨ (isSt zs m = true ∧ inB q 0 30 = false) := by
  unfold wOK at h
  cases h1 : isSt zs m with
  | false => exact .inl rfl
  | true => rw [h1, Bool.true_and] at h; exact .inr ⟨rfl, h⟩
set_option maxHeartbeats 2000000 in
theorem isWeighed_any (A : Option Addr) (c lo hi : Nat) (zs : List Int) (m q : Int) (w : World) (hS : Ins w lo hi A zs) (hn : zs.length ≤ 1048576) :
    Calls Try.prog 68 #[.agg #[.slice A zs.length c, .int .i64 m], .int .i64 q] w fun e w' => e = .returned (.bool (wOK zs m q)) ∧ Below w.heap.size w w' := by
  have HB := Lib.hid ((Below.refl w.heap.size w).alloc (Nat.le_refl _) (.cells #[.slice A zs.length c, .int .i64 m] 26))
  have HI := Lib.hid (hS.step HB.out)
  have HC := Lib.hid (fun W h => isState_impl A c lo hi zs m W h hn)
  have HD := Lib.hid (fun W => isAhead_any q W)
  unfold wOK
  generalize isSt zs m = x at HC ⊢
  generalize inB q 0 30 = y at HD ⊢
  clear hS
  cases x
  · go_enter Try.func68, Try.ntmps68
    go_wp2_with fail
    generalize w.alloc (.cells #[.slice A zs.length c, .int .i64 m] 26) = wa at HI HB ⊢
    refine (HC.out wa HI.out).mono ?_
    rintro e wb ⟨rfl, hb⟩
    replace HB := Lib.hid (below_trans HB.out hb)
    clear hb
    go_wp2
    go_ret
    exact ⟨rfl, HB.out⟩
  · go_enter Try.func68, Try.ntmps68
    go_wp2_with fail
    generalize w.alloc (.cells #[.slice A zs.length c, .int .i64 m] 26) = wa at HI HB ⊢
    refine (HC.out wa HI.out).mono ?_
    rintro e wb ⟨rfl, hb⟩
    replace HB := Lib.hid (below_trans HB.out hb)
    clear hb
    go_wp2_with fail
    refine (HD.out _).mono ?_
    rintro e w1 ⟨rfl, hw⟩
    have hw := hw.symm
    subst hw
    go_wp2
    go_ret
    exact ⟨rfl, HB.out⟩

set_option maxRecDepth 100000 in
set_option maxHeartbeats 4000000 in
theorem stateWeight_impl (A : Option Addr) (c lo hi : Nat) (zs : List Int) (M q : Nat) (w : World) (hS : Ins w lo hi A zs) (hst : isSt zs (M : Int) = true) (hq : q ≤ 30) :
    Calls Try.prog 10 #[.agg #[.slice A zs.length c, .int .i64 (M : Int)], .int .i64 (q : Int)] w fun e w' => e = .returned (.tuple #[.int .i64 (stW q M zs : Int), .bool true]) ∧ Below w.heap.size w w' := by
  have hl := isSt_len hst
  have HT := Lib.hid (Two.new w (.slice A zs.length c) (.int .i64 (M : Int)) 26 w.heap.size rfl)
  have HB := Lib.hid ((Below.refl w.heap.size w).alloc (Nat.le_refl _) (.cells #[.slice A zs.length c, .int .i64 (M : Int)] 26))
  have HI := Lib.hid (hS.step HB.out)
  have HC := Lib.hid (fun W h => isWeighed_any A c lo hi zs (M : Int) (q : Int) W h (by omega))
  rw [wOK_iff.2 ⟨hst, by omega, by omega⟩] at HC
  have HWT := Lib.hid (fun W => weightsOf_impl M q (by omega) hq W)
  have HSW := Lib.hid (fun Aw cw low hiw W h1 h2 => sumOfWeights_any Aw cw low hiw A c lo hi zs M q W h1 h2 hst hq)
  clear hS hst hl
  go_enter Try.func10, Try.ntmps10
  go_wp2_with fail
  generalize w.alloc (.cells #[.slice A zs.length c, .int .i64 (M : Int)] 26) = wa at HT HI HB ⊢
  refine (HC.out wa HI.out).mono ?_
  rintro e wb ⟨rfl, hb⟩
  replace HT := Lib.hid (HT.out.step hb)
  replace HI := Lib.hid (HI.out.step hb)
  replace HB := Lib.hid (below_trans HB.out hb)
  clear hb HC
  have h0 := HT.out.c0
  have h1 := HT.out.c1
  go_wp2_with fail
  go_region_with (first | (go_at_call 71; refine (HWT.out wb.drew).mono ?_; rintro e wc ⟨g, rfl, hg, hr, hb⟩; have hb' := below_trans ((Below.refl _ wb).drew) hb; have k0 := (HT.out.step hb').c0; have k1 := (HT.out.step hb').c1; have HR := Lib.hid (row_insW hr); have HI2 := Lib.hid (HI.out.step hb'); have HB2 := Lib.hid (below_trans HB.out hb'); clear hb hb' hr) | (go_at_call 76; refine (HSW.out _ _ _ _ _ HR.out HI2.out).mono ?_; rintro e wd ⟨rfl, hb⟩; have HB3 := Lib.hid (below_trans HB2.out hb); clear hb))
  all_goals
    go_wp2
    go_ret2
    exact ⟨rfl, HB3.out⟩
theorem stateWeight_no (A : Option Addr) (c lo hi : Nat) (zs : List Int) (m q : Int) (w : World) (hS : Ins w lo hi A zs) (hn : zs.length ≤ 1048576) (h : wOK zs m q = false) :
    Calls Try.prog 10 #[.agg #[.slice A zs.length c, .int .i64 m], .int .i64 q] w fun e w' => e = .returned (.tuple #[.int .i64 0, .bool false]) ∧ Below w.heap.size w w' := by
  have HB := Lib.hid ((Below.refl w.heap.size w).alloc (Nat.le_refl _) (.cells #[.slice A zs.length c, .int .i64 m] 26))
  have HI := Lib.hid (hS.step HB.out)
  have HC := Lib.hid (fun W h => isWeighed_any A c lo hi zs m q W h hn)
  rw [h] at HC
  clear hS h
  go_enter Try.func10, Try.ntmps10
  go_wp2_with fail
  generalize w.alloc (.cells #[.slice A zs.length c, .int .i64 m] 26) = wa at HI HB ⊢
  refine (HC.out wa HI.out).mono ?_
  rintro e wb ⟨rfl, hb⟩
  replace HB := Lib.hid (below_trans HB.out hb)
  clear hb HC
  go_wp2
  go_ret2
  exact ⟨rfl, HB.out⟩
end Go.Proofs.Ytdolonmjhlhkeab
