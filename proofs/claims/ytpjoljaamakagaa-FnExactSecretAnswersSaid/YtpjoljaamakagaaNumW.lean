/- NumberWeight: both sides. -/
import Derived.Test.YtpjoljaamakagaaRoom
namespace Go.Proofs.Ytpjoljaamakagaa
open Go.RowKit Go.ChangeShapes Go.WideShapes
set_option linter.unusedVariables false

theorem isNumber_any (n k : Int) (w : World) :
    Calls Try.prog 133 #[.int .i64 n, .int .i64 k] w fun e w' => e = .returned (.bool (inB n 1 12 && inB k 0 (n - 1))) ∧ w' = w := by
  have HC := Lib.hid (fun W => isSize_any n W)
  cases hn : inB n 1 12 with
  | false =>
    rw [hn] at HC
    rw [Bool.false_and]
    clear hn
    go_enter Try.func133, Try.ntmps133
    go_wp2_with (go_at_call 65; refine (HC.out _).mono ?_; rintro e w1 ⟨rfl, rfl⟩)
    go_ret
    exact ⟨rfl, rfl⟩
  | true =>
    rw [hn] at HC
    rw [Bool.true_and]
    clear hn
    by_cases h1 : 0 ≤ k
    · by_cases h2 : k < n
      · rw [inB_t h1 (by omega)]
        go_enter Try.func133, Try.ntmps133
        go_wp2_with (go_at_call 65; refine (HC.out _).mono ?_; rintro e w1 ⟨rfl, rfl⟩)
        go_ret
        exact ⟨rfl, rfl⟩
      · rw [inB_f2 (by omega)]
        go_enter Try.func133, Try.ntmps133
        go_wp2_with (go_at_call 65; refine (HC.out _).mono ?_; rintro e w1 ⟨rfl, rfl⟩)
        go_ret
        exact ⟨by simp [h2], rfl⟩
    · rw [inB_f1 h1]
      go_enter Try.func133, Try.ntmps133
      go_wp2_with (go_at_call 65; refine (HC.out _).mono ?_; rintro e w1 ⟨rfl, rfl⟩)
      go_ret
      exact ⟨rfl, rfl⟩

set_option maxRecDepth 100000 in
set_option maxHeartbeats 4000000 in
theorem numberWeight_impl (A : Option Addr) (c lo hi : Nat) (zs : List Int) (M k q : Nat) (w : World) (hS : Ins w lo hi A zs) (hst : isSt zs (M : Int) = true) (hk : k < zs.length) (hq : q ≤ 30) :
    Calls Try.prog 93 #[.agg #[.slice A zs.length c, .int .i64 (M : Int)], .int .i64 (k : Int), .int .i64 (q : Int)] w fun e w' => e = .returned (.tuple #[.int .i64 (numW q M zs[k] : Int), .bool true]) ∧ Below w.heap.size w w' := by
  have hl := isSt_len hst
  have HT := Lib.hid (Two.new w (.slice A zs.length c) (.int .i64 (M : Int)) 35 w.heap.size rfl)
  have HB := Lib.hid ((Below.refl w.heap.size w).alloc (Nat.le_refl _) (.cells #[.slice A zs.length c, .int .i64 (M : Int)] 35))
  have HI := Lib.hid (hS.step HB.out)
  have HC := Lib.hid (fun W h => isWeighed_any A c lo hi zs (M : Int) (q : Int) W h (by omega))
  rw [wOK_iff.2 ⟨hst, by omega, by omega⟩] at HC
  have HN := Lib.hid (fun W => isNumber_any (zs.length : Int) (k : Int) W)
  rw [inB_t (x := (zs.length : Int)) (a := 1) (b := 12) (by omega) (by omega), inB_t (x := (k : Int)) (a := 0) (b := (zs.length : Int) - 1) (by omega) (by omega)] at HN
  have HWT := Lib.hid (fun W => weightsOf_impl M q (by omega) hq W)
  have hat := isSt_at hst hk
  have HSW := Lib.hid (fun Aw cw low hiw W h1 => weightByLies_any Aw cw low hiw M q zs[k] W h1 hat)
  clear hS hst hl
  go_enter Try.func93, Try.ntmps93
  go_wp2_with fail
  generalize w.alloc (.cells #[.slice A zs.length c, .int .i64 (M : Int)] 35) = wa at HT HI HB ⊢
  refine (HC.out wa HI.out).mono ?_
  rintro e wb ⟨rfl, hb⟩
  replace HT := Lib.hid (HT.out.step hb)
  replace HI := Lib.hid (HI.out.step hb)
  replace HB := Lib.hid (below_trans HB.out hb)
  clear hb HC
  have h0 := HT.out.c0
  have h1 := HT.out.c1
  go_wp2_with fail
  refine (HN.out _).mono ?_
  rintro e w1 ⟨rfl, hw⟩
  have hw := hw.symm
  subst hw
  obtain ⟨b, o, rfl, _, hb, hc⟩ := HI.out.ints.at_ hk
  have htop := HI.out.top
  have hbw : b < wb.heap.size := by omega
  generalize hz : zs[k] = z at HSW hc hat
  have HZ := Lib.hid hz
  clear hz
  go_wp2_with fail
  go_region_with (first | (go_at_call 135; refine (HWT.out wb.drew).mono ?_; rintro e wc ⟨g, rfl, hg, hr, hb9⟩; have hb' := below_trans ((Below.refl _ wb).drew) hb9; have k0 := (HT.out.step hb').c0; have k1 := (HT.out.step hb').c1; have kc := (hb'.cell (p := ⟨b, o + k, none⟩) hbw).trans hc; have HR := Lib.hid (row_insW hr); have HB2 := Lib.hid (below_trans HB.out hb'); clear hb9 hb' hr) | (go_at_call 134; refine (HSW.out _ _ _ _ _ HR.out).mono ?_; rintro e wd ⟨rfl, hw9⟩; have hw9 := hw9.symm; subst hw9))
  all_goals
    go_wp2
    go_ret2
    rw [HZ.out]
    exact ⟨rfl, HB2.out⟩

/-- Whether a State, a number of it and questions ahead are valid. -/
def nOK (zs : List Int) (m k q : Int) : Bool := wOK zs m q && inB k 0 ((zs.length : Int) - 1)
set_option maxHeartbeats 4000000 in
theorem numberWeight_no (A : Option Addr) (c lo hi : Nat) (zs : List Int) (m k q : Int) (w : World) (hS : Ins w lo hi A zs) (hn : zs.length ≤ 1048576) (h : nOK zs m k q = false) :
    Calls Try.prog 93 #[.agg #[.slice A zs.length c, .int .i64 m], .int .i64 k, .int .i64 q] w fun e w' => e = .returned (.tuple #[.int .i64 0, .bool false]) ∧ Below w.heap.size w w' := by
  have HT := Lib.hid (Two.new w (.slice A zs.length c) (.int .i64 m) 35 w.heap.size rfl)
  have HB := Lib.hid ((Below.refl w.heap.size w).alloc (Nat.le_refl _) (.cells #[.slice A zs.length c, .int .i64 m] 35))
  have HI := Lib.hid (hS.step HB.out)
  have HC := Lib.hid (fun W h => isWeighed_any A c lo hi zs m q W h hn)
  have HN := Lib.hid (fun W => isNumber_any (zs.length : Int) k W)
  clear hS
  cases hw : wOK zs m q with
  | false =>
    rw [hw] at HC
    clear h hw
    go_enter Try.func93, Try.ntmps93
    go_wp2_with fail
    generalize w.alloc (.cells #[.slice A zs.length c, .int .i64 m] 35) = wa at HT HI HB ⊢
    refine (HC.out wa HI.out).mono ?_
    rintro e wb ⟨rfl, hb⟩
    replace HB := Lib.hid (below_trans HB.out hb)
    clear hb HC
    go_wp2
    go_ret2
    exact ⟨rfl, HB.out⟩
  | true =>
    have hk : inB k 0 ((zs.length : Int) - 1) = false := by simpa [nOK, hw] using h
    rw [hk, Bool.and_false] at HN
    rw [hw] at HC
    clear h hw hk
    go_enter Try.func93, Try.ntmps93
    go_wp2_with fail
    generalize w.alloc (.cells #[.slice A zs.length c, .int .i64 m] 35) = wa at HT HI HB ⊢
    refine (HC.out wa HI.out).mono ?_
    rintro e wb ⟨rfl, hb⟩
    replace HT := Lib.hid (HT.out.step hb)
    replace HB := Lib.hid (below_trans HB.out hb)
    clear hb HC
    have h0 := HT.out.c0
    have h1 := HT.out.c1
    go_wp2_with fail
    refine (HN.out _).mono ?_
    rintro e w1 ⟨rfl, hw⟩
    have hw := hw.symm
    subst hw
    go_wp2
    go_ret2
    exact ⟨rfl, HB.out⟩
end Go.Proofs.Ytpjoljaamakagaa
