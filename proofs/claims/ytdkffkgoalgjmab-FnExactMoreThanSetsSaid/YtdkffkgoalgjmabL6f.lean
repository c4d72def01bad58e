/- UsefulLess, OpenSpan, LessQuestion: both. -/
import Derived.Test.YtdkffkgoalgjmabL6b
import Derived.Test.YtdkffkgoalgjmabL6R
namespace Go.Proofs.Ytdkffkgoalgjmab
open Go.RowKit Go.ChangeShapes Go.WideShapes
set_option linter.unusedVariables false

theorem opens_get {zs : List Int} {i : Nat} (h : i < (opens zs).length) : (opens zs)[i] = (((opens zs).getD i 0).toNat : Int) := by
  have := opens_lt (List.getElem_mem h)
  simp [List.getD, h]
  omega
theorem low_get {zs : List Int} (h : 0 < (opens zs).length) : (opens zs)[0] = (lowN zs : Int) := opens_get h
theorem high_get {zs : List Int} (h : 0 < (opens zs).length) : (opens zs)[(opens zs).length - 1]'(by omega) = (highN zs : Int) := opens_get _

set_option maxRecDepth 100000 in
set_option maxHeartbeats 2000000 in
theorem openSpan_impl_bad (A : Option Addr) (c lo hi : Nat) (zs : List Int) (m : Int) (w : World) (hS : Ins w lo hi A zs) (hn : zs.length ≤ 1048576) (hst : isSt zs m = false) :
    Calls Try.prog 145 #[.agg #[.slice A zs.length c, .int .i64 m]] w fun e w' => e = .returned (.tuple #[.int .i64 0, .int .i64 0, .bool false]) ∧ Below w.heap.size w w' := by
  have HX := Lib.hid (Arg.next (Below.refl w.heap.size w) (.slice A zs.length c) (.int .i64 m) 36 w.heap.size rfl)
  have HI := Lib.hid (hS.step HX.out.below)
  clear hS
  go_enter Try.func145, Try.ntmps145
  go_wp2_with fail
  generalize w.alloc (.cells #[.slice A zs.length c, .int .i64 m] 36) = w0 at HX HI ⊢
  have h0 := HX.out.c0
  have h1 := HX.out.c1
  refine (openNumbers_no A c lo hi zs m w0 HI.out hn hst).mono ?_
  rintro e w1 ⟨B, rfl, _, hb⟩
  replace HX := Lib.hid (HX.out.step hb)
  replace HI := Lib.hid (HI.out.step hb)
  replace h0 := HX.out.c0
  replace h1 := HX.out.c1
  clear hb
  go_wp2
  go_ret3
  exact ⟨rfl, HX.out.below⟩
set_option maxRecDepth 100000 in
set_option maxHeartbeats 2000000 in
theorem openSpan_impl_long (A : Option Addr) (c lo hi : Nat) (zs : List Int) (m : Int) (w : World) (hS : Ins w lo hi A zs) (hst : isSt zs m = true) (hsh : shortB zs m = false) :
    Calls Try.prog 145 #[.agg #[.slice A zs.length c, .int .i64 m]] w fun e w' => e = .returned (.tuple #[.int .i64 0, .int .i64 0, .bool false]) ∧ Below w.heap.size w w' := by
  have hl := isSt_len hst
  have HH := Lib.hid (fun W h => isShort_any A c lo hi zs m W h (by omega))
  rw [hsh] at HH
  have HX := Lib.hid (Arg.next (Below.refl w.heap.size w) (.slice A zs.length c) (.int .i64 m) 36 w.heap.size rfl)
  have HI := Lib.hid (hS.step HX.out.below)
  clear hS
  go_enter Try.func145, Try.ntmps145
  go_wp2_with fail
  generalize w.alloc (.cells #[.slice A zs.length c, .int .i64 m] 36) = w0 at HX HI ⊢
  have h0 := HX.out.c0
  have h1 := HX.out.c1
  refine (openNumbers_impl A c lo hi zs m w0 HI.out hst).mono ?_
  rintro e w1 ⟨v, rfl, ho, hb⟩
  replace HX := Lib.hid (HX.out.step hb)
  replace HI := Lib.hid (HI.out.step hb)
  replace h0 := HX.out.c0
  replace h1 := HX.out.c1
  clear ho
  clear hb
  go_wp2_with fail
  refine (HH.out w1 HI.out).mono ?_
  rintro e w2 ⟨rfl, hb⟩
  replace HX := Lib.hid (HX.out.step hb)
  replace HI := Lib.hid (HI.out.step hb)
  replace h0 := HX.out.c0
  replace h1 := HX.out.c1
  clear hb
  go_wp2
  go_ret3
  exact ⟨rfl, HX.out.below⟩
set_option maxRecDepth 100000 in
set_option maxHeartbeats 2000000 in
theorem openSpan_impl_none (A : Option Addr) (c lo hi : Nat) (zs : List Int) (m : Int) (w : World) (hS : Ins w lo hi A zs) (hst : isSt zs m = true) (hsh : shortB zs m = true) (h0 : (opens zs).length = 0) :
    Calls Try.prog 145 #[.agg #[.slice A zs.length c, .int .i64 m]] w fun e w' => e = .returned (.tuple #[.int .i64 0, .int .i64 0, .bool false]) ∧ Below w.heap.size w w' := by
  have hl := isSt_len hst
  have HH := Lib.hid (fun W h => isShort_any A c lo hi zs m W h (by omega))
  rw [hsh] at HH
  have H0 := Lib.hid h0
  clear h0
  have HX := Lib.hid (Arg.next (Below.refl w.heap.size w) (.slice A zs.length c) (.int .i64 m) 36 w.heap.size rfl)
  have HI := Lib.hid (hS.step HX.out.below)
  clear hS
  go_enter Try.func145, Try.ntmps145
  go_wp2_with fail
  generalize w.alloc (.cells #[.slice A zs.length c, .int .i64 m] 36) = w0 at HX HI ⊢
  have h0 := HX.out.c0
  have h1 := HX.out.c1
  refine (openNumbers_impl A c lo hi zs m w0 HI.out hst).mono ?_
  rintro e w1 ⟨v, rfl, ho, hb⟩
  replace HX := Lib.hid (HX.out.step hb)
  replace HI := Lib.hid (HI.out.step hb)
  replace h0 := HX.out.c0
  replace h1 := HX.out.c1
  obtain ⟨B, c', rfl, _, _⟩ := own_res ho rfl
  clear ho
  rw [H0.out]
  clear hb
  go_wp2_with fail
  refine (HH.out w1 HI.out).mono ?_
  rintro e w2 ⟨rfl, hb⟩
  replace HX := Lib.hid (HX.out.step hb)
  replace HI := Lib.hid (HI.out.step hb)
  replace h0 := HX.out.c0
  replace h1 := HX.out.c1
  clear hb
  go_wp2
  go_ret3
  exact ⟨rfl, HX.out.below⟩
set_option maxRecDepth 100000 in
set_option maxHeartbeats 2000000 in
theorem openSpan_impl_yes (A : Option Addr) (c lo hi : Nat) (zs : List Int) (m : Int) (w : World) (hS : Ins w lo hi A zs) (hst : isSt zs m = true) (hsh : shortB zs m = true) (hpos : 0 < (opens zs).length) :
    Calls Try.prog 145 #[.agg #[.slice A zs.length c, .int .i64 m]] w fun e w' => e = .returned (.tuple #[.int .i64 (lowN zs : Int), .int .i64 (highN zs : Int), .bool true]) ∧ Below w.heap.size w w' := by
  have hl := isSt_len hst
  have hol := opens_len zs
  have HH := Lib.hid (fun W h => isShort_any A c lo hi zs m W h (by omega))
  rw [hsh] at HH
  have HL := Lib.hid (low_get hpos)
  have HG := Lib.hid (high_get hpos)
  have HX := Lib.hid (Arg.next (Below.refl w.heap.size w) (.slice A zs.length c) (.int .i64 m) 36 w.heap.size rfl)
  have HI := Lib.hid (hS.step HX.out.below)
  clear hS
  go_enter Try.func145, Try.ntmps145
  go_wp2_with fail
  generalize w.alloc (.cells #[.slice A zs.length c, .int .i64 m] 36) = w0 at HX HI ⊢
  have h0 := HX.out.c0
  have h1 := HX.out.c1
  refine (openNumbers_impl A c lo hi zs m w0 HI.out hst).mono ?_
  rintro e w1 ⟨v, rfl, ho, hb⟩
  replace HX := Lib.hid (HX.out.step hb)
  replace HI := Lib.hid (HI.out.step hb)
  replace h0 := HX.out.c0
  replace h1 := HX.out.c1
  obtain ⟨B, c', rfl, _, hr⟩ := own_res ho rfl
  have HR := Lib.hid hr.ins
  clear ho hr
  clear hb
  go_wp2_with fail
  refine (HH.out w1 HI.out).mono ?_
  rintro e w2 ⟨rfl, hb⟩
  replace HX := Lib.hid (HX.out.step hb)
  replace HI := Lib.hid (HI.out.step hb)
  replace HR := Lib.hid (HR.out.step hb)
  replace h0 := HX.out.c0
  replace h1 := HX.out.c1
  clear hb
  obtain ⟨b, o1, hA, _, hbb, hc1⟩ := HR.out.ints.at_ (k := 0) hpos
  subst hA
  obtain ⟨b2, o2, hA2, _, hbb2, hc2⟩ := HR.out.ints.at_ (k := (opens zs).length - 1) (by omega)
  injection hA2 with hA2
  injection hA2 with e1 e2
  subst e1 e2
  rw [HL.out] at hc1
  rw [HG.out] at hc2
  have htop := HR.out.top
  have hbw : b < w2.heap.size := by omega
  clear HL HG HR
  have hll : (0 : Int) < ((opens zs).length : Int) := by omega
  obtain ⟨p, hp⟩ : ∃ p : Nat, (opens zs).length = p + 1 := ⟨(opens zs).length - 1, by omega⟩
  rw [hp, Nat.add_sub_cancel] at hc2
  rw [hp] at hll hol hpos ⊢
  clear hp
  have hp1 : (((p + 1 : Nat) : Int) - 1) = (p : Int) := by omega
  have hp2 : IntKind.i64.wrap (((p + 1 : Nat) : Int) - 1) = (p : Int) := by rw [IntWalk.i64_in _ (by omega)]; exact hp1
  rw [Nat.add_zero] at hc1
  go_wp2_with fail
  go_quiet (fail)
  go_wp2
  go_ret3
  exact ⟨rfl, below_drewN HX.out.below _⟩
end Go.Proofs.Ytdkffkgoalgjmab
