/- The text of a state, as the specification has it; both. -/
import Derived.Test.YtkdhmhbabbeokabSTx
namespace Go.Proofs.Ytkdhmhbabbeokab
open Go.RowKit Go.ChangeShapes Go.WideShapes
set_option linter.unusedVariables false

/-- The text of signs. -/
def strOf (l : List UInt8) : ByteArray := ⟨l.toArray⟩
theorem strOf_app (a b : List UInt8) : strOf a ++ strOf b = strOf (a ++ b) := by
  apply ByteArray.ext
  simp [strOf]
theorem strOf_size (a : List UInt8) : (strOf a).size = a.length := rfl

set_option maxHeartbeats 1000000 in
theorem l1Num_digit (d : Int) (w : World) (h0 : 0 ≤ d) (hd : d ≤ 2) :
    Calls Try.prog 53 #[.int .i64 d] w fun e w' => e = .returned (.string (strOf [signOf d])) ∧ w' = w := by
  obtain rfl | rfl | rfl : d = 0 ∨ d = 1 ∨ d = 2 := by omega
  all_goals
    go_enter Try.func53, Try.ntmps53
    go_wp2
    go_ret
    exact ⟨rfl, rfl⟩

set_option maxRecDepth 100000 in
set_option maxHeartbeats 4000000 in
theorem l2Text_any (A : Option Addr) (c lo hi : Nat) (zs : List Int) (m : Int) (w : World) (hS : Ins w lo hi A zs) (hn : zs.length ≤ 12) (hm : 0 ≤ m ∧ m ≤ 2) (hz : ∀ (j : Nat) (h : j < zs.length), -1 ≤ zs[j] ∧ zs[j] ≤ 2) :
    Calls Try.prog 42 #[.agg #[.slice A zs.length c, .int .i64 m]] w fun e w' => e = .returned (.string (strOf (textTo zs m zs.length))) ∧ Below w.heap.size w w' := by
  have HX0 := Lib.hid (Arg.next (Below.refl w.heap.size w) (.slice A zs.length c) (.int .i64 m) 37 w.heap.size rfl)
  have HI0 := Lib.hid (hS.step HX0.out.below)
  have HM := Lib.hid (fun W => l1Num_digit m W hm.1 hm.2)
  have HZ := Lib.hid hz
  clear hS hz hm
  go_enter Try.func42, Try.ntmps42
  have hx0 := HX0.out.c0
  have hx1 := HX0.out.c1
  go_wp2_with (go_at_call 53; refine (HM.out _).mono ?_; rintro e w1 ⟨rfl, rfl⟩)
  go_loopw [3, 4] (fun t i wr => ∃ k : Nat, k ≤ zs.length ∧ i = .int .i64 k ∧ t = .string (strOf (textTo zs m k)) ∧ wr = w.alloc (.cells #[.slice A zs.length c, .int .i64 m] 37)) (fun _ i _ => zs.length - (intOf i).toNat)
  case atStart => exact ⟨0, Nat.zero_le _, rfl, congrArg Value.string (strOf_app [signOf m] [58]), rfl⟩
  case round =>
    obtain ⟨k, hk, rfl, rfl, rfl⟩ := hrel
    by_cases hlt : k < zs.length
    · obtain ⟨b, o, rfl, _, hb, hc⟩ := HI0.out.ints.at_ hlt
      have HT := Lib.hid (textTo_next (m := m) hlt)
      have HLL : (strOf [signOf zs[k]]).size = 1 := rfl
      have HL : (strOf (textTo zs m k)).size ≤ 20 := by rw [strOf_size]; have := textTo_len (zs := zs) (m := m) (k := k); omega
      have hxb := HZ.out k hlt
      generalize zs[k] = x at hc HT hxb HLL
      generalize textTo zs m k = l at HT HL
      by_cases hx : x = -1
      · subst hx
        go_wp2
        go_roundw
        case rel => exact ⟨k + 1, by omega, by go_num, (by rw [HT.out]; exact congrArg Value.string (strOf_app l [45])), trivial⟩
        case measure => simp [intOf]; omega
      · have hx1 : 0 ≤ x := by omega
        have hx2 : x ≤ 2 := by omega
        have HD := Lib.hid (fun W => l1Num_digit x W hx1 hx2)
        clear hxb hx
        go_wp2_with (go_at_call 53; refine (HD.out _).mono ?_; rintro e w4 ⟨rfl, rfl⟩)
        go_roundw
        case rel => exact ⟨k + 1, by omega, by go_num, (by rw [HT.out]; exact congrArg Value.string (strOf_app l [signOf x])), trivial⟩
        case measure => simp [intOf]; omega
    · obtain rfl : k = zs.length := by omega
      go_wp2
      go_ret
      exact ⟨rfl, HX0.out.below⟩

theorem isSt_in {zs : List Int} {m : Int} (h : isSt zs m = true) : zs.length ≤ 12 ∧ (0 ≤ m ∧ m ≤ 2) ∧ ∀ (j : Nat) (hj : j < zs.length), -1 ≤ zs[j] ∧ zs[j] ≤ 2 := by
  simp only [isSt, Bool.and_eq_true, List.all_eq_true] at h
  obtain ⟨⟨h1, h2⟩, h3⟩ := h
  have hl := inB_iff.1 h1
  have hm := inB_iff.1 h2
  refine ⟨by omega, hm, fun j hj => ?_⟩
  have hx := inB_iff.1 (h3 zs[j] (List.getElem_mem hj))
  omega

set_option maxHeartbeats 4000000 in
theorem stateText_both (zs : List Int) (m : Int) (h : zs.length ≤ 1048576) : ∃ (r0 : ByteArray) (r1 : Bool), r0.size ≤ 1048576 ∧
    (∀ (w : World) (B : Option Addr) (c lo hi : Nat), Ins w lo hi B zs → Calls Try.prog 25 #[.agg #[.slice B zs.length c, .int .i64 m]] w fun e w' => e = .returned (.tuple #[.string r0, .bool r1]) ∧ Below w.heap.size w w') ∧
    (∀ (w : World) (B : Option Addr) (c lo hi : Nat), Ins w lo hi B zs → Calls Try.prog 24 #[.agg #[.slice B zs.length c, .int .i64 m]] w fun e w' => e = .returned (.tuple #[.string r0, .bool r1]) ∧ Below w.heap.size w w') := by
  cases hst : isSt zs m with
  | false =>
    refine ⟨⟨#[]⟩, false, by decide, fun w A c lo hi hS => ?_, fun w A c lo hi hS => ?_⟩
    · have HX0 := Lib.hid (Arg.next (Below.refl w.heap.size w) (.slice A zs.length c) (.int .i64 m) 37 w.heap.size rfl)
      have HI0 := Lib.hid (hS.step HX0.out.below)
      have HC := Lib.hid (fun W h' => isState_impl A c lo hi zs m W h' h)
      rw [hst] at HC
      clear hS
      go_enter Try.func25, Try.ntmps25
      go_wp2_with fail
      generalize w.alloc (.cells #[.slice A zs.length c, .int .i64 m] 37) = wa at HX0 HI0 ⊢
      refine (HC.out wa HI0.out).mono ?_
      rintro e wb ⟨rfl, hb⟩
      have HB := Lib.hid (below_trans HX0.out.below hb)
      clear hb HX0 HI0
      go_wp2
      go_ret2
      exact ⟨rfl, HB.out⟩
    · have HX0 := Lib.hid (Arg.next (Below.refl w.heap.size w) (.slice A zs.length c) (.int .i64 m) 37 w.heap.size rfl)
      have HI0 := Lib.hid (hS.step HX0.out.below)
      have HC := Lib.hid (fun W h' => l2State_any A c lo hi zs m W h' h)
      rw [hst] at HC
      clear hS
      go_enter Try.func24, Try.ntmps24
      go_wp2_with fail
      generalize w.alloc (.cells #[.slice A zs.length c, .int .i64 m] 37) = wa at HX0 HI0 ⊢
      refine (HC.out wa HI0.out).mono ?_
      rintro e wb ⟨rfl, hb⟩
      have HB := Lib.hid (below_trans HX0.out.below hb)
      clear hb HX0 HI0
      go_wp2
      go_ret2
      exact ⟨rfl, HB.out⟩
  | true =>
    obtain ⟨hl, hm, hz⟩ := isSt_in hst
    refine ⟨strOf (textTo zs m zs.length), true, by rw [strOf_size]; have := textTo_len (zs := zs) (m := m) (k := zs.length); omega, fun w A c lo hi hS => stateText_impl A c lo hi zs m w hS hl hm hz hst, fun w A c lo hi hS => ?_⟩
    have HX0 := Lib.hid (Arg.next (Below.refl w.heap.size w) (.slice A zs.length c) (.int .i64 m) 37 w.heap.size rfl)
    have HI0 := Lib.hid (hS.step HX0.out.below)
    have HC := Lib.hid (fun W h' => l2State_any A c lo hi zs m W h' h)
    have HT := Lib.hid (fun W h' => l2Text_any A c lo hi zs m W h' hl hm hz)
    rw [hst] at HC
    clear hS hz hm
    have h0c := HX0.out.c0
    have h1c := HX0.out.c1
    go_enter Try.func24, Try.ntmps24
    go_wp2_with fail
    generalize w.alloc (.cells #[.slice A zs.length c, .int .i64 m] 37) = wa at HX0 HI0 h0c h1c ⊢
    refine (HC.out wa HI0.out).mono ?_
    rintro e wb ⟨rfl, hb⟩
    have HX := Lib.hid (HX0.out.step hb)
    have HI := Lib.hid (HI0.out.step hb)
    clear hb HX0 HI0 HC h0c h1c
    have h0c := HX.out.c0
    have h1c := HX.out.c1
    go_wp2_with fail
    refine (HT.out wb HI.out).mono ?_
    rintro e wd ⟨rfl, hb⟩
    have HB := Lib.hid (below_trans HX.out.below hb)
    clear hb HX HI h0c h1c
    go_wp2
    go_ret2
    exact ⟨rfl, HB.out⟩
end Go.Proofs.Ytkdhmhbabbeokab
