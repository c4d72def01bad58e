/- The only open number. -/
import Derived.Test.YthjkmfjhcohhbabOpenN
namespace Go.Proofs.Ythjkmfjhcohhbab
open Go.RowKit Go.ChangeShapes Go.WideShapes
set_option linter.unusedVariables false

/-- The first of a list of one, else -1. -/
def only : List Int → Int
  | [x] => x
  | _ => -1
theorem only_no {l : List Int} (h : l.length ≠ 1) : only l = -1 := by
  match l, h with
  | [], _ => rfl
  | [x], h => simp at h
  | x :: y :: r, _ => rfl
theorem only_yes {l : List Int} (h : l.length = 1) : ∃ x, l = [x] := by
  match l, h with
  | [x], _ => exact ⟨x, rfl⟩
theorem opens_pos {zs : List Int} {x : Int} (h : x ∈ opens zs) : 0 ≤ x := (filt_mem h).1
theorem l1Most_any (x y : Int) (w : World) :
    Calls Try.prog 137 #[.int .i64 x, .int .i64 y] w fun e w' => e = .returned (.int .i64 (if y ≤ x then x else y)) ∧ w' = w := by
  by_cases h : y < x
  · rw [if_pos (by omega)]
    go_enter Try.func137, Try.ntmps137
    go_wp2
    go_ret
    exact ⟨rfl, rfl⟩
  · by_cases h2 : x = y
    · subst h2
      rw [if_pos (by omega)]
      go_enter Try.func137, Try.ntmps137
      go_wp2
      go_ret
      exact ⟨rfl, rfl⟩
    · have h3 : x < y := by omega
      rw [if_neg (by omega)]
      go_enter Try.func137, Try.ntmps137
      go_wp2
      go_ret
      exact ⟨rfl, rfl⟩

theorem told_cell {w : World} {lo hi c : Nat} {A : Option Addr} {x : Int} (h : Res w lo hi A [x]) : ∃ g, A = some ⟨g, 0, none⟩ ∧ w.cell? ⟨g, 0, none⟩ = some (.int .i64 x) := by
  rcases h.own with ⟨_, h⟩ | ⟨g, cur, rfl, _, _, hr, _, hc⟩
  · cases h
  · exact ⟨g, rfl, by rw [row_cellI hr]; exact hc 0 x rfl⟩

set_option maxHeartbeats 1000000 in
theorem l2Told_any (A : Option Addr) (c lo hi : Nat) (zs : List Int) (m : Int) (w : World) (hS : Ins w lo hi A zs) (hn : zs.length ≤ 12) :
    Calls Try.prog 216 #[.agg #[.slice A zs.length c, .int .i64 m]] w fun e w' => e = .returned (.int .i64 (only (opens zs))) ∧ Below w.heap.size w w' := by
  have HX0 := Lib.hid (Arg.next (Below.refl w.heap.size w) (.slice A zs.length c) (.int .i64 m) 63 w.heap.size rfl)
  have HI0 := Lib.hid (hS.step HX0.out.below)
  clear hS
  by_cases h1 : (opens zs).length = 1
  · obtain ⟨x, hx⟩ := only_yes h1
    rw [show only (opens zs) = x by rw [hx]; rfl]
    go_enter Try.func216, Try.ntmps216
    go_wp2_with fail
    generalize w.alloc (.cells #[.slice A zs.length c, .int .i64 m] 63) = wa at HX0 HI0 ⊢
    refine (l2Open_any A c lo hi zs m wa HI0.out hn).mono ?_
    rintro e wb ⟨v, rfl, ho, hb⟩
    have HB := Lib.hid (below_trans HX0.out.below hb)
    obtain ⟨B, c', rfl, _, hr⟩ := own_res ho rfl
    clear hb ho HX0 HI0
    rw [hx] at hr ⊢
    obtain ⟨g, rfl, hc⟩ := told_cell (c := 0) hr
    clear hr h1 hx
    go_wp2
    go_ret
    exact ⟨rfl, HB.out⟩
  · rw [only_no h1]
    have h1' : ¬ ((opens zs).length : Int) = 1 := by omega
    go_enter Try.func216, Try.ntmps216
    go_wp2_with fail
    generalize w.alloc (.cells #[.slice A zs.length c, .int .i64 m] 63) = wa at HX0 HI0 ⊢
    refine (l2Open_any A c lo hi zs m wa HI0.out hn).mono ?_
    rintro e wb ⟨v, rfl, ho, hb⟩
    have HB := Lib.hid (below_trans HX0.out.below hb)
    obtain ⟨B, c', rfl, _, hr⟩ := own_res ho rfl
    clear hb ho HX0 HI0 hr
    go_wp2
    go_ret
    exact ⟨rfl, HB.out⟩

theorem toldNumber_both (zs : List Int) (m : Int) (h : zs.length ≤ 1048576) : ∃ (r0 : Int) (r1 : Bool),
    (∀ (w : World) (B : Option Addr) (c lo hi : Nat), Ins w lo hi B zs → Calls Try.prog 122 #[.agg #[.slice B zs.length c, .int .i64 m]] w fun e w' => e = .returned (.tuple #[.int .i64 r0, .bool r1]) ∧ Below w.heap.size w w') ∧
    (∀ (w : World) (B : Option Addr) (c lo hi : Nat), Ins w lo hi B zs → Calls Try.prog 123 #[.agg #[.slice B zs.length c, .int .i64 m]] w fun e w' => e = .returned (.tuple #[.int .i64 r0, .bool r1]) ∧ Below w.heap.size w w') := by
  cases hst : isSt zs m with
  | false =>
    refine ⟨0, false, fun w A c lo hi hS => ?_, fun w A c lo hi hS => ?_⟩
    · have HX0 := Lib.hid (Arg.next (Below.refl w.heap.size w) (.slice A zs.length c) (.int .i64 m) 63 w.heap.size rfl)
      have HI0 := Lib.hid (hS.step HX0.out.below)
      clear hS
      go_enter Try.func122, Try.ntmps122
      go_wp2_with fail
      generalize w.alloc (.cells #[.slice A zs.length c, .int .i64 m] 63) = wa at HX0 HI0 ⊢
      refine (openNumbers_no A c lo hi zs m wa HI0.out h hst).mono ?_
      rintro e wb ⟨B, rfl, _, hb⟩
      have HB := Lib.hid (below_trans HX0.out.below hb)
      clear hb HX0 HI0
      go_wp2
      go_ret2
      exact ⟨rfl, HB.out⟩
    · have HX0 := Lib.hid (Arg.next (Below.refl w.heap.size w) (.slice A zs.length c) (.int .i64 m) 63 w.heap.size rfl)
      have HI0 := Lib.hid (hS.step HX0.out.below)
      have HC := Lib.hid (fun W h' => l2State_any A c lo hi zs m W h' h)
      rw [hst] at HC
      clear hS
      go_enter Try.func123, Try.ntmps123
      go_wp2_with fail
      generalize w.alloc (.cells #[.slice A zs.length c, .int .i64 m] 63) = wa at HX0 HI0 ⊢
      refine (HC.out wa HI0.out).mono ?_
      rintro e wb ⟨rfl, hb⟩
      have HB := Lib.hid (below_trans HX0.out.below hb)
      clear hb HX0 HI0
      go_wp2
      go_ret2
      exact ⟨rfl, HB.out⟩
  | true =>
    have hl := isSt_len hst
    have hspec : ∀ (w : World) (B : Option Addr) (c lo hi : Nat), Ins w lo hi B zs → Calls Try.prog 123 #[.agg #[.slice B zs.length c, .int .i64 m]] w fun e w' => e = .returned (.tuple #[.int .i64 (if 0 ≤ only (opens zs) then only (opens zs) else 0), .bool (decide (0 ≤ only (opens zs)))]) ∧ Below w.heap.size w w' := fun w A c lo hi hS => by
      have HX0 := Lib.hid (Arg.next (Below.refl w.heap.size w) (.slice A zs.length c) (.int .i64 m) 63 w.heap.size rfl)
      have HI0 := Lib.hid (hS.step HX0.out.below)
      have HC := Lib.hid (fun W h' => l2State_any A c lo hi zs m W h' h)
      rw [hst] at HC
      have h0c := HX0.out.c0
      have h1c := HX0.out.c1
      have HT := Lib.hid (fun W h' => l2Told_any A c lo hi zs m W h' (by omega))
      clear hS
      generalize only (opens zs) = z at HT ⊢
      by_cases hz : 0 ≤ z
      all_goals
       first | rw [if_pos hz, decide_eq_true hz] | rw [if_neg hz, decide_eq_false hz]
       go_enter Try.func123, Try.ntmps123
       go_wp2_with fail
       generalize w.alloc (.cells #[.slice A zs.length c, .int .i64 m] 63) = wa at HX0 HI0 h0c h1c ⊢
       refine (HC.out wa HI0.out).mono ?_
       rintro e wb ⟨rfl, hb⟩
       have HX := Lib.hid (HX0.out.step hb)
       have HI := Lib.hid (HI0.out.step hb)
       clear hb HX0 HI0 HC h0c h1c
       have h0c := HX.out.c0
       have h1c := HX.out.c1
       go_wp2_with fail
       refine (HT.out wb HI.out).mono ?_
       rintro e wd ⟨rfl, hb⟩
       have HB := Lib.hid (below_trans HX.out.below hb)
       clear hb HX HI h0c h1c
       go_wp2_with fail
       refine (l1Most_any _ _ _).mono ?_
       rintro e we ⟨rfl, rfl⟩
       first | rw [if_pos (show 0 ≤ z by omega)] | rw [if_neg (show ¬ 0 ≤ z by omega)]
       go_wp2
       go_ret2
       first | exact ⟨rfl, HB.out⟩ | (rw [decide_eq_true (show 0 ≤ z by omega)]; exact ⟨rfl, HB.out⟩) | (rw [decide_eq_false (show ¬ 0 ≤ z by omega)]; exact ⟨rfl, HB.out⟩)
    refine ⟨_, _, fun w A c lo hi hS => ?_, hspec⟩
    have HX0 := Lib.hid (Arg.next (Below.refl w.heap.size w) (.slice A zs.length c) (.int .i64 m) 63 w.heap.size rfl)
    have HI0 := Lib.hid (hS.step HX0.out.below)
    clear hS hspec
    by_cases h1 : (opens zs).length = 1
    · obtain ⟨x, hx⟩ := only_yes h1
      have hp : 0 ≤ x := opens_pos (by rw [hx]; simp)
      have HR : Hid ((if 0 ≤ only (opens zs) then only (opens zs) else 0) = x ∧ decide (0 ≤ only (opens zs)) = true) := by
        show _ ∧ _
        rw [hx]
        exact ⟨if_pos hp, decide_eq_true hp⟩
      rw [HR.out.1, HR.out.2]
      clear HR
      go_enter Try.func122, Try.ntmps122
      go_wp2_with fail
      generalize w.alloc (.cells #[.slice A zs.length c, .int .i64 m] 63) = wa at HX0 HI0 ⊢
      refine (openNumbers_impl A c lo hi zs m wa HI0.out hst).mono ?_
      rintro e wb ⟨v, rfl, ho, hb⟩
      have HB := Lib.hid (below_trans HX0.out.below hb)
      obtain ⟨B, c', rfl, _, hr⟩ := own_res ho rfl
      rw [hx] at hr ⊢
      obtain ⟨g, rfl, hc⟩ := told_cell (c := 0) hr
      clear hb HX0 HI0 ho hr h1 hx hst
      go_wp2
      go_ret2
      exact ⟨rfl, HB.out⟩
    · have HR : Hid ((if 0 ≤ only (opens zs) then only (opens zs) else 0) = 0 ∧ decide (0 ≤ only (opens zs)) = false) := by
        show _ ∧ _
        rw [only_no h1]
        exact ⟨rfl, rfl⟩
      rw [HR.out.1, HR.out.2]
      clear HR
      have h1' : ¬ ((opens zs).length : Int) = 1 := by omega
      go_enter Try.func122, Try.ntmps122
      go_wp2_with fail
      generalize w.alloc (.cells #[.slice A zs.length c, .int .i64 m] 63) = wa at HX0 HI0 ⊢
      refine (openNumbers_impl A c lo hi zs m wa HI0.out hst).mono ?_
      rintro e wb ⟨v, rfl, ho, hb⟩
      have HB := Lib.hid (below_trans HX0.out.below hb)
      obtain ⟨B, c', rfl, _, hr⟩ := own_res ho rfl
      clear hb HX0 HI0 ho hr hst
      go_wp2
      go_ret2
      exact ⟨rfl, HB.out⟩
end Go.Proofs.Ythjkmfjhcohhbab
