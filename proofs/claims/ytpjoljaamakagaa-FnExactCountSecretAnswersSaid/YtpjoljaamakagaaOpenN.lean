/- Open numbers. -/
import Derived.Test.YtpjoljaamakagaaOwn
import Derived.Test.YtpjoljaamakagaaQuest
namespace Go.Proofs.Ytpjoljaamakagaa
open Go.RowKit Go.ChangeShapes Go.WideShapes
set_option linter.unusedVariables false

/-- The open numbers of a state. -/
def opens (zs : List Int) : List Int := filt (fun k => decide (0 ≤ zs.getD k (-1))) zs.length
theorem opens_len (zs : List Int) : (opens zs).length ≤ zs.length := filt_len _ _
theorem getD_at {zs : List Int} {k : Nat} (h : k < zs.length) : zs.getD k (-1) = zs[k] := by simp [List.getD, h]
theorem isSt_len {zs : List Int} {m : Int} (h : isSt zs m = true) : 1 ≤ zs.length ∧ zs.length ≤ 12 ∧ 0 ≤ m ∧ m ≤ 2 := by
  unfold isSt at h
  simp only [Bool.and_eq_true] at h
  have h1 := inB_iff.1 h.1.1
  have h2 := inB_iff.1 h.1.2
  omega
theorem isSt_at {zs : List Int} {m : Int} (h : isSt zs m = true) {k : Nat} (hk : k < zs.length) : -1 ≤ zs[k] ∧ zs[k] ≤ m := by
  unfold isSt at h
  simp only [Bool.and_eq_true] at h
  exact inB_iff.1 (List.all_eq_true.1 h.2 _ (List.getElem_mem hk))

set_option maxRecDepth 100000 in
set_option maxHeartbeats 4000000 in
theorem l2Open_any (A : Option Addr) (c lo hi : Nat) (zs : List Int) (m : Int) (w : World) (hS : Ins w lo hi A zs) (hn : zs.length ≤ 12) :
    Calls Try.prog 123 #[.agg #[.slice A zs.length c, .int .i64 m]] w fun e w' => ∃ v, e = .returned v ∧ w'.ownsRow (w.heap.size + 1) 3 1 v (opens zs).length ((opens zs).map (Value.int .i64)) ∧ Below w.heap.size w w' := by
  obtain ⟨i0, hi0, hz0, hz1, hz2⟩ := info_parts infoI3
  have hh := hS.top
  have HX0 := Lib.hid (Arg.next (Below.refl w.heap.size w) (.slice A zs.length c) (.int .i64 m) 35 w.heap.size rfl)
  have HI0 := Lib.hid (hS.step HX0.out.below)
  have hs0 : (w.alloc (.cells #[.slice A zs.length c, .int .i64 m] 35)).heap.size = w.heap.size + 1 := by simp
  have O0 : (((w.alloc (.cells #[.slice A zs.length c, .int .i64 m] 35)).alloc (.cells #[] 3))).ownsRow (w.heap.size + 1) 3 1 (.slice (some ⟨w.heap.size + 1, 0, none⟩) 0 0) 0 [] := by
    have := World.ownsRow_lit (w.alloc (.cells #[.slice A zs.length c, .int .i64 m] 35)) (e := 3) (size := 1) (base := w.heap.size + 1) #[] 0 (by simp) (by unfold maxLen; omega) rfl
    simpa using this
  clear hS
  go_enter Try.func123, Try.ntmps123
  go_wp2_with fail
  go_loopw [3, 4] (fun out i wr => ∃ (k : Nat), k ≤ zs.length ∧ i = .int .i64 k ∧ Hid (wr.ownsRow (w.heap.size + 1) 3 1 out (filt (fun k => decide (0 ≤ zs.getD k (-1))) k).length ((filt (fun k => decide (0 ≤ zs.getD k (-1))) k).map (Value.int .i64))) ∧ Hid (Past (w.heap.size + 1) (w.alloc (.cells #[.slice A zs.length c, .int .i64 m] 35)) wr)) (fun _ i _ => zs.length - (intOf i).toNat)
  case atStart => exact ⟨0, Nat.zero_le _, rfl, (by first | exact O0.out | exact O0), Past.of_below ((Below.refl _ _).alloc (Nat.le_refl _) _)⟩
  case round =>
    obtain ⟨k, hk, rfl, HO, HP⟩ := hrel
    have hc0 := cell_past HP.out HX0.out.c0 (Nat.lt_succ_self _)
    have hsz := HP.out.size
    by_cases hlt : k < zs.length
    · obtain ⟨b, o, rfl, _, hb, hc⟩ := (HI0.out.past HP.out (by omega)).ints.at_ hlt
      have hgd := getD_at hlt
      have hfl := filt_len (fun k => decide (0 ≤ zs.getD k (-1))) k
      by_cases hx : 0 ≤ zs[k]
      · have hf : filt (fun k => decide (0 ≤ zs.getD k (-1))) (k + 1) = filt (fun k => decide (0 ≤ zs.getD k (-1))) k ++ [(k : Int)] := filt_yes (by show decide (0 ≤ zs.getD k (-1)) = true; rw [hgd]; exact decide_eq_true hx)
        have HF := Lib.hid hf
        clear hf hgd
        generalize filt (fun k => decide (0 ≤ zs.getD k (-1))) k = f at HO HF hfl
        have hown := HO.out
        go_wp2_with (at_builtin; refine wpList_append_own _ rfl _ _ 29 rfl (w.heap.size + 1) 3 i0 (.int .i64 0) 1 8 Try.underlying29 hi0 hz0 hz1 hz2 rfl (by decide) _ _ _ rfl (hown.alloc _) ⟨wr.heap.size, 0, none⟩ 1 1 [.int .i64 (k : Int)] rfl rfl (cell_one_new _ _ _) (by simp [Value.oneCell']) (by unfold maxLen; omega) (by omega) (by simp; omega) ?_; intro v' w1 hown' hgrow _)
        have HO2 := Lib.hid (own_snocI hown' rfl)
        have HP2 := Lib.hid (HP.out.trans (Past.grown hown hgrow))
        clear hown' hgrow hown HO
        go_wp2
        go_roundw
        case rel => exact ⟨k + 1, by omega, by go_num, by rw [HF.out]; exact HO2.out, HP2.out⟩
        case measure => simp [intOf]; omega
      · have hf : filt (fun k => decide (0 ≤ zs.getD k (-1))) (k + 1) = filt (fun k => decide (0 ≤ zs.getD k (-1))) k := filt_no (by show decide (0 ≤ zs.getD k (-1)) = false; rw [hgd]; exact decide_eq_false hx)
        have HF := Lib.hid hf
        clear hf hgd
        generalize filt (fun k => decide (0 ≤ zs.getD k (-1))) k = f at HO HF hfl
        go_wp2
        go_roundw
        case rel => exact ⟨k + 1, by omega, by go_num, by rw [HF.out]; exact HO.out, HP.out⟩
        case measure => simp [intOf]; omega
    · obtain rfl : k = zs.length := by omega
      go_wp2
      go_ret
      exact ⟨_, rfl, HO.out, below_trans HX0.out.below (HP.out.below (by omega) (Nat.le_refl _))⟩

theorem O0_any (w : World) (B : Nat) (h : B ≤ w.heap.size) : (w.alloc (.cells #[] 3)).ownsRow B 3 1 (.slice (some ⟨w.heap.size, 0, none⟩) 0 0) 0 [] :=
  World.ownsRow_lit w (e := 3) (size := 1) (base := B) #[] 0 h (by unfold maxLen; omega) rfl

set_option maxRecDepth 100000 in
set_option maxHeartbeats 4000000 in
theorem openNumbers_impl (A : Option Addr) (c lo hi : Nat) (zs : List Int) (m : Int) (w : World) (hS : Ins w lo hi A zs) (hst : isSt zs m = true) :
    Calls Try.prog 62 #[.agg #[.slice A zs.length c, .int .i64 m]] w fun e w' => ∃ v, e = .returned (.tuple #[v, .bool true]) ∧ w'.ownsRow (w.heap.size + 1) 3 1 v (opens zs).length ((opens zs).map (Value.int .i64)) ∧ Below w.heap.size w w' := by
  obtain ⟨i0, hi0, hz0, hz1, hz2⟩ := info_parts infoI3
  have hh := hS.top
  have hl := isSt_len hst
  have hn12 : zs.length ≤ 12 := hl.2.1
  have HX0 := Lib.hid (Arg.next (Below.refl w.heap.size w) (.slice A zs.length c) (.int .i64 m) 35 w.heap.size rfl)
  have HI0 := Lib.hid (hS.step HX0.out.below)
  have HC := Lib.hid (fun W h => isState_impl A c lo hi zs m W h (by omega))
  rw [hst] at HC
  have HA := Lib.hid (fun k (h : k < zs.length) => isSt_at hst h)
  have h0c := HX0.out.c0
  have h1c := HX0.out.c1
  clear hS hst hl
  go_enter Try.func62, Try.ntmps62
  go_wp2_with fail
  generalize w.alloc (.cells #[.slice A zs.length c, .int .i64 m] 35) = wa at HX0 HI0 h0c h1c ⊢
  refine (HC.out wa HI0.out).mono ?_
  rintro e wb ⟨rfl, hb⟩
  have HX := Lib.hid (HX0.out.step hb)
  have HI := Lib.hid (HI0.out.step hb)
  clear hb HX0 HI0 HC h0c h1c
  have hsb : w.heap.size + 1 ≤ wb.heap.size := HX.out.hi
  have O0 := Lib.hid (O0_any wb (w.heap.size + 1) hsb)
  have h0 := (HX.out.step ((Below.refl _ _).alloc (Nat.le_refl _) (.cells #[] 3))).c0
  go_wp2_with fail
  go_loopw [4, 15] (fun out i wr => ∃ (k : Nat), k ≤ zs.length ∧ i = .int .i64 k ∧ Hid (wr.ownsRow (w.heap.size + 1) 3 1 out (filt (fun k => decide (0 ≤ zs.getD k (-1))) k).length ((filt (fun k => decide (0 ≤ zs.getD k (-1))) k).map (Value.int .i64))) ∧ Hid (Past (w.heap.size + 1) wb wr)) (fun _ i _ => zs.length - (intOf i).toNat)
  case atStart => exact ⟨0, Nat.zero_le _, rfl, (by first | exact O0.out | exact O0), Past.of_below ((Below.refl _ _).alloc (Nat.le_refl _) _)⟩
  case round =>
    obtain ⟨k, hk, rfl, HO, HP⟩ := hrel
    have hsz := HP.out.size
    by_cases hlt : k < zs.length
    · obtain ⟨b, o, rfl, _, hb, hc⟩ := (HI.out.past HP.out (by omega)).ints.at_ hlt
      have hgd := getD_at hlt
      have hfl := filt_len (fun k => decide (0 ≤ zs.getD k (-1))) k
      have hat := HA.out k hlt
      by_cases hx : 0 ≤ zs[k]
      · have hf : filt (fun k => decide (0 ≤ zs.getD k (-1))) (k + 1) = filt (fun k => decide (0 ≤ zs.getD k (-1))) k ++ [(k : Int)] := filt_yes (by show decide (0 ≤ zs.getD k (-1)) = true; rw [hgd]; exact decide_eq_true hx)
        have HF := Lib.hid hf
        clear hf hgd
        have hne : ¬ zs[k] = -1 := by omega
        generalize filt (fun k => decide (0 ≤ zs.getD k (-1))) k = f at HO HF hfl
        have hown := HO.out
        go_wp2_with (at_builtin; refine wpList_append_own _ rfl _ _ 29 rfl (w.heap.size + 1) 3 i0 (.int .i64 0) 1 8 Try.underlying29 hi0 hz0 hz1 hz2 rfl (by decide) _ _ _ rfl (hown.alloc _) ⟨wr.heap.size, 0, none⟩ 1 1 [.int .i64 (k : Int)] rfl rfl (cell_one_new _ _ _) (by simp [Value.oneCell']) (by unfold maxLen; omega) (by omega) (by simp; omega) ?_; intro v' w1 hown' hgrow _)
        have HO2 := Lib.hid (own_snocI hown' rfl)
        have HP2 := Lib.hid (HP.out.trans (Past.grown hown hgrow))
        clear hown' hgrow hown HO
        go_wp2
        go_roundw
        case rel => exact ⟨k + 1, by omega, by go_num, by rw [HF.out]; exact HO2.out, HP2.out⟩
        case measure => simp [intOf]; omega
      · have hf : filt (fun k => decide (0 ≤ zs.getD k (-1))) (k + 1) = filt (fun k => decide (0 ≤ zs.getD k (-1))) k := filt_no (by show decide (0 ≤ zs.getD k (-1)) = false; rw [hgd]; exact decide_eq_false hx)
        have HF := Lib.hid hf
        clear hf hgd
        have hne : zs[k] = -1 := by omega
        generalize filt (fun k => decide (0 ≤ zs.getD k (-1))) k = f at HO HF hfl
        rw [hne] at hc
        go_wp2
        go_roundw
        case rel => exact ⟨k + 1, by omega, by go_num, by rw [HF.out]; exact HO.out, HP.out⟩
        case measure => simp [intOf]; omega
    · obtain rfl : k = zs.length := by omega
      go_wp2
      go_ret2
      exact ⟨_, rfl, HO.out, HX.out.below.trans (HP.out.below (by omega) (by omega))⟩

set_option maxHeartbeats 1000000 in
theorem openNumbers_no (A : Option Addr) (c lo hi : Nat) (zs : List Int) (m : Int) (w : World) (hS : Ins w lo hi A zs) (hl : zs.length ≤ 1048576) (hst : isSt zs m = false) :
    Calls Try.prog 62 #[.agg #[.slice A zs.length c, .int .i64 m]] w fun e w' => ∃ B, e = .returned (.tuple #[.slice B 0 0, .bool false]) ∧ Res w' w.heap.size w'.heap.size B [] ∧ Below w.heap.size w w' := by
  have HX0 := Lib.hid (Arg.next (Below.refl w.heap.size w) (.slice A zs.length c) (.int .i64 m) 35 w.heap.size rfl)
  have HI0 := Lib.hid (hS.step HX0.out.below)
  have HC := Lib.hid (fun W h => isState_impl A c lo hi zs m W h hl)
  rw [hst] at HC
  clear hS hst
  go_enter Try.func62, Try.ntmps62
  go_wp2_with fail
  generalize w.alloc (.cells #[.slice A zs.length c, .int .i64 m] 35) = wa at HX0 HI0 ⊢
  refine (HC.out wa HI0.out).mono ?_
  rintro e wb ⟨rfl, hb⟩
  have HX := Lib.hid (HX0.out.step hb)
  clear hb HX0 HI0 HC
  go_wp2
  go_ret2
  exact ⟨_, rfl, empty_res wb w.heap.size HX.out.below.size, HX.out.below.alloc HX.out.below.size _⟩
/-- From a row of one's own to the answer. -/
theorem own_ans {w w' : World} {v : Value} {zs : List Int} {b : Bool} {e : Ending} (he : e = .returned (.tuple #[v, .bool b])) (ho : w'.ownsRow (w.heap.size + 1) 3 1 v zs.length (zs.map (Value.int .i64))) (hb : Below w.heap.size w w') :
    ∃ B c', e = .returned (.tuple #[.slice B zs.length c', .bool b]) ∧ Res w' w.heap.size w'.heap.size B zs ∧ Below w.heap.size w w' := by
  obtain ⟨A, c, rfl, _, hr⟩ := own_res ho rfl
  exact ⟨A, c, he, ⟨hr.own.wide (by omega) (Nat.le_refl _), hr.top⟩, hb⟩
end Go.Proofs.Ytpjoljaamakagaa
