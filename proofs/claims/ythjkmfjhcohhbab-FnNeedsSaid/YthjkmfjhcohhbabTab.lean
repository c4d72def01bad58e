/- The weights of numbers with so many false answers: the table of both sides. -/
import Derived.Test.YthjkmfjhcohhbabBall
import Derived.Test.YthjkmfjhcohhbabCounts
import Derived.Test.YthjkmfjhcohhbabUpd
import Derived.Test.YthjkmfjhcohhbabNums
namespace Go.Proofs.Ythjkmfjhcohhbab
open Go.RowKit Go.ChangeShapes Go.WideShapes
set_option linter.unusedVariables false

/-- The weight of a number with a false answers, of M at most, with q questions ahead. -/
def wOf (M q : Nat) (a : Nat) : Int := (ball q (min (M - a) q) : Int)
def tabs (M q : Nat) : List Int := (List.range (M + 1)).map (wOf M q)
theorem tabs_len (M q : Nat) : (tabs M q).length = M + 1 := by simp [tabs]
theorem wOf_bd (M q a : Nat) (hq : q ≤ 30) : 1 ≤ wOf M q a ∧ wOf M q a ≤ 1073741824 := by
  have h1 := ball_bd q (min (M - a) q) hq (by omega)
  have h2 := ball_pos q (min (M - a) q) hq (by omega)
  unfold wOf
  omega
theorem tabs_at {M q a : Nat} (h : a < M + 1) : (tabs M q)[a]? = some (wOf M q a) := by
  simp [tabs, h]

set_option maxRecDepth 100000 in
set_option maxHeartbeats 4000000 in
theorem weightsOf_impl (M q : Nat) (hM : M ≤ 2) (hq : q ≤ 30) (w : World) :
    Calls Try.prog 202 #[.int .i64 (M : Int), .int .i64 (q : Int)] w fun e w' => ∃ g, e = .returned (.slice (some ⟨g, 0, none⟩) (M + 1) (M + 1)) ∧ w.heap.size ≤ g ∧ w'.heap[g]? = some (.cells ((tabs M q).map (Value.int .i64)).toArray 3 (0, 0)) ∧ Below w.heap.size w w' := by
  have hmk := makeInts1 M (by omega)
  have H0 : Hid ((w.alloc (.cells (Array.replicate (M + 1) (Value.int .i64 0)) 3)).heap[w.heap.size]? = some (.cells ((upd (wOf M q) (M + 1) 0).map (Value.int .i64)).toArray 3 (0, 0))) := by
    show _ = _
    rw [upd_zero]
    simpa using alloc_row w (Array.replicate (M + 1) (Value.int .i64 0)) 3
  go_enter Try.func202, Try.ntmps202
  go_wp2_with fail
  clear hmk
  go_loopw [12] (fun i wr => ∃ (k : Nat), k ≤ M + 1 ∧ i = .int .i64 k ∧ Hid (wr.heap[w.heap.size]? = some (.cells ((upd (wOf M q) (M + 1) k).map (Value.int .i64)).toArray 3 (0, 0))) ∧ Hid (Past w.heap.size w wr)) (fun i _ => M + 1 - (intOf i).toNat)
  case atStart => exact ⟨0, Nat.zero_le _, rfl, H0, Past.of_below ((Below.refl _ _).alloc (Nat.le_refl _) _)⟩
  case round =>
    obtain ⟨k, hk, rfl, HO, HP⟩ := hrel
    by_cases hlt : k < M + 1
    · have hrow := HO.out
      have hbd := wOf_bd M q k hq
      have HB := Lib.hid (fun W => ballOf_impl q (min (M - k) q) hq (by omega) W)
      have HF := Lib.hid (upd_set (wOf M q) (M + 1) k)
      have hcell := getD_cell hrow (i := k) (by rw [upd_len]; exact hlt)
      have hfr := row_freeI hrow k
      have HO2 := Lib.hid (row_setI hrow k (.int .i64 (wOf M q k)))
      rw [map_set, HF.out] at HO2
      have HP2 := Lib.hid (HP.out.trans (Past.of_within (within_set (Within.refl w.heap.size (w.heap.size + 1) wr) (g := w.heap.size) (Nat.le_refl _) (by omega) k (.int .i64 (wOf M q k))) (Nat.le_refl _)))
      have hx : (ball q (min (M - k) q) : Int) = wOf M q k := rfl
      rw [hx] at HB
      clear hrow HF hx
      generalize wOf M q k = x at HB HO2 HP2 hbd
      generalize (upd (wOf M q) (M + 1) k).getD k 0 = z at hcell
      by_cases hmq : (M : Int) - (k : Int) ≤ (q : Int)
      all_goals
        first
        | rw [show ((min (M - k) q : Nat) : Int) = (M : Int) - (k : Int) by omega] at HB
        | rw [show ((min (M - k) q : Nat) : Int) = (q : Int) by omega] at HB
        go_wp2_with fail
        refine (HB.out _).mono ?_
        rintro e w1 ⟨rfl, hw⟩
        have hw := hw.symm
        subst hw
        go_wp2
        go_roundw
        case rel => exact ⟨k + 1, by omega, by go_num, HO2.out, HP2.out⟩
        case measure => simp [intOf]; omega
    · obtain rfl : k = M + 1 := by omega
      rw [upd_all] at HO
      go_wp2
      go_ret
      exact ⟨_, rfl, Nat.le_refl _, HO.out, HP.out.below (Nat.le_refl _) (Nat.le_refl _)⟩

/-- The first k weights of the table. -/
def tabTo (M q k : Nat) : List Int := (List.range k).map (wOf M q)
theorem tabTo_succ (M q k : Nat) : tabTo M q (k + 1) = tabTo M q k ++ [wOf M q k] := by simp [tabTo, List.range_succ]
theorem tabTo_len (M q k : Nat) : (tabTo M q k).length = k := by simp [tabTo]

set_option maxRecDepth 100000 in
set_option maxHeartbeats 4000000 in
theorem weightTable_spec (M q : Nat) (hM : M ≤ 2) (hq : q ≤ 30) (w : World) :
    Calls Try.prog 103 #[.int .i64 (M : Int), .int .i64 (q : Int)] w fun e w' => ∃ v, e = .returned (.tuple #[v, .bool true]) ∧ w'.ownsRow w.heap.size 3 1 v (tabs M q).length ((tabs M q).map (Value.int .i64)) ∧ Below w.heap.size w w' := by
  obtain ⟨i0, hi0, hz0, hz1, hz2⟩ := info_parts infoI3
  have O0 := Lib.hid (O0_any w w.heap.size (Nat.le_refl _))
  have HA := Lib.hid (fun W => l3Ahead_any (q : Int) W)
  rw [inB_t (x := (q : Int)) (a := 0) (b := 30) (by omega) (by omega)] at HA
  have HB := Lib.hid (fun W => l1In_any (M : Int) 0 2 W)
  rw [inB_t (x := (M : Int)) (a := 0) (b := 2) (by omega) (by omega)] at HB
  go_enter Try.func103, Try.ntmps103
  go_wp2_with (first | (go_at_call 203; refine (HA.out _).mono ?_; rintro e w1 ⟨rfl, rfl⟩) | (go_at_call 129; refine (HB.out _).mono ?_; rintro e w1 ⟨rfl, rfl⟩))
  go_loopw [6, 7] (fun out i wr => ∃ (k : Nat), k ≤ M + 1 ∧ i = .int .i64 k ∧ Hid (wr.ownsRow w.heap.size 3 1 out (tabTo M q k).length ((tabTo M q k).map (Value.int .i64))) ∧ Hid (Past w.heap.size w wr)) (fun _ i _ => M + 1 - (intOf i).toNat)
  case atStart => exact ⟨0, Nat.zero_le _, rfl, (by first | exact O0.out | exact O0), Past.of_below ((Below.refl _ _).alloc (Nat.le_refl _) _)⟩
  case round =>
    obtain ⟨k, hk, rfl, HO, HP⟩ := hrel
    have hsz := HP.out.size
    by_cases hlt : k ≤ M
    · have hfl := tabTo_len M q k
      have hbd := wOf_bd M q k hq
      have HC := Lib.hid (fun W => l3Ball_any q (M - k) hq (by omega) W)
      have hsub : ((M - k : Nat) : Int) = (M : Int) - (k : Int) := by omega
      rw [hsub] at HC
      have hx : (ball q (min (M - k) q) : Int) = wOf M q k := rfl
      rw [hx] at HC
      have HF := Lib.hid (tabTo_succ M q k)
      clear hsub hx
      generalize wOf M q k = x at HC HF hbd
      generalize tabTo M q k = f at HO HF hfl
      have hown := HO.out
      go_wp2_with (first | (go_at_call 209; refine (HC.out _).mono ?_; rintro e w1 ⟨rfl, rfl⟩) | (at_builtin; refine wpList_append_own _ rfl _ _ 22 rfl w.heap.size 3 i0 (.int .i64 0) 1 8 Try.underlying22 hi0 hz0 hz1 hz2 rfl (by decide) _ _ _ rfl (hown.alloc _) ⟨_, 0, none⟩ 1 1 [.int .i64 x] rfl rfl (cell_one_new _ _ _) (by simp [Value.oneCell']) (by unfold maxLen; omega) (by omega) (by simp; omega) ?_; intro v' w1 hown' hgrow _))
      have HO2 := Lib.hid (own_snocI hown' rfl)
      have HP2 := Lib.hid (HP.out.trans (Past.grown hown hgrow))
      clear hown' hgrow hown HO
      go_wp2
      go_roundw
      case rel => exact ⟨k + 1, by omega, by go_num, by rw [HF.out]; exact HO2.out, HP2.out⟩
      case measure => simp [intOf]; omega
    · obtain rfl : k = M + 1 := by omega
      have HR : Hid (tabTo M q (M + 1) = tabs M q) := rfl
      rw [HR.out] at HO
      go_wp2
      go_ret2
      exact ⟨_, rfl, HO.out, HP.out.below (Nat.le_refl _) (Nat.le_refl _)⟩
theorem row_res {w : World} {l : List Int} {lo g : Nat} (h : lo ≤ g) (hr : w.heap[g]? = some (.cells (l.map (Value.int .i64)).toArray 3 (0, 0))) : Res w lo w.heap.size (some ⟨g, 0, none⟩) l :=
  ⟨.inr ⟨g, _, rfl, h, row_ltI hr, hr, by simp, fun j x hx => by simp [hx]⟩, Nat.le_refl _⟩
/-- What WeightTable answers. -/
theorem weightTable_both (m q : Int) : ∃ (r0 : List Int) (r1 : Bool), r0.length ≤ 1048576 ∧
    (∀ (w : World), Calls Try.prog 102 #[.int .i64 m, .int .i64 q] w fun e w' => ∃ B c', e = .returned (.tuple #[.slice B r0.length c', .bool r1]) ∧ Res w' w.heap.size w'.heap.size B r0 ∧ Below w.heap.size w w') ∧
    (∀ (w : World), Calls Try.prog 103 #[.int .i64 m, .int .i64 q] w fun e w' => ∃ B c', e = .returned (.tuple #[.slice B r0.length c', .bool r1]) ∧ Res w' w.heap.size w'.heap.size B r0 ∧ Below w.heap.size w w') := by
  have HC := Lib.hid (fun W => isMost_any m W)
  have HD := Lib.hid (fun W => isAhead_any q W)
  have HE := Lib.hid (fun W => l3Ahead_any q W)
  have HF := Lib.hid (fun W => l1In_any m 0 2 W)
  by_cases h : inB m 0 2 = true ∧ inB q 0 30 = true
  · obtain ⟨h1, h2⟩ := h
    have b1 := inB_iff.1 h1
    have b2 := inB_iff.1 h2
    rw [h1] at HC
    rw [h2] at HD
    clear h1 h2 HE HF
    obtain ⟨a, rfl⟩ : ∃ a : Nat, m = (a : Int) := ⟨m.toNat, by omega⟩
    obtain ⟨b, rfl⟩ : ∃ b : Nat, q = (b : Int) := ⟨q.toNat, by omega⟩
    have ha : a ≤ 2 := by omega
    have hb' : b ≤ 30 := by omega
    refine ⟨tabs a b, true, by rw [tabs_len]; omega, fun w => ?_, fun w => ?_⟩
    · have HN := Lib.hid (fun W => weightsOf_impl a b ha hb' W)
      clear b1 b2
      go_enter Try.func102, Try.ntmps102
      go_wp2_with (first | (go_at_call 154; refine (HC.out _).mono ?_; rintro e w1 ⟨rfl, rfl⟩) | (go_at_call 210; refine (HD.out _).mono ?_; rintro e w1 ⟨rfl, rfl⟩) | fail)
      refine (HN.out _).mono ?_
      rintro e w3 ⟨g, rfl, hg, hr, hb⟩
      have HR := Lib.hid (row_res hg hr)
      have HB := Lib.hid hb
      clear hr hb
      go_wp2
      go_ret2
      rw [tabs_len]
      exact ⟨_, _, rfl, HR.out, HB.out⟩
    · refine (weightTable_spec a b ha hb' w).mono ?_
      rintro e w' ⟨v, he, ho, hb⟩
      exact own_ans0 he ho hb
  · refine ⟨[], false, by simp, fun w => ?_, fun w => ?_⟩
    · generalize inB m 0 2 = x at HC h
      generalize inB q 0 30 = y at HD h
      cases x <;> cases y <;> simp at h <;> clear HE HF
      all_goals
        go_enter Try.func102, Try.ntmps102
        go_wp2_with (first | (go_at_call 154; refine (HC.out _).mono ?_; rintro e w1 ⟨rfl, rfl⟩) | (go_at_call 210; refine (HD.out _).mono ?_; rintro e w1 ⟨rfl, rfl⟩))
        go_ret2
        exact ⟨_, 0, rfl, empty_res _ _ (Nat.le_refl _), (Below.refl _ _).alloc (Nat.le_refl _) _⟩
    · generalize inB m 0 2 = x at HF h
      generalize inB q 0 30 = y at HE h
      cases x <;> cases y <;> simp at h <;> clear HC HD
      all_goals
        go_enter Try.func103, Try.ntmps103
        go_wp2_with (first | (go_at_call 203; refine (HE.out _).mono ?_; rintro e w1 ⟨rfl, rfl⟩) | (go_at_call 129; refine (HF.out _).mono ?_; rintro e w1 ⟨rfl, rfl⟩))
        go_ret2
        exact ⟨_, 0, rfl, empty_res _ _ (Nat.le_refl _), (Below.refl _ _).alloc (Nat.le_refl _) _⟩
end Go.Proofs.Ythjkmfjhcohhbab
