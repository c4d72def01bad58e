/- The numbers of a question. -/
import Derived.Test.YthjkmfjhcohhbabOpenN
namespace Go.Proofs.Ythjkmfjhcohhbab
open Go.RowKit Go.ChangeShapes Go.WideShapes
set_option linter.unusedVariables false

/-- The numbers of a question of n. -/
def numsOf (q : Int) (n : Nat) : List Int := filt (fun k => inQ q k) n

set_option maxRecDepth 100000 in
set_option maxHeartbeats 4000000 in
theorem l2NumbersOf_any (n : Nat) (q : Int) (w : World) (hn : n ≤ 12) :
    Calls Try.prog 215 #[.int .i64 (n : Int), .int .i64 q] w fun e w' => ∃ v, e = .returned v ∧ w'.ownsRow w.heap.size 3 1 v (numsOf q n).length ((numsOf q n).map (Value.int .i64)) ∧ Below w.heap.size w w' := by
  obtain ⟨i0, hi0, hz0, hz1, hz2⟩ := info_parts infoI3
  have O0 := Lib.hid (O0_any w w.heap.size (Nat.le_refl _))
  go_enter Try.func215, Try.ntmps215
  go_wp2_with fail
  go_loopw [5, 6] (fun out i wr => ∃ (k : Nat), k ≤ n ∧ i = .int .i64 k ∧ Hid (wr.ownsRow w.heap.size 3 1 out (filt (fun k => inQ q k) k).length ((filt (fun k => inQ q k) k).map (Value.int .i64))) ∧ Hid (Past w.heap.size w wr)) (fun _ i _ => n - (intOf i).toNat)
  case atStart => exact ⟨0, Nat.zero_le _, rfl, O0.out, Past.of_below ((Below.refl _ _).alloc (Nat.le_refl _) _)⟩
  case round =>
    obtain ⟨k, hk, rfl, HO, HP⟩ := hrel
    have hsz := HP.out.size
    by_cases hlt : k < n
    · have hfl := filt_len (fun k => inQ q k) k
      cases hx : inQ q k with
      | true =>
        have HF := Lib.hid (filt_yes (p := fun k => inQ q k) hx)
        have hxx : (bits .and .i64 (q / 2 ^ k) 1 == 1) = true := hx
        clear hx
        generalize filt (fun k => inQ q k) k = f at HO HF hfl
        have hown := HO.out
        go_wp2_with (at_builtin; refine wpList_append_own _ rfl _ _ 22 rfl w.heap.size 3 i0 (.int .i64 0) 1 8 Try.underlying22 hi0 hz0 hz1 hz2 rfl (by decide) _ _ _ rfl (hown.alloc _) ⟨wr.heap.size, 0, none⟩ 1 1 [.int .i64 (k : Int)] rfl rfl (cell_one_new _ _ _) (by simp [Value.oneCell']) (by unfold maxLen; omega) (by omega) (by simp; omega) ?_; intro v' w1 hown' hgrow _)
        have HO2 := Lib.hid (own_snocI hown' rfl)
        have HP2 := Lib.hid (HP.out.trans (Past.grown hown hgrow))
        clear hown' hgrow hown HO
        go_wp2
        go_roundw
        case rel => exact ⟨k + 1, by omega, by go_num, by rw [HF.out]; exact HO2.out, HP2.out⟩
        case measure => simp [intOf]; omega
      | false =>
        have HF := Lib.hid (filt_no (p := fun k => inQ q k) hx)
        have hxx : (bits .and .i64 (q / 2 ^ k) 1 == 1) = false := hx
        clear hx
        generalize filt (fun k => inQ q k) k = f at HO HF hfl
        go_wp2
        go_roundw
        case rel => exact ⟨k + 1, by omega, by go_num, by rw [HF.out]; exact HO.out, HP.out⟩
        case measure => simp [intOf]; omega
    · obtain rfl : k = n := by omega
      go_wp2
      go_ret
      exact ⟨_, rfl, HO.out, HP.out.below (Nat.le_refl _) (Nat.le_refl _)⟩

set_option maxRecDepth 100000 in
set_option maxHeartbeats 4000000 in
theorem numbersOf_impl (n : Nat) (q : Int) (w : World) (hn : n ≤ 12) (hq : qOK n q = true) :
    Calls Try.prog 111 #[.int .i64 (n : Int), .int .i64 q] w fun e w' => ∃ v, e = .returned (.tuple #[v, .bool true]) ∧ w'.ownsRow w.heap.size 3 1 v (numsOf q n).length ((numsOf q n).map (Value.int .i64)) ∧ Below w.heap.size w w' := by
  obtain ⟨i0, hi0, hz0, hz1, hz2⟩ := info_parts infoI3
  have O0 := Lib.hid (O0_any w w.heap.size (Nat.le_refl _))
  have HC := Lib.hid (fun W => isQuestion_any (n : Int) q W)
  rw [hq] at HC
  clear hq
  go_enter Try.func111, Try.ntmps111
  go_wp2_with fail
  refine (HC.out w).mono ?_
  rintro e w' ⟨rfl, hw⟩
  subst hw
  go_wp2_with fail
  go_loopw [6, 15] (fun out i wr => ∃ (k : Nat), k ≤ n ∧ i = .int .i64 k ∧ Hid (wr.ownsRow w'.heap.size 3 1 out (filt (fun k => inQ q k) k).length ((filt (fun k => inQ q k) k).map (Value.int .i64))) ∧ Hid (Past w'.heap.size w' wr)) (fun _ i _ => n - (intOf i).toNat)
  case atStart => exact ⟨0, Nat.zero_le _, rfl, O0.out, Past.of_below ((Below.refl _ _).alloc (Nat.le_refl _) _)⟩
  case round =>
    obtain ⟨k, hk, rfl, HO, HP⟩ := hrel
    have hsz := HP.out.size
    by_cases hlt : k < n
    · have hfl := filt_len (fun k => inQ q k) k
      have HD := Lib.hid (fun W => inQuestion_any q k W (by omega))
      cases hx : inQ q k with
      | true =>
        have HF := Lib.hid (filt_yes (p := fun k => inQ q k) hx)
        rw [hx] at HD
        clear hx
        generalize filt (fun k => inQ q k) k = f at HO HF hfl
        have hown := HO.out
        go_wp2_with (first | (go_at_call 214; refine (HD.out _).mono ?_; rintro e w5 ⟨rfl, rfl⟩) | (at_builtin; refine wpList_append_own _ rfl _ _ 22 rfl w'.heap.size 3 i0 (.int .i64 0) 1 8 Try.underlying22 hi0 hz0 hz1 hz2 rfl (by decide) _ _ _ rfl (hown.alloc _) ⟨_, 0, none⟩ 1 1 [.int .i64 (k : Int)] rfl rfl (cell_one_new _ _ _) (by simp [Value.oneCell']) (by unfold maxLen; omega) (by omega) (by simp; omega) ?_; intro v' w1 hown' hgrow _))
        have HO2 := Lib.hid (own_snocI hown' rfl)
        have HP2 := Lib.hid (HP.out.trans (Past.grown hown hgrow))
        clear hown' hgrow hown HO
        go_wp2
        go_roundw
        case rel => exact ⟨k + 1, by omega, by go_num, by rw [HF.out]; exact HO2.out, HP2.out⟩
        case measure => simp [intOf]; omega
      | false =>
        have HF := Lib.hid (filt_no (p := fun k => inQ q k) hx)
        rw [hx] at HD
        clear hx
        generalize filt (fun k => inQ q k) k = f at HO HF hfl
        go_wp2_with (go_at_call 214; refine (HD.out _).mono ?_; rintro e w5 ⟨rfl, rfl⟩)
        go_roundw
        case rel => exact ⟨k + 1, by omega, by go_num, by rw [HF.out]; exact HO.out, HP.out⟩
        case measure => simp [intOf]; omega
    · obtain rfl : k = n := by omega
      go_wp2
      go_ret2
      exact ⟨_, rfl, HO.out, HP.out.below (Nat.le_refl _) (Nat.le_refl _)⟩
theorem own_ans0 {w w' : World} {v : Value} {zs : List Int} {b : Bool} {e : Ending} (he : e = .returned (.tuple #[v, .bool b])) (ho : w'.ownsRow w.heap.size 3 1 v zs.length (zs.map (Value.int .i64))) (hb : Below w.heap.size w w') :
    ∃ B c', e = .returned (.tuple #[.slice B zs.length c', .bool b]) ∧ Res w' w.heap.size w'.heap.size B zs ∧ Below w.heap.size w w' := by
  obtain ⟨A, c, rfl, _, hr⟩ := own_res ho rfl
  exact ⟨A, c, he, hr, hb⟩
theorem numbersOf_both (n q : Int) : ∃ (r0 : List Int) (r1 : Bool), r0.length ≤ 1048576 ∧
    (∀ (w : World), Calls Try.prog 111 #[.int .i64 n, .int .i64 q] w fun e w' => ∃ B c', e = .returned (.tuple #[.slice B r0.length c', .bool r1]) ∧ Res w' w.heap.size w'.heap.size B r0 ∧ Below w.heap.size w w') ∧
    (∀ (w : World), Calls Try.prog 112 #[.int .i64 n, .int .i64 q] w fun e w' => ∃ B c', e = .returned (.tuple #[.slice B r0.length c', .bool r1]) ∧ Res w' w.heap.size w'.heap.size B r0 ∧ Below w.heap.size w w') := by
  have HC := Lib.hid (fun W => isQuestion_any n q W)
  have HD := Lib.hid (fun W => l2Asks_any n q W)
  cases hq : qOK n q with
  | true =>
    have hb := qOK_iff.1 hq
    obtain ⟨k, rfl⟩ : ∃ k : Nat, n = (k : Int) := ⟨n.toNat, by omega⟩
    have hl := filt_len (fun j => inQ q j) k
    rw [hq] at HC HD
    refine ⟨numsOf q k, true, by unfold numsOf; omega, fun w => ?_, fun w => ?_⟩
    · refine (numbersOf_impl k q w (by omega) hq).mono ?_
      rintro e w' ⟨v, he, ho, hb⟩
      exact own_ans0 he ho hb
    · have h12 : k ≤ 12 := by omega
      clear hb hl hq
      have HN := Lib.hid (fun W => l2NumbersOf_any k q W)
      go_enter Try.func112, Try.ntmps112
      go_wp2_with fail
      refine (HD.out w).mono ?_
      rintro e w' ⟨rfl, hw⟩
      subst hw
      go_wp2_with fail
      refine (HN.out _ h12).mono ?_
      rintro e w3 ⟨v, rfl, ho, hb⟩
      have HO := Lib.hid ho
      have HB := Lib.hid hb
      clear ho hb
      go_wp2
      go_ret2
      exact own_ans0 rfl HO.out HB.out
  | false =>
    rw [hq] at HC HD
    refine ⟨[], false, by simp, fun w => ?_, fun w => ?_⟩
    · go_enter Try.func111, Try.ntmps111
      go_wp2_with fail
      refine (HC.out w).mono ?_
      rintro e w' ⟨rfl, hw⟩
      subst hw
      go_wp2
      go_ret2
      exact ⟨_, 0, rfl, empty_res _ _ (Nat.le_refl _), (Below.refl _ _).alloc (Nat.le_refl _) _⟩
    · go_enter Try.func112, Try.ntmps112
      go_wp2_with fail
      refine (HD.out w).mono ?_
      rintro e w' ⟨rfl, hw⟩
      subst hw
      go_wp2
      go_ret2
      exact ⟨_, 0, rfl, empty_res _ _ (Nat.le_refl _), (Below.refl _ _).alloc (Nat.le_refl _) _⟩
end Go.Proofs.Ythjkmfjhcohhbab
