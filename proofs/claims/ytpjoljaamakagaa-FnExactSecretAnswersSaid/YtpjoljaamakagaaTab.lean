/- The weights of numbers with so many false answers: the table of both sides. -/
import Derived.Test.YtpjoljaamakagaaBall
import Derived.Test.YtpjoljaamakagaaCounts
import Derived.Test.YtpjoljaamakagaaUpd
import Derived.Test.YtpjoljaamakagaaNums
namespace Go.Proofs.Ytpjoljaamakagaa
open Go.RowKit Go.ChangeShapes Go.WideShapes
set_option linter.unusedVariables false

/-- The weight of a number with a false answers, of M at most, with q questions ahead. -/
def wOf (M q : Nat) (a : Nat) : Int := (ball q (min (M - a) q) : Int)
def tabs (M q : Nat) : List Int := (List.range (M + 1)).map (wOf M q)
theorem tabs_len (M q : Nat) : (tabs M q).length = M + 1 := by simp [tabs]
theorem wOf_bd (M q a : Nat) (hq : q ≤ 30) : 1 ≤ wOf M q a ∧ wOf M q a ≤ 1073741824 := by
  have h1 := ball_bd q (min (M - a) q) hq (by omega)
  have h2 := ball_pos q (min (M - a) q) hq (by omega)
  unfold wOf
  omega
theorem tabs_at {M q a : Nat} (h : a < M + 1) : (tabs M q)[a]? = some (wOf M q a) := by
  simp [tabs, h]

set_option maxRecDepth 100000 in
set_option maxHeartbeats 4000000 in
theorem weightsOf_impl (M q : Nat) (hM : M ≤ 2) (hq : q ≤ 30) (w : World) :
    Calls Try.prog 135 #[.int .i64 (M : Int), .int .i64 (q : Int)] w fun e w' => ∃ g, e = .returned (.slice (some ⟨g, 0, none⟩) (M + 1) (M + 1)) ∧ w.heap.size ≤ g ∧ w'.heap[g]? = some (.cells ((tabs M q).map (Value.int .i64)).toArray 3 (0, 0)) ∧ Below w.heap.size w w' := by
  have hmk := makeInts1 M (by omega)
  have H0 : Hid ((w.alloc (.cells (Array.replicate (M + 1) (Value.int .i64 0)) 3)).heap[w.heap.size]? = some (.cells ((upd (wOf M q) (M + 1) 0).map (Value.int .i64)).toArray 3 (0, 0))) := by
    show _ = _
    rw [upd_zero]
    simpa using alloc_row w (Array.replicate (M + 1) (Value.int .i64 0)) 3
  go_enter Try.func135, Try.ntmps135
  go_wp2_with fail
  clear hmk
  go_loopw [12] (fun i wr => ∃ (k : Nat), k ≤ M + 1 ∧ i = .int .i64 k ∧ Hid (wr.heap[w.heap.size]? = some (.cells ((upd (wOf M q) (M + 1) k).map (Value.int .i64)).toArray 3 (0, 0))) ∧ Hid (Past w.heap.size w wr)) (fun i _ => M + 1 - (intOf i).toNat)
  case atStart => exact ⟨0, Nat.zero_le _, rfl, H0, Past.of_below ((Below.refl _ _).alloc (Nat.le_refl _) _)⟩
  case round =>
    obtain ⟨k, hk, rfl, HO, HP⟩ := hrel
    by_cases hlt : k < M + 1
    · have hrow := HO.out
      have hbd := wOf_bd M q k hq
      have HB := Lib.hid (fun W => ballOf_impl q (min (M - k) q) hq (by omega) W)
      have HF := Lib.hid (upd_set (wOf M q) (M + 1) k)
      have hcell := getD_cell hrow (i := k) (by rw [upd_len]; exact hlt)
      have hfr := row_freeI hrow k
      have HO2 := Lib.hid (row_setI hrow k (.int .i64 (wOf M q k)))
      rw [map_set, HF.out] at HO2
      have HP2 := Lib.hid (HP.out.trans (Past.of_within (within_set (Within.refl w.heap.size (w.heap.size + 1) wr) (g := w.heap.size) (Nat.le_refl _) (by omega) k (.int .i64 (wOf M q k))) (Nat.le_refl _)))
      have hx : (ball q (min (M - k) q) : Int) = wOf M q k := rfl
      rw [hx] at HB
      clear hrow HF hx
      generalize wOf M q k = x at HB HO2 HP2 hbd
      generalize (upd (wOf M q) (M + 1) k).getD k 0 = z at hcell
      by_cases hmq : (M : Int) - (k : Int) ≤ (q : Int)
      all_goals
        first
        | rw [show ((min (M - k) q : Nat) : Int) = (M : Int) - (k : Int) by omega] at HB
        | rw [show ((min (M - k) q : Nat) : Int) = (q : Int) by omega] at HB
        go_wp2_with fail
        refine (HB.out _).mono ?_
        rintro e w1 ⟨rfl, hw⟩
        have hw := hw.symm
        subst hw
        go_wp2
        go_roundw
        case rel => exact ⟨k + 1, by omega, by go_num, HO2.out, HP2.out⟩
        case measure => simp [intOf]; omega
    · obtain rfl : k = M + 1 := by omega
      rw [upd_all] at HO
      go_wp2
      go_ret
      exact ⟨_, rfl, Nat.le_refl _, HO.out, HP.out.below (Nat.le_refl _) (Nat.le_refl _)⟩

/-- The first k weights of the table. -/
def tabTo (M q k : Nat) : List Int := (List.range k).map (wOf M q)
theorem tabTo_succ (M q k : Nat) : tabTo M q (k + 1) = tabTo M q k ++ [wOf M q k] := by simp [tabTo, List.range_succ]
theorem tabTo_len (M q k : Nat) : (tabTo M q k).length = k := by simp [tabTo]

theorem row_res {w : World} {l : List Int} {lo g : Nat} (h : lo ≤ g) (hr : w.heap[g]? = some (.cells (l.map (Value.int .i64)).toArray 3 (0, 0))) : Res w lo w.heap.size (some ⟨g, 0, none⟩) l :=
  ⟨.inr ⟨g, _, rfl, h, row_ltI hr, hr, by simp, fun j x hx => by simp [hx]⟩, Nat.le_refl _⟩
end Go.Proofs.Ytpjoljaamakagaa
