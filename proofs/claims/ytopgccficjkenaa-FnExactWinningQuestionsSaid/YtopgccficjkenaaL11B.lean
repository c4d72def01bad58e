/- The questions that can be chosen: both sides. -/
import Derived.Test.YtopgccficjkenaaL11A
import Derived.Test.YtopgccficjkenaaOpen
import Derived.Deep.DeepMust
namespace Go.Proofs.Ytopgccficjkenaa
open Go.RowKit Go.ChangeShapes Go.WideShapes
set_option linter.unusedVariables false

theorem own_belowR {w w' : World} {B n : Nat} {v : Value} {e : TypeId} {xs : List Value} (h : w.ownsRow B e 1 v n xs) (hb : Below w.heap.size w w') : w'.ownsRow B e 1 v n xs :=
  ⟨h.1, h.2.imp id fun ⟨g, cap, cur, a, b, hg, r⟩ => ⟨g, cap, cur, a, b, (hb.block g (row_ltI hg)).trans hg, r⟩⟩
def choTo (qs zs : List Int) (k : Nat) : List Int := choL (qs.take k) zs
theorem choTo_full (qs zs : List Int) : choTo qs zs qs.length = choL qs zs := by unfold choTo; rw [List.take_length]
theorem choTo_len (qs zs : List Int) (k : Nat) : (choTo qs zs k).length ≤ k := Nat.le_trans (List.length_filter_le _ _) (List.length_take_le _ _)
theorem choTo_yes {qs zs : List Int} {k : Nat} (h : k < qs.length) (hv : vain qs[k] (opens zs) = false) : choTo qs zs (k + 1) = choTo qs zs k ++ [qs[k]] := by
  unfold choTo choL
  rw [List.take_succ_eq_append_getElem h, List.filter_append]
  simp [hv]
theorem choTo_no {qs zs : List Int} {k : Nat} (h : k < qs.length) (hv : vain qs[k] (opens zs) = true) : choTo qs zs (k + 1) = choTo qs zs k := by
  unfold choTo choL
  rw [List.take_succ_eq_append_getElem h, List.filter_append]
  simp [hv]

set_option maxRecDepth 100000 in
set_option maxHeartbeats 8000000 in
theorem choicesAt_any (Q : Option Addr) (cq lo2 hi2 : Nat) (qs : List Int) (mv : Value) (A : Option Addr) (c lo hi : Nat) (zs : List Int) (m : Int) (w : World) (hQ : Ins w lo2 hi2 Q qs) (hS : Ins w lo hi A zs) (hn : qs.length ≤ 1048576)
    (hv : qs = [] ∨ (isSt zs m = true ∧ ∀ q ∈ qs, qOK zs.length q = true)) :
    Calls Try.prog 70 #[.agg #[.slice Q qs.length cq, mv], .agg #[.slice A zs.length c, .int .i64 m]] w fun e w' => ∃ B c', e = .returned (.slice B (choL qs zs).length c') ∧ (choL qs zs).length ≤ c' ∧ Res w' w.heap.size w'.heap.size B (choL qs zs) ∧ Below w.heap.size w w' := by
  obtain ⟨i0, hi0, hz0, hz1, hz2⟩ := info_parts infoI3
  have hqt := hQ.top
  have hst := hS.top
  have HR := Lib.hid (Two.new w (.slice Q qs.length cq) mv 81 w.heap.size rfl)
  have HB := Lib.hid ((Below.refl w.heap.size w).alloc (Nat.le_refl _) (.cells #[.slice Q qs.length cq, mv] 81))
  have HT := Lib.hid (Two.new (w.alloc (.cells #[.slice Q qs.length cq, mv] 81)) (.slice A zs.length c) (.int .i64 m) 26 (w.heap.size + 1) (by simp))
  replace HR := Lib.hid (HR.out.step ((Below.refl _ _).alloc (Nat.le_refl _) (.cells #[.slice A zs.length c, .int .i64 m] 26)))
  replace HB := Lib.hid (HB.out.alloc HB.out.size (.cells #[.slice A zs.length c, .int .i64 m] 26))
  have HQ := Lib.hid (hQ.step HB.out)
  have HS := Lib.hid (hS.step HB.out)
  have HS0 : Hid (((w.alloc (.cells #[.slice Q qs.length cq, mv] 81)).alloc (.cells #[.slice A zs.length c, .int .i64 m] 26)).heap.size = w.heap.size + 2) := Lib.hid (by simp)
  have HV := Lib.hid (fun k (h : k < qs.length) W hh => (vainQuestion_impl A c lo hi zs m qs[k] W hh (by rcases hv with rfl | hv; (exact absurd h (by simp)); exact hv.1) (by rcases hv with rfl | hv; (exact absurd h (by simp)); exact hv.2 _ (List.getElem_mem h))))
  clear hQ hS hv
  go_enter Try.func70, Try.ntmps70
  go_wp2_with fail
  generalize (w.alloc (.cells #[.slice Q qs.length cq, mv] 81)).alloc (.cells #[.slice A zs.length c, .int .i64 m] 26) = w0 at HR HT HB HQ HS HS0 ⊢
  have hlt0 := HT.out.lt
  have O0 := Lib.hid (O0_any w0 (w.heap.size + 2) hlt0)
  have hs0 : w0.heap.size = w.heap.size + 2 := HS0.out
  have h0 := (HR.out.step ((Below.refl _ _).alloc (Nat.le_refl _) (.cells #[] 3))).c0
  go_wp2_with fail
  go_loopw [5, 14] (fun out i wr => ∃ (k : Nat), k ≤ qs.length ∧ i = .int .i64 k ∧ Hid (wr.ownsRow (w.heap.size + 2) 3 1 out (choTo qs zs k).length ((choTo qs zs k).map (Value.int .i64))) ∧ Hid (Past (w.heap.size + 2) w0 wr)) (fun _ i _ => qs.length - (intOf i).toNat)
  case atStart => exact ⟨0, Nat.zero_le _, rfl, (by first | exact O0 | (have hz := O0.out; rw [hs0] at hz; exact Lib.hid hz)), Past.of_below ((Below.refl _ _).alloc (Nat.le_refl _) _)⟩
  case round =>
    clear h0 O0
    obtain ⟨k, hk, rfl, HO, HP⟩ := hrel
    rename World => w1
    have hsz := HP.out.size
    by_cases hlt : k < qs.length
    · have hltI : (k : Int) < (qs.length : Int) := by omega
      obtain ⟨b, o, rfl, _, hb, hc⟩ := (HQ.out.past HP.out (by omega)).ints.at_ hlt
      have hk0 := cell_past HP.out HT.out.c0 (by show w.heap.size + 1 < w.heap.size + 2; omega)
      have hk1 := cell_past HP.out HT.out.c1 (by show w.heap.size + 1 < w.heap.size + 2; omega)
      have HSk := Lib.hid (HS.out.past HP.out (by omega))
      have HVk := Lib.hid (fun W hh => HV.out k hlt W hh)
      have HY := Lib.hid (fun e => choTo_yes (zs := zs) hlt e)
      have HN := Lib.hid (fun e => choTo_no (zs := zs) hlt e)
      have hfl := choTo_len qs zs k
      generalize qs[k] = x at hc HVk HY HN
      generalize vain x (opens zs) = v at HVk HY HN
      go_wp2_with fail
      refine (HVk.out w1 HSk.out).mono ?_
      rintro e w2 ⟨rfl, hb2⟩
      have hsz2 := hb2.size
      replace HO := Lib.hid (own_belowR HO.out hb2)
      replace HP := Lib.hid (HP.out.trans (Past.of_below hb2))
      clear hb2 hc hk0 hk1 HSk
      generalize choTo qs zs k = f at HO HY HN hfl
      cases v with
      | false =>
        have HYr := Lib.hid (HY.out rfl)
        clear HY HN
        have hown := HO.out
        clear hs0
        go_wp2_with (at_builtin; go_must (refine wpList_append_own _ rfl _ _ 24 rfl (w.heap.size + 2) 3 i0 (.int .i64 0) 1 8 Try.underlying24 hi0 hz0 hz1 hz2 rfl (by decide) _ _ _ rfl (hown.alloc _) ⟨w2.heap.size, 0, none⟩ 1 1 [.int .i64 x] rfl rfl (cell_one_new _ _ _) (by simp [Value.oneCell']) (by unfold maxLen; omega) (by omega) (by simp; omega) ?_; intro v' w3 hown' hgrow _))
        have HO2 := Lib.hid (own_snocI hown' rfl)
        have HP2 := Lib.hid (HP.out.trans (Past.grown hown hgrow))
        clear hown' hgrow hown HO
        go_wp2
        go_roundw
        case rel => exact ⟨k + 1, by omega, by go_num, Lib.hid (by rw [HYr.out]; exact HO2.out), HP2⟩
        case measure => simp [intOf]; omega
      | true =>
        have HNr := Lib.hid (HN.out rfl)
        clear HY HN
        go_wp2
        go_roundw
        case rel => exact ⟨k + 1, by omega, by go_num, Lib.hid (by rw [HNr.out]; exact HO.out), HP⟩
        case measure => simp [intOf]; omega
    · obtain rfl : k = qs.length := by omega
      have hltI : ¬ (qs.length : Int) < (qs.length : Int) := by omega
      rw [choTo_full] at HO
      obtain ⟨B, c', rfl, hcap, hr⟩ := own_res HO.out rfl
      have HCap := Lib.hid hcap
      clear hcap
      clear HO
      go_wp2
      go_ret
      have HX := Lib.hid (show Res _ w.heap.size _ B (choL qs zs) from ⟨hr.own.wide (by omega) (Nat.le_refl _), Nat.le_refl _⟩)
      have HY := Lib.hid (HB.out.trans (HP.out.below (by omega) HB.out.size))
      first | exact ⟨_, _, rfl, HCap.out, HX.out, HY.out⟩ | exact ⟨_, ⟨_, rfl⟩, HCap.out, HX.out, HY.out⟩ | exact ⟨⟨_, rfl⟩, HCap.out, HX.out, HY.out⟩ | exact ⟨rfl, HCap.out, HX.out, HY.out⟩ | exact ⟨HCap.out, HX.out, HY.out⟩
end Go.Proofs.Ytopgccficjkenaa
