/- The state behind an answer, in the model. -/
import Derived.Test.YtpjoljaamakagaaAfter
import Derived.Deep.CutRange
namespace Go.Proofs.Ytpjoljaamakagaa
open Go.RowKit Go.ChangeShapes Go.WideShapes
set_option linter.unusedVariables false

theorem own_at {w : World} {g : Nat} {l : List Int} (h : Own w g (g + 1) (some ⟨g, 0, none⟩) l) : ∃ cur, w.heap[g]? = some (.cells cur 3 (0, 0)) ∧ l.length ≤ cur.size ∧ ∀ (j : Nat) (x : Int), l[j]? = some x → cur[j]? = some (Value.int .i64 x) := by
  rcases h with ⟨h, _⟩ | ⟨g', cur, e, h1, h2, hr, hs, hc⟩
  · cases h
  · obtain rfl : g' = g := by omega
    exact ⟨cur, hr, hs, hc⟩
theorem own_cell {w : World} {g k : Nat} {l : List Int} (h : Own w g (g + 1) (some ⟨g, 0, none⟩) l) (hk : k < l.length) : w.cell? ⟨g, k, none⟩ = some (.int .i64 (l.getD k 0)) := by
  obtain ⟨cur, hr, _, hc⟩ := own_at h
  rw [row_cellI hr]
  exact hc k _ (by simp [List.getD, hk])
theorem own_free {w : World} {g : Nat} {l : List Int} (h : Own w g (g + 1) (some ⟨g, 0, none⟩) l) (k : Nat) : w.frozen? ⟨g, k, none⟩ = false := by
  obtain ⟨cur, hr, _, _⟩ := own_at h
  exact row_freeI hr k
theorem own_lt {w : World} {g : Nat} {l : List Int} (h : Own w g (g + 1) (some ⟨g, 0, none⟩) l) : g < w.heap.size := by
  obtain ⟨cur, hr, _, _⟩ := own_at h
  exact row_ltI hr
theorem own_set {w : World} {g k : Nat} {l : List Int} (h : Own w g (g + 1) (some ⟨g, 0, none⟩) l) (hk : k < l.length) (v : Int) : Own (w.setCell ⟨g, k, none⟩ (.int .i64 v)) g (g + 1) (some ⟨g, 0, none⟩) (l.set k v) := by
  obtain ⟨cur, hr, hs, hc⟩ := own_at h
  refine .inr ⟨g, _, rfl, Nat.le_refl _, Nat.lt_succ_self _, row_setI hr k _, by simpa using hs, fun j x hx => ?_⟩
  by_cases e : k = j
  · subst e
    rw [List.getElem?_set_self hk] at hx
    injection hx with hx
    subst hx
    rw [Array.getElem?_setIfInBounds_self_of_lt (by omega)]
  · rw [List.getElem?_set_ne e] at hx
    rw [Array.getElem?_setIfInBounds_ne e]
    exact hc j x hx
theorem own_same {w w' : World} {g : Nat} {l : List Int} (h : Own w g (g + 1) (some ⟨g, 0, none⟩) l) (hw : w'.heap[g]? = w.heap[g]?) : Own w' g (g + 1) (some ⟨g, 0, none⟩) l := by
  obtain ⟨cur, hr, hs, hc⟩ := own_at h
  exact .inr ⟨g, cur, rfl, Nat.le_refl _, Nat.lt_succ_self _, hw.trans hr, hs, hc⟩
theorem set_getD {l : List Int} {k : Nat} {v : Int} (h : k < l.length) : (l.set k v).getD k 0 = v := by
  rw [List.getD, List.getElem?_set_self h]
  rfl
theorem l1Own_row (A : Option Addr) (c lo hi : Nat) (zs : List Int) (w : World) (hS : Ins w lo hi A zs) (h1 : 1 ≤ zs.length) (hn : zs.length ≤ 12) :
    Calls Try.prog 124 #[.slice A zs.length c] w fun e w' => ∃ g c', e = .returned (.slice (some ⟨g, 0, none⟩) zs.length c') ∧ w.heap.size ≤ g ∧ Own w' g (g + 1) (some ⟨g, 0, none⟩) zs ∧ Below w.heap.size w w' := by
  refine (l1Own_any A c lo hi zs w hS h1 hn).mono ?_
  rintro e w' ⟨v, rfl, ho, hb⟩
  obtain ⟨B, c', rfl, _, hr⟩ := own_res ho rfl
  rcases hr.own with ⟨_, h⟩ | ⟨g, cur, rfl, g1, g2, r1, r2, r3⟩
  · rw [h] at h1; simp at h1
  · exact ⟨g, c', rfl, g1, .inr ⟨g, cur, rfl, Nat.le_refl _, Nat.lt_succ_self _, r1, r2, r3⟩, hb⟩

set_option maxRecDepth 100000 in
set_option maxHeartbeats 4000000 in
theorem l2After_any (A : Option Addr) (c lo hi : Nat) (zs : List Int) (m q : Int) (y : Bool) (w : World) (hS : Ins w lo hi A zs) (hst : isSt zs m = true) :
    Calls Try.prog 85 #[.agg #[.slice A zs.length c, .int .i64 m], .int .i64 q, .bool y] w fun e w' => ∃ g c', e = .returned (.agg #[.slice (some ⟨g, 0, none⟩) zs.length c', .int .i64 m]) ∧ w.heap.size ≤ g ∧ Own w' g (g + 1) (some ⟨g, 0, none⟩) (afters zs m q y) ∧ Below w.heap.size w w' := by
  have hl := isSt_len hst
  have hn12 : zs.length ≤ 12 := hl.2.1
  have hn1 : 1 ≤ zs.length := hl.1
  have hm02 : 0 ≤ m ∧ m ≤ 2 := ⟨hl.2.2.1, hl.2.2.2⟩
  have HA := Lib.hid (fun k (h : k < zs.length) => isSt_at hst h)
  have HT := Lib.hid (Two.new w (.slice A zs.length c) (.int .i64 m) 35 w.heap.size rfl)
  have HB := Lib.hid ((Below.refl w.heap.size w).alloc (Nat.le_refl _) (.cells #[.slice A zs.length c, .int .i64 m] 35))
  have HR := Lib.hid (Two.new (w.alloc (.cells #[.slice A zs.length c, .int .i64 m] 35)) (.slice none 0 0) (.int .i64 0) 35 (w.heap.size + 1) (by simp))
  replace HT := Lib.hid (HT.out.step ((Below.refl _ _).alloc (Nat.le_refl _) (.cells #[.slice none 0 0, .int .i64 0] 35)))
  replace HB := Lib.hid (HB.out.alloc HB.out.size (.cells #[.slice none 0 0, .int .i64 0] 35))
  have HI := Lib.hid (hS.step HB.out)
  have HB0 : Hid (w.heap.size + 1 + 1 ≤ ((w.alloc (.cells #[.slice A zs.length c, .int .i64 m] 35)).alloc (.cells #[.slice none 0 0, .int .i64 0] 35)).heap.size) := Lib.hid (Nat.le_of_eq (by simp))
  have hh := hS.top
  clear hS hst hl
  go_enter Try.func85, Try.ntmps85
  go_wp2_with fail
  generalize (w.alloc (.cells #[.slice A zs.length c, .int .i64 m] 35)).alloc (.cells #[.slice none 0 0, .int .i64 0] 35) = wa at HT HR HB HI HB0 ⊢
  have HL := Lib.hid (fun W (h : Below wa.heap.size wa W) => l1Own_row A c lo hi zs W (HI.out.step h) hn1 hn12)
  have h0 := HT.out.c0
  have h1 := HT.out.c1
  have Z0 := (((Below.refl wa.heap.size wa).alloc (Nat.le_refl _) (.cells #[.slice none 0 0, .int .i64 0] 35)).cell (p := ⟨w.heap.size, 0, none⟩) HT.out.lt).trans h0
  have Z1 := (((Below.refl wa.heap.size wa).alloc (Nat.le_refl _) (.cells #[.slice none 0 0, .int .i64 0] 35)).cell (p := ⟨w.heap.size, 1, none⟩) HT.out.lt).trans h1
  have hltw : w.heap.size < wa.heap.size := HT.out.lt
  go_cut [7] from 9 to 14 (fun ov wx => ∃ (v g c' : Nat), ov = .pointer (some ⟨v, 0, none⟩) ∧ Hid (Two wx v (.slice (some ⟨g, 0, none⟩) zs.length c') (.int .i64 m) 35) ∧ Hid (Own wx g (g + 1) (some ⟨g, 0, none⟩) zs) ∧ Hid (Below wa.heap.size wa wx) ∧ wa.heap.size ≤ g ∧ wa.heap.size ≤ v ∧ v ≠ g)
  case first =>
    go_region_with (go_at_call 124; refine (HL.out _ (by first | exact (Below.refl _ _).drew | exact ((Below.refl _ _).drew).alloc (Nat.le_refl _) _ | exact ((Below.refl _ _).alloc (Nat.le_refl _) _).drew)).mono ?_; rintro e w3 ⟨g, c', rfl, hg, ho, hb⟩; have HO := Lib.hid ho; have HBS : Hid (wa.heap.size ≤ g) := Lib.hid (Nat.le_trans (by first | exact Nat.le_refl _ | simp) hg); have HBW : Hid (Below wa.heap.size wa w3) := Lib.hid (by first | exact below_trans ((Below.refl _ _).drew) hb | exact below_trans (((Below.refl _ _).drew).alloc (Nat.le_refl _) _) hb | exact below_trans (((Below.refl _ _).alloc (Nat.le_refl _) _).drew) hb); clear ho; have h1 := (hb.cell (p := ⟨w.heap.size, 1, none⟩) (by have := HT.out.lt; simp; omega)).trans (by first | exact h1 | (exact (((Below.refl _ _).alloc (Nat.le_refl _) _).cell (p := ⟨w.heap.size, 1, none⟩) HT.out.lt).trans h1)); have hlt3 : w.heap.size < w3.heap.size := Nat.lt_of_lt_of_le hltw (Nat.le_trans (by simp) hb.size); have h1b := (((Below.refl w3.heap.size w3).alloc (Nat.le_refl _) (.cells #[.slice none 0 0, .int .i64 0] 35)).cell (p := ⟨w.heap.size, 1, none⟩) hlt3).trans h1; (first | (have HBQ : Hid (wa.heap.size + 1 ≤ g) := Lib.hid (Nat.le_trans (by simp) hg); have HQ : Hid (w3.heap[wa.heap.size]? = some (.cells #[.slice none 0 0, .int .i64 0] 35 (0, 0))) := Lib.hid ((hb.block wa.heap.size (by simp)).trans (alloc_row wa _ _)); have q0 := two0 HQ.out; have q1 := two1 HQ.out; have q2 := row_freeI HQ.out 0; have q3 := row_freeI HQ.out 1) | skip); clear hb)
    all_goals
      go_wp2_with fail
      go_meet
      first
        | exact ⟨w3.heap.size, g, c', rfl, Lib.hid (Two.new w3 _ _ _ _ rfl), Lib.hid (own_same HO.out (((Below.refl _ w3).alloc (Nat.le_refl _) _).block g (own_lt HO.out))), Lib.hid (HBW.out.alloc HBW.out.size _), HBS.out, HBW.out.size, fun e => by have := own_lt HO.out; omega⟩
        | exact ⟨wa.heap.size, g, c', rfl, Lib.hid ⟨(stored2 HQ.out _ _).1⟩, Lib.hid (own_same HO.out ((stored2 HQ.out _ _).2.block g (own_lt HO.out) (.inr HBQ.out))), Lib.hid (HBW.out.trans ((stored2 HQ.out _ _).2.below (Nat.le_refl _) HBW.out.size)), HBS.out, Nat.le_refl _, fun e => by have := HBQ.out; omega⟩
  case rest =>
    obtain ⟨v, g, c', rfl, HV, HO, HBx, hg, hv, hne⟩ := hcut
    replace HT := Lib.hid (HT.out.step HBx.out)
    replace HR := Lib.hid (HR.out.step HBx.out)
    replace HB := Lib.hid (below_trans HB.out HBx.out)
    have hvlt := HV.out.lt
    have hglt := own_lt HO.out
    have hwr : w.heap.size + 1 < wa.heap.size := by have := HB0.out; omega
    clear h0 h1 Z0 Z1 HL HI HBx
    go_wp2_with fail
    go_loopw [8] (fun i wr => ∃ (k : Nat), k ≤ zs.length ∧ i = .int .i64 k ∧ Hid (Own wr g (g + 1) (some ⟨g, 0, none⟩) (aftTo zs m q y k)) ∧ Hid (Within g (g + 1) wc wr)) (fun i _ => zs.length - (intOf i).toNat)
    case atStart => exact ⟨0, Nat.zero_le _, rfl, HO.out, Within.refl _ _ _⟩
    case round =>
      obtain ⟨k, hk, rfl, HP, HW⟩ := hrel
      have hv0 := (HV.out.within HW.out (by omega)).c0
      by_cases hlt : k < zs.length
      · have hat := HA.out k hlt
        have hcell := own_cell HP.out (k := k) (by rw [aftTo_len]; exact hlt)
        rw [aftTo_cell hlt] at hcell
        by_cases hx : 0 ≤ zs[k]
        · have HIF := Lib.hid (fun W => l2False_any q y k W (by omega))
          cases hp : (y != inQ q k) with
          | false =>
            have HF := Lib.hid (aftTo_same (m := m) (q := q) (y := y) hlt (by rw [hp]; exact aft1_no))
            rw [hp] at HIF
            clear hp
            go_wp2_with (go_at_call 125; refine (HIF.out _).mono ?_; rintro e w5 ⟨rfl, rfl⟩)
            go_roundw
            case rel => exact ⟨k + 1, by omega, by go_num, by rw [HF.out]; exact HP.out, HW.out⟩
            case measure => simp [intOf]; omega
          | true =>
            rw [hp] at HIF
            have hfr := own_free HP.out k
            have ht1 := (HT.out.within HW.out (.inl (by omega))).c1
            have HP1 := Lib.hid (own_set HP.out (k := k) (by rw [aftTo_len]; exact hlt) (zs[k] + 1))
            have HW1 := Lib.hid (HW.out.trans (within_set (Within.refl g (g + 1) wr) (Nat.le_refl _) (Nat.lt_succ_self _) k (.int .i64 (zs[k] + 1))))
            have hv1 := (HV.out.within HW1.out (by omega)).c0
            have hu1 := (HT.out.within HW1.out (.inl (by omega))).c1
            have hcell1 := own_cell HP1.out (k := k) (by rw [List.length_set, aftTo_len]; exact hlt)
            rw [set_getD (by rw [aftTo_len]; exact hlt)] at hcell1
            have hfr1 := own_free HP1.out k
            have hz2 : zs[k] ≤ 2 := by omega
            by_cases hm : zs[k] = m
            · have HF := Lib.hid (aftTo_turn (m := m) (q := q) (y := y) (v := -1) hlt (by rw [hp, aft1_yes hx, if_pos hm]))
              have HP2 := Lib.hid (own_set HP1.out (k := k) (by rw [List.length_set, aftTo_len]; exact hlt) (-1))
              rw [List.set_set] at HP2
              have HW2 := Lib.hid (HW1.out.trans (within_set (Within.refl g (g + 1) _) (Nat.le_refl _) (Nat.lt_succ_self _) k (.int .i64 (-1))))
              have hgt : m < zs[k] + 1 := by omega
              clear hp hm
              go_wp2_with (go_at_call 125; refine (HIF.out _).mono ?_; rintro e w5 ⟨rfl, rfl⟩)
              generalize w5.setCell ⟨g, k, none⟩ (.int .i64 (zs[k] + 1)) = ws at HP1 HW1 hv1 hu1 hcell1 hfr1 HP2 HW2 ⊢
              clear hv0 ht1 hcell hfr
              go_quiet (fail)
              go_wp2
              go_roundw
              case rel => exact ⟨k + 1, by omega, by go_num, by rw [HF.out]; exact Lib.hid (own_same HP2.out rfl), Lib.hid (HW2.out.drewN _)⟩
              case measure => simp [intOf]; omega
            · have HF := Lib.hid (aftTo_turn (m := m) (q := q) (y := y) (v := zs[k] + 1) hlt (by rw [hp, aft1_yes hx, if_neg hm]))
              have hle : ¬ m < zs[k] + 1 := by omega
              clear hp hm
              go_wp2_with (go_at_call 125; refine (HIF.out _).mono ?_; rintro e w5 ⟨rfl, rfl⟩)
              generalize w5.setCell ⟨g, k, none⟩ (.int .i64 (zs[k] + 1)) = ws at HP1 HW1 hv1 hu1 hcell1 hfr1 ⊢
              clear hv0 ht1 hcell hfr
              go_quiet (fail)
              go_wp2
              go_roundw
              case rel => exact ⟨k + 1, by omega, by go_num, by rw [HF.out]; exact Lib.hid (own_same HP1.out rfl), Lib.hid (HW1.out.drewN _)⟩
              case measure => simp [intOf]; omega
        · have HF := Lib.hid (aftTo_same (m := m) (q := q) (y := y) hlt (aft1_neg hx))
          go_wp2
          go_roundw
          case rel => exact ⟨k + 1, by omega, by go_num, by rw [HF.out]; exact HP.out, HW.out⟩
          case measure => simp [intOf]; omega
      · obtain rfl : k = zs.length := by omega
        have HV2 := Lib.hid (HV.out.within HW.out (by omega))
        have HR2 := Lib.hid (HR.out.within HW.out (.inl (by omega)))
        have hv1 := HV2.out.c1
        have hr0 := HR2.out.c0
        have hr1 := HR2.out.c1
        have hf0 := HR2.out.f0
        have hf1 := HR2.out.f1
        go_wp2
        obtain ⟨hs, hw⟩ := stored2 HR2.out.row (.slice (some ⟨g, 0, none⟩) zs.length c') (.int .i64 m)
        generalize ((wr.setCell ⟨w.heap.size + 1, 0, none⟩ (.slice (some ⟨g, 0, none⟩) zs.length c')).setCell ⟨w.heap.size + 1, 1, none⟩ (.int .i64 m)) = wf at hs hw ⊢
        have e0 := two0 hs
        have e1 := two1 hs
        refine bodyPost_ret (v := .agg #[.slice (some ⟨g, 0, none⟩) zs.length c', .int .i64 m]) (by simp [results, go_sem, e0, e1]) rfl ?_
        exact ⟨g, c', rfl, by omega, own_same HP.out (hw.block g (own_lt HP.out) (.inr (by omega))), (HB.out.trans (HW.out.below (by omega) HB.out.size)).trans (hw.below (by omega) (Nat.le_trans HB.out.size HW.out.size))⟩
end Go.Proofs.Ytpjoljaamakagaa
