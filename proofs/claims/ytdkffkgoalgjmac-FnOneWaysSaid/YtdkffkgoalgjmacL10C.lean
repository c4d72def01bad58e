/- The State behind an answer, lies in one direction: of the specification; both. -/
import Derived.Test.YtdkffkgoalgjmacL10B
import Derived.Test.YtdkffkgoalgjmacVain
namespace Go.Proofs.Ytdkffkgoalgjmac
open Go.RowKit Go.ChangeShapes Go.WideShapes
set_option linter.unusedVariables false

set_option maxRecDepth 100000 in
set_option maxHeartbeats 4000000 in
theorem l10After_yes (A : Option Addr) (c lo hi : Nat) (zs : List Int) (m q : Int) (w : World) (hS : Ins w lo hi A zs) (hst : isSt zs m = true) :
    Calls Try.prog 83 #[.agg #[.slice A zs.length c, .int .i64 m], .int .i64 q, .bool true] w fun e w' => ∃ g c', e = .returned (.agg #[.slice (some ⟨g, 0, none⟩) zs.length c', .int .i64 m]) ∧ w.heap.size ≤ g ∧ Own w' g (g + 1) (some ⟨g, 0, none⟩) (owTo zs q zs.length) ∧ Below w.heap.size w w' := by
  have hl := isSt_len hst
  have hn12 : zs.length ≤ 12 := hl.2.1
  have hn1 : 1 ≤ zs.length := hl.1
  have hm02 : 0 ≤ m ∧ m ≤ 2 := ⟨hl.2.2.1, hl.2.2.2⟩
  have HA := Lib.hid (fun k (h : k < zs.length) => isSt_at hst h)
  have HT := Lib.hid (Two.new w (.slice A zs.length c) (.int .i64 m) 28 w.heap.size rfl)
  have HB := Lib.hid ((Below.refl w.heap.size w).alloc (Nat.le_refl _) (.cells #[.slice A zs.length c, .int .i64 m] 28))
  have HR := Lib.hid (Two.new (w.alloc (.cells #[.slice A zs.length c, .int .i64 m] 28)) (.slice none 0 0) (.int .i64 0) 28 (w.heap.size + 1) (by simp))
  replace HT := Lib.hid (HT.out.step ((Below.refl _ _).alloc (Nat.le_refl _) (.cells #[.slice none 0 0, .int .i64 0] 28)))
  replace HB := Lib.hid (HB.out.alloc HB.out.size (.cells #[.slice none 0 0, .int .i64 0] 28))
  have HI := Lib.hid (hS.step HB.out)
  have HB0 : Hid (w.heap.size + 1 + 1 ≤ ((w.alloc (.cells #[.slice A zs.length c, .int .i64 m] 28)).alloc (.cells #[.slice none 0 0, .int .i64 0] 28)).heap.size) := Lib.hid (Nat.le_of_eq (by simp))
  have hh := hS.top
  clear hS hst hl
  go_enter Try.func83, Try.ntmps83
  go_wp2_with fail
  generalize (w.alloc (.cells #[.slice A zs.length c, .int .i64 m] 28)).alloc (.cells #[.slice none 0 0, .int .i64 0] 28) = wa at HT HR HB HI HB0 ⊢
  have HL := Lib.hid (fun W (h : Below wa.heap.size wa W) => l1Own_row A c lo hi zs W (HI.out.step h) hn1 hn12)
  have h0 := HT.out.c0
  have h1 := HT.out.c1
  have Z0 := (((Below.refl wa.heap.size wa).alloc (Nat.le_refl _) (.cells #[.slice none 0 0, .int .i64 0] 28)).cell (p := ⟨w.heap.size, 0, none⟩) HT.out.lt).trans h0
  have Z1 := (((Below.refl wa.heap.size wa).alloc (Nat.le_refl _) (.cells #[.slice none 0 0, .int .i64 0] 28)).cell (p := ⟨w.heap.size, 1, none⟩) HT.out.lt).trans h1
  have hltw : w.heap.size < wa.heap.size := HT.out.lt
  go_cut [7] from 14 to 19 (fun ov wx => ∃ (v g c' : Nat), ov = .pointer (some ⟨v, 0, none⟩) ∧ Hid (Two wx v (.slice (some ⟨g, 0, none⟩) zs.length c') (.int .i64 m) 28) ∧ Hid (Own wx g (g + 1) (some ⟨g, 0, none⟩) zs) ∧ Hid (Below wa.heap.size wa wx) ∧ wa.heap.size ≤ g ∧ wa.heap.size ≤ v ∧ v ≠ g)
  case first =>
    go_region_with (go_at_call 97; refine (HL.out _ (by first | exact (Below.refl _ _).drew | exact ((Below.refl _ _).drew).alloc (Nat.le_refl _) _ | exact ((Below.refl _ _).alloc (Nat.le_refl _) _).drew)).mono ?_; rintro e w3 ⟨g, c', rfl, hg, ho, hb⟩; have HO := Lib.hid ho; have HBS : Hid (wa.heap.size ≤ g) := Lib.hid (Nat.le_trans (by first | exact Nat.le_refl _ | simp) hg); have HBW : Hid (Below wa.heap.size wa w3) := Lib.hid (by first | exact below_trans ((Below.refl _ _).drew) hb | exact below_trans (((Below.refl _ _).drew).alloc (Nat.le_refl _) _) hb | exact below_trans (((Below.refl _ _).alloc (Nat.le_refl _) _).drew) hb); clear ho; have h1 := (hb.cell (p := ⟨w.heap.size, 1, none⟩) (by have := HT.out.lt; simp; omega)).trans (by first | exact h1 | (exact (((Below.refl _ _).alloc (Nat.le_refl _) _).cell (p := ⟨w.heap.size, 1, none⟩) HT.out.lt).trans h1)); have hlt3 : w.heap.size < w3.heap.size := Nat.lt_of_lt_of_le hltw (Nat.le_trans (by simp) hb.size); have h1b := (((Below.refl w3.heap.size w3).alloc (Nat.le_refl _) (.cells #[.slice none 0 0, .int .i64 0] 28)).cell (p := ⟨w.heap.size, 1, none⟩) hlt3).trans h1; (first | (have HBQ : Hid (wa.heap.size + 1 ≤ g) := Lib.hid (Nat.le_trans (by simp) hg); have HQ : Hid (w3.heap[wa.heap.size]? = some (.cells #[.slice none 0 0, .int .i64 0] 28 (0, 0))) := Lib.hid ((hb.block wa.heap.size (by simp)).trans (alloc_row wa _ _)); have q0 := two0 HQ.out; have q1 := two1 HQ.out; have q2 := row_freeI HQ.out 0; have q3 := row_freeI HQ.out 1) | skip); clear hb)
    all_goals
      go_wp2_with fail
      go_meet
      first
        | exact ⟨w3.heap.size, g, c', rfl, Lib.hid (Two.new w3 _ _ _ _ rfl), Lib.hid (own_same HO.out (((Below.refl _ w3).alloc (Nat.le_refl _) _).block g (own_lt HO.out))), Lib.hid (HBW.out.alloc HBW.out.size _), HBS.out, HBW.out.size, fun e => by have := own_lt HO.out; omega⟩
        | exact ⟨wa.heap.size, g, c', rfl, Lib.hid ⟨(stored2 HQ.out _ _).1⟩, Lib.hid (own_same HO.out ((stored2 HQ.out _ _).2.block g (own_lt HO.out) (.inr HBQ.out))), Lib.hid (HBW.out.trans ((stored2 HQ.out _ _).2.below (Nat.le_refl _) HBW.out.size)), HBS.out, Nat.le_refl _, fun e => by have := HBQ.out; omega⟩
  case rest =>
    obtain ⟨v, g, c', rfl, HV, HO, HBx, hg, hv, hne⟩ := hcut
    replace HT := Lib.hid (HT.out.step HBx.out)
    replace HR := Lib.hid (HR.out.step HBx.out)
    replace HB := Lib.hid (below_trans HB.out HBx.out)
    have hvlt := HV.out.lt
    have hglt := own_lt HO.out
    have hwr : w.heap.size + 1 < wa.heap.size := by have := HB0.out; omega
    clear h0 h1 Z0 Z1 HL HI HBx
    go_wp2_with fail
    go_loopw [8] (fun i wr => ∃ (k : Nat), k ≤ zs.length ∧ i = .int .i64 k ∧ Hid (Own wr g (g + 1) (some ⟨g, 0, none⟩) (owTo zs q k)) ∧ Hid (Within g (g + 1) wc wr)) (fun i _ => zs.length - (intOf i).toNat)
    case atStart => exact ⟨0, Nat.zero_le _, rfl, Lib.hid (by rw [owTo_zero]; exact HO.out), Lib.hid (Within.refl _ _ _)⟩
    case round =>
      obtain ⟨k, hk, rfl, HP, HW⟩ := hrel
      rename World => wr
      have hv0 := (HV.out.within HW.out (by omega)).c0
      by_cases hlt : k < zs.length
      · cases hp : inQ q k with
        | true =>
          have HF := Lib.hid (owTo_same (zs := zs) hp)
          have hb1 : bits .and .i64 (q / 2 ^ k) 1 = 1 := by simpa [inQ] using hp
          clear hp
          go_wp2
          go_roundw
          case rel => exact ⟨k + 1, by omega, by go_num, by rw [HF.out]; exact HP, HW⟩
          case measure => simp [intOf]; omega
        | false =>
          have HF := Lib.hid (owTo_turn (zs := zs) hp)
          have hb1 : bits .and .i64 (q / 2 ^ k) 1 = 0 := by
            have h1 : ¬ bits .and .i64 (q / 2 ^ k) 1 = 1 := by simpa [inQ] using hp
            exact (bits_1 _).resolve_right h1
          clear hp
          have hcell := own_cell HP.out (k := k) (by rw [owTo_len]; exact hlt)
          have hfr := own_free HP.out k
          have HP1 := Lib.hid (own_set HP.out (k := k) (by rw [owTo_len]; exact hlt) (-1))
          rw [HF.out] at HP1
          have HW1 := Lib.hid (HW.out.trans (within_set (Within.refl g (g + 1) wr) (Nat.le_refl _) (Nat.lt_succ_self _) k (.int .i64 (-1))))
          generalize (owTo zs q k).getD k 0 = z0 at hcell
          go_wp2
          go_roundw
          case rel => exact ⟨k + 1, by omega, by go_num, HP1, HW1⟩
          case measure => simp [intOf]; omega
      · obtain rfl : k = zs.length := by omega
        have HV2 := Lib.hid (HV.out.within HW.out (by omega))
        have HR2 := Lib.hid (HR.out.within HW.out (.inl (by omega)))
        have hv1 := HV2.out.c1
        have hr0 := HR2.out.c0
        have hr1 := HR2.out.c1
        have hf0 := HR2.out.f0
        have hf1 := HR2.out.f1
        go_wp2
        obtain ⟨hs, hw⟩ := stored2 HR2.out.row (.slice (some ⟨g, 0, none⟩) zs.length c') (.int .i64 m)
        generalize ((wr.setCell ⟨w.heap.size + 1, 0, none⟩ (.slice (some ⟨g, 0, none⟩) zs.length c')).setCell ⟨w.heap.size + 1, 1, none⟩ (.int .i64 m)) = wf at hs hw ⊢
        have e0 := two0 hs
        have e1 := two1 hs
        refine bodyPost_ret (v := .agg #[.slice (some ⟨g, 0, none⟩) zs.length c', .int .i64 m]) (by simp [results, go_sem, e0, e1]) rfl ?_
        exact ⟨g, c', rfl, by omega, own_same HP.out (hw.block g (own_lt HP.out) (.inr (by omega))), (HB.out.trans (HW.out.below (by omega) HB.out.size)).trans (hw.below (by omega) (Nat.le_trans HB.out.size HW.out.size))⟩
set_option maxRecDepth 100000 in
set_option maxHeartbeats 2000000 in
theorem l10After_no (A : Option Addr) (c lo hi : Nat) (zs : List Int) (m q : Int) (w : World) (hS : Ins w lo hi A zs) (hst : isSt zs m = true) :
    Calls Try.prog 83 #[.agg #[.slice A zs.length c, .int .i64 m], .int .i64 q, .bool false] w fun e w' => ∃ g c', e = .returned (.agg #[.slice (some ⟨g, 0, none⟩) zs.length c', .int .i64 m]) ∧ w.heap.size ≤ g ∧ Own w' g (g + 1) (some ⟨g, 0, none⟩) (afters zs m q false) ∧ Below w.heap.size w w' := by
  have HL := Lib.hid (fun W h => l2After_any A c lo hi zs m q false W h hst)
  have HT := Lib.hid (Two.new w (.slice A zs.length c) (.int .i64 m) 28 w.heap.size rfl)
  have HB := Lib.hid ((Below.refl w.heap.size w).alloc (Nat.le_refl _) (.cells #[.slice A zs.length c, .int .i64 m] 28))
  have HR := Lib.hid (Two.new (w.alloc (.cells #[.slice A zs.length c, .int .i64 m] 28)) (.slice none 0 0) (.int .i64 0) 28 (w.heap.size + 1) (by simp))
  replace HT := Lib.hid (HT.out.step ((Below.refl _ _).alloc (Nat.le_refl _) (.cells #[.slice none 0 0, .int .i64 0] 28)))
  replace HB := Lib.hid (HB.out.alloc HB.out.size (.cells #[.slice none 0 0, .int .i64 0] 28))
  have HI := Lib.hid (hS.step HB.out)
  clear hS hst
  go_enter Try.func83, Try.ntmps83
  go_upto_region 1 with fail
  generalize (w.alloc (.cells #[.slice A zs.length c, .int .i64 m] 28)).alloc (.cells #[.slice none 0 0, .int .i64 0] 28) = wa at HT HR HB HI ⊢
  have h0 := HT.out.c0
  have h1 := HT.out.c1
  go_wp2_with fail
  refine (HL.out wa HI.out).mono ?_
  rintro e wd ⟨g, c', rfl, hg, ho, hb⟩
  have hgu : w.heap.size + 1 < g := Nat.lt_of_lt_of_le HR.out.lt hg
  have HO := Lib.hid ho
  replace HR := Lib.hid (HR.out.step hb)
  replace HB := Lib.hid (below_trans HB.out hb)
  clear hb ho h0 h1 HT HI
  have r0 := HR.out.c0
  have r1 := HR.out.c1
  have r2 := HR.out.f0
  have r3 := HR.out.f1
  go_wp2
  obtain ⟨hs, hw⟩ := stored2 HR.out.row (.slice (some ⟨g, 0, none⟩) zs.length c') (.int .i64 m)
  generalize ((wd.setCell ⟨w.heap.size + 1, 0, none⟩ (.slice (some ⟨g, 0, none⟩) zs.length c')).setCell ⟨w.heap.size + 1, 1, none⟩ (.int .i64 m)) = wf at hs hw ⊢
  have e0 := two0 hs
  have e1 := two1 hs
  refine bodyPost_ret (v := .agg #[.slice (some ⟨g, 0, none⟩) zs.length c', .int .i64 m]) (by simp [results, go_sem, e0, e1]) rfl ?_
  exact ⟨g, c', rfl, by omega, own_same HO.out (hw.block g (own_lt HO.out) (.inr (by omega))), HB.out.trans (hw.below (by omega) HB.out.size)⟩
theorem l10After_any (A : Option Addr) (c lo hi : Nat) (zs : List Int) (m q : Int) (y : Bool) (w : World) (hS : Ins w lo hi A zs) (hst : isSt zs m = true) :
    Calls Try.prog 83 #[.agg #[.slice A zs.length c, .int .i64 m], .int .i64 q, .bool y] w fun e w' => ∃ g c', e = .returned (.agg #[.slice (some ⟨g, 0, none⟩) zs.length c', .int .i64 m]) ∧ w.heap.size ≤ g ∧ Own w' g (g + 1) (some ⟨g, 0, none⟩) (owA zs m q y) ∧ Below w.heap.size w w' := by
  cases y with
  | false => rw [owA_no]; exact l10After_no A c lo hi zs m q w hS hst
  | true => rw [owA_yes]; exact l10After_yes A c lo hi zs m q w hS hst
set_option maxHeartbeats 2000000 in
theorem oneWayState_spec_no (A : Option Addr) (c lo hi : Nat) (zs : List Int) (m q : Int) (y : Bool) (w : World) (hS : Ins w lo hi A zs) (hl : zs.length ≤ 1048576) (hst : isSt zs m = false) :
    Calls Try.prog 28 #[.agg #[.slice A zs.length c, .int .i64 m], .agg #[.int .i64 q, .bool y]] w fun e w' => e = .returned (.tuple #[.agg #[.slice none 0 0, .int .i64 0], .bool false]) ∧ Below w.heap.size w w' := by
  have HC := Lib.hid (fun W h => l2State_any A c lo hi zs m W h hl)
  rw [hst] at HC
  have HT := Lib.hid (Two.new w (.slice A zs.length c) (.int .i64 m) 28 w.heap.size rfl)
  have HB := Lib.hid ((Below.refl w.heap.size w).alloc (Nat.le_refl _) (.cells #[.slice A zs.length c, .int .i64 m] 28))
  have HU := Lib.hid (Two.new (w.alloc (.cells #[.slice A zs.length c, .int .i64 m] 28)) (.int .i64 q) (.bool y) 52 (w.heap.size + 1) (by simp))
  replace HT := Lib.hid (HT.out.step ((Below.refl _ _).alloc (Nat.le_refl _) (.cells #[.int .i64 q, .bool y] 52)))
  replace HB := Lib.hid (HB.out.alloc HB.out.size (.cells #[.int .i64 q, .bool y] 52))
  have HR := Lib.hid (Two.new ((w.alloc (.cells #[.slice A zs.length c, .int .i64 m] 28)).alloc (.cells #[.int .i64 q, .bool y] 52)) (.slice none 0 0) (.int .i64 0) 28 (w.heap.size + 1 + 1) (by simp))
  replace HT := Lib.hid (HT.out.step ((Below.refl _ _).alloc (Nat.le_refl _) (.cells #[.slice none 0 0, .int .i64 0] 28)))
  replace HU := Lib.hid (HU.out.step ((Below.refl _ _).alloc (Nat.le_refl _) (.cells #[.slice none 0 0, .int .i64 0] 28)))
  replace HB := Lib.hid (HB.out.alloc HB.out.size (.cells #[.slice none 0 0, .int .i64 0] 28))
  have HI := Lib.hid (hS.step HB.out)
  clear hS hst
  go_enter Try.func28, Try.ntmps28
  go_wp2_with fail
  generalize ((w.alloc (.cells #[.slice A zs.length c, .int .i64 m] 28)).alloc (.cells #[.int .i64 q, .bool y] 52)).alloc (.cells #[.slice none 0 0, .int .i64 0] 28) = wa at HT HU HR HB HI ⊢
  refine (HC.out wa HI.out).mono ?_
  rintro e wb ⟨rfl, hb⟩
  replace HT := Lib.hid (HT.out.step hb)
  replace HU := Lib.hid (HU.out.step hb)
  replace HR := Lib.hid (HR.out.step hb)
  replace HI := Lib.hid (HI.out.step hb)
  replace HB := Lib.hid (below_trans HB.out hb)
  clear hb HC
  have h0 := HT.out.c0
  have h1 := HT.out.c1
  have h2 := HU.out.c0
  have h3 := HU.out.c1
  have r0 := HR.out.c0
  have r1 := HR.out.c1
  have r2 := HR.out.f0
  have r3 := HR.out.f1
  go_wp2
  obtain ⟨hs, hw⟩ := stored2 HR.out.row (.slice none 0 0) (.int .i64 0)
  generalize ((wb.setCell ⟨w.heap.size + 1 + 1, 0, none⟩ (.slice none 0 0)).setCell ⟨w.heap.size + 1 + 1, 1, none⟩ (.int .i64 0)) = wf at hs hw ⊢
  have e0 := two0 hs
  have e1 := two1 hs
  refine bodyPost_ret (v := .tuple #[.agg #[.slice none 0 0, .int .i64 0], .bool false]) (by simp [results, go_sem, e0, e1]) rfl ?_
  exact ⟨rfl, HB.out.trans (hw.below (by omega) HB.out.size)⟩
set_option maxHeartbeats 2000000 in
theorem oneWayState_spec_bad (A : Option Addr) (c lo hi : Nat) (zs : List Int) (m q : Int) (y : Bool) (w : World) (hS : Ins w lo hi A zs) (hl : zs.length ≤ 1048576) (hst : isSt zs m = true) (hq : qOK zs.length q = false) :
    Calls Try.prog 28 #[.agg #[.slice A zs.length c, .int .i64 m], .agg #[.int .i64 q, .bool y]] w fun e w' => e = .returned (.tuple #[.agg #[.slice none 0 0, .int .i64 0], .bool false]) ∧ Below w.heap.size w w' := by
  have HC := Lib.hid (fun W h => l2State_any A c lo hi zs m W h hl)
  rw [hst] at HC
  have HD := Lib.hid (fun W => l2Question_any A zs.length c m q W)
  rw [hq] at HD
  have HT := Lib.hid (Two.new w (.slice A zs.length c) (.int .i64 m) 28 w.heap.size rfl)
  have HB := Lib.hid ((Below.refl w.heap.size w).alloc (Nat.le_refl _) (.cells #[.slice A zs.length c, .int .i64 m] 28))
  have HU := Lib.hid (Two.new (w.alloc (.cells #[.slice A zs.length c, .int .i64 m] 28)) (.int .i64 q) (.bool y) 52 (w.heap.size + 1) (by simp))
  replace HT := Lib.hid (HT.out.step ((Below.refl _ _).alloc (Nat.le_refl _) (.cells #[.int .i64 q, .bool y] 52)))
  replace HB := Lib.hid (HB.out.alloc HB.out.size (.cells #[.int .i64 q, .bool y] 52))
  have HR := Lib.hid (Two.new ((w.alloc (.cells #[.slice A zs.length c, .int .i64 m] 28)).alloc (.cells #[.int .i64 q, .bool y] 52)) (.slice none 0 0) (.int .i64 0) 28 (w.heap.size + 1 + 1) (by simp))
  replace HT := Lib.hid (HT.out.step ((Below.refl _ _).alloc (Nat.le_refl _) (.cells #[.slice none 0 0, .int .i64 0] 28)))
  replace HU := Lib.hid (HU.out.step ((Below.refl _ _).alloc (Nat.le_refl _) (.cells #[.slice none 0 0, .int .i64 0] 28)))
  replace HB := Lib.hid (HB.out.alloc HB.out.size (.cells #[.slice none 0 0, .int .i64 0] 28))
  have HI := Lib.hid (hS.step HB.out)
  clear hS hst hq
  go_enter Try.func28, Try.ntmps28
  go_wp2_with fail
  generalize ((w.alloc (.cells #[.slice A zs.length c, .int .i64 m] 28)).alloc (.cells #[.int .i64 q, .bool y] 52)).alloc (.cells #[.slice none 0 0, .int .i64 0] 28) = wa at HT HU HR HB HI ⊢
  refine (HC.out wa HI.out).mono ?_
  rintro e wb ⟨rfl, hb⟩
  replace HT := Lib.hid (HT.out.step hb)
  replace HU := Lib.hid (HU.out.step hb)
  replace HR := Lib.hid (HR.out.step hb)
  replace HI := Lib.hid (HI.out.step hb)
  replace HB := Lib.hid (below_trans HB.out hb)
  clear hb HC
  have h0 := HT.out.c0
  have h1 := HT.out.c1
  have h2 := HU.out.c0
  have h3 := HU.out.c1
  have r0 := HR.out.c0
  have r1 := HR.out.c1
  have r2 := HR.out.f0
  have r3 := HR.out.f1
  go_wp2_with fail
  refine (HD.out wb).mono ?_
  rintro e w1 ⟨rfl, hb⟩
  replace HR := Lib.hid (HR.out.step hb)
  replace HB := Lib.hid (below_trans HB.out hb)
  clear hb h0 h1 h2 h3 r0 r1 r2 r3
  have r0 := HR.out.c0
  have r1 := HR.out.c1
  have r2 := HR.out.f0
  have r3 := HR.out.f1
  go_wp2
  obtain ⟨hs, hw⟩ := stored2 HR.out.row (.slice none 0 0) (.int .i64 0)
  generalize ((w1.setCell ⟨w.heap.size + 1 + 1, 0, none⟩ (.slice none 0 0)).setCell ⟨w.heap.size + 1 + 1, 1, none⟩ (.int .i64 0)) = wf at hs hw ⊢
  have e0 := two0 hs
  have e1 := two1 hs
  refine bodyPost_ret (v := .tuple #[.agg #[.slice none 0 0, .int .i64 0], .bool false]) (by simp [results, go_sem, e0, e1]) rfl ?_
  exact ⟨rfl, HB.out.trans (hw.below (by omega) HB.out.size)⟩
set_option maxHeartbeats 2000000 in
theorem oneWayState_spec (A : Option Addr) (c lo hi : Nat) (zs : List Int) (m q : Int) (y : Bool) (w : World) (hS : Ins w lo hi A zs) (hst : isSt zs m = true) (hq : qOK zs.length q = true) :
    Calls Try.prog 28 #[.agg #[.slice A zs.length c, .int .i64 m], .agg #[.int .i64 q, .bool y]] w fun e w' => ∃ g c', e = .returned (.tuple #[.agg #[.slice (some ⟨g, 0, none⟩) zs.length c', .int .i64 m], .bool true]) ∧ w.heap.size ≤ g ∧ Own w' g (g + 1) (some ⟨g, 0, none⟩) (owA zs m q y) ∧ Below w.heap.size w w' := by
  have hl := (isSt_len hst).2.1
  have HC := Lib.hid (fun W h => l2State_any A c lo hi zs m W h (by omega))
  rw [hst] at HC
  have HD := Lib.hid (fun W => l2Question_any A zs.length c m q W)
  rw [hq] at HD
  have HT := Lib.hid (Two.new w (.slice A zs.length c) (.int .i64 m) 28 w.heap.size rfl)
  have HB := Lib.hid ((Below.refl w.heap.size w).alloc (Nat.le_refl _) (.cells #[.slice A zs.length c, .int .i64 m] 28))
  have HU := Lib.hid (Two.new (w.alloc (.cells #[.slice A zs.length c, .int .i64 m] 28)) (.int .i64 q) (.bool y) 52 (w.heap.size + 1) (by simp))
  replace HT := Lib.hid (HT.out.step ((Below.refl _ _).alloc (Nat.le_refl _) (.cells #[.int .i64 q, .bool y] 52)))
  replace HB := Lib.hid (HB.out.alloc HB.out.size (.cells #[.int .i64 q, .bool y] 52))
  have HR := Lib.hid (Two.new ((w.alloc (.cells #[.slice A zs.length c, .int .i64 m] 28)).alloc (.cells #[.int .i64 q, .bool y] 52)) (.slice none 0 0) (.int .i64 0) 28 (w.heap.size + 1 + 1) (by simp))
  replace HT := Lib.hid (HT.out.step ((Below.refl _ _).alloc (Nat.le_refl _) (.cells #[.slice none 0 0, .int .i64 0] 28)))
  replace HU := Lib.hid (HU.out.step ((Below.refl _ _).alloc (Nat.le_refl _) (.cells #[.slice none 0 0, .int .i64 0] 28)))
  replace HB := Lib.hid (HB.out.alloc HB.out.size (.cells #[.slice none 0 0, .int .i64 0] 28))
  have HI := Lib.hid (hS.step HB.out)
  have HL := Lib.hid (fun W h => l10After_any A c lo hi zs m q y W h hst)
  clear hS hst hq
  go_enter Try.func28, Try.ntmps28
  go_wp2_with fail
  generalize ((w.alloc (.cells #[.slice A zs.length c, .int .i64 m] 28)).alloc (.cells #[.int .i64 q, .bool y] 52)).alloc (.cells #[.slice none 0 0, .int .i64 0] 28) = wa at HT HU HR HB HI ⊢
  refine (HC.out wa HI.out).mono ?_
  rintro e wb ⟨rfl, hb⟩
  replace HT := Lib.hid (HT.out.step hb)
  replace HU := Lib.hid (HU.out.step hb)
  replace HR := Lib.hid (HR.out.step hb)
  replace HI := Lib.hid (HI.out.step hb)
  replace HB := Lib.hid (below_trans HB.out hb)
  clear hb HC
  have h0 := HT.out.c0
  have h1 := HT.out.c1
  have h2 := HU.out.c0
  have h3 := HU.out.c1
  have r0 := HR.out.c0
  have r1 := HR.out.c1
  have r2 := HR.out.f0
  have r3 := HR.out.f1
  go_wp2_with fail
  refine (HD.out wb).mono ?_
  rintro e w1 ⟨rfl, hb⟩
  replace HT := Lib.hid (HT.out.step hb)
  replace HU := Lib.hid (HU.out.step hb)
  replace HR := Lib.hid (HR.out.step hb)
  replace HI := Lib.hid (HI.out.step hb)
  replace HB := Lib.hid (below_trans HB.out hb)
  clear hb h0 h1 h2 h3 r0 r1 r2 r3
  have h0 := HT.out.c0
  have h1 := HT.out.c1
  have h2 := HU.out.c0
  have h3 := HU.out.c1
  go_wp2_with fail
  refine (HL.out w1 HI.out).mono ?_
  rintro e wd ⟨g, c', rfl, hg, ho, hb⟩
  have hgu : w.heap.size + 1 + 1 < g := Nat.lt_of_lt_of_le HR.out.lt hg
  have HO := Lib.hid ho
  replace HR := Lib.hid (HR.out.step hb)
  replace HB := Lib.hid (below_trans HB.out hb)
  clear hb ho h0 h1 h2 h3 HT HU HI
  have r0 := HR.out.c0
  have r1 := HR.out.c1
  have r2 := HR.out.f0
  have r3 := HR.out.f1
  go_wp2
  obtain ⟨hs, hw⟩ := stored2 HR.out.row (.slice (some ⟨g, 0, none⟩) zs.length c') (.int .i64 m)
  generalize ((wd.setCell ⟨w.heap.size + 1 + 1, 0, none⟩ (.slice (some ⟨g, 0, none⟩) zs.length c')).setCell ⟨w.heap.size + 1 + 1, 1, none⟩ (.int .i64 m)) = wf at hs hw ⊢
  have e0 := two0 hs
  have e1 := two1 hs
  refine bodyPost_ret (v := .tuple #[.agg #[.slice (some ⟨g, 0, none⟩) zs.length c', .int .i64 m], .bool true]) (by simp [results, go_sem, e0, e1]) rfl ?_
  exact ⟨g, c', rfl, by omega, own_same HO.out (hw.block g (own_lt HO.out) (.inr (by omega))), HB.out.trans (hw.below (by omega) HB.out.size)⟩
set_option maxRecDepth 100000 in
set_option maxHeartbeats 2000000 in
theorem oneWayState_none (A : Option Addr) (c n : Nat) (m q : Int) (y : Bool) (w : World)
    (hno : ∀ (W : World), Below w.heap.size w W → Calls Try.prog 79 #[.agg #[.slice A n c, .int .i64 m], .agg #[.int .i64 q, .bool y]] W fun e w' => e = .returned (.tuple #[.agg #[.slice none 0 0, .int .i64 0], .bool false]) ∧ Below W.heap.size W w') :
    Calls Try.prog 27 #[.agg #[.slice A n c, .int .i64 m], .agg #[.int .i64 q, .bool y]] w fun e w' => e = .returned (.tuple #[.agg #[.slice none 0 0, .int .i64 0], .bool false]) ∧ Below w.heap.size w w' := by
  have HAS := Lib.hid hno
  have HT := Lib.hid (Two.new w (.slice A n c) (.int .i64 m) 28 w.heap.size rfl)
  have HB := Lib.hid ((Below.refl w.heap.size w).alloc (Nat.le_refl _) (.cells #[.slice A n c, .int .i64 m] 28))
  have HU := Lib.hid (Two.new (w.alloc (.cells #[.slice A n c, .int .i64 m] 28)) (.int .i64 q) (.bool y) 52 (w.heap.size + 1) (by simp))
  replace HT := Lib.hid (HT.out.step ((Below.refl _ _).alloc (Nat.le_refl _) (.cells #[.int .i64 q, .bool y] 52)))
  replace HB := Lib.hid (HB.out.alloc HB.out.size (.cells #[.int .i64 q, .bool y] 52))
  have HR := Lib.hid (Two.new ((w.alloc (.cells #[.slice A n c, .int .i64 m] 28)).alloc (.cells #[.int .i64 q, .bool y] 52)) (.slice none 0 0) (.int .i64 0) 28 (w.heap.size + 1 + 1) (by simp))
  replace HT := Lib.hid (HT.out.step ((Below.refl _ _).alloc (Nat.le_refl _) (.cells #[.slice none 0 0, .int .i64 0] 28)))
  replace HU := Lib.hid (HU.out.step ((Below.refl _ _).alloc (Nat.le_refl _) (.cells #[.slice none 0 0, .int .i64 0] 28)))
  replace HB := Lib.hid (HB.out.alloc HB.out.size (.cells #[.slice none 0 0, .int .i64 0] 28))
  clear hno
  go_enter Try.func27, Try.ntmps27
  go_upto_region 1 with fail
  generalize ((w.alloc (.cells #[.slice A n c, .int .i64 m] 28)).alloc (.cells #[.int .i64 q, .bool y] 52)).alloc (.cells #[.slice none 0 0, .int .i64 0] 28) = wa at HT HU HR HB ⊢
  have h0 := HT.out.c0
  have h1 := HT.out.c1
  have h2 := HU.out.c0
  have h3 := HU.out.c1
  go_wp2_with fail
  refine (HAS.out wa HB.out).mono ?_
  rintro e wc ⟨rfl, hb⟩
  have hal := (Below.refl wc.heap.size wc).alloc (Nat.le_refl _) (.cells #[.slice none 0 0, .int .i64 0] 28)
  have HV := Lib.hid (Two.new wc (.slice none 0 0) (.int .i64 0) 28 wc.heap.size rfl)
  replace HR := Lib.hid ((HR.out.step hb).step hal)
  replace HB := Lib.hid (below_trans (below_trans HB.out hb) hal)
  clear hb hal h0 h1 h2 h3 HT HU HAS
  go_wp2_with fail
  generalize wc.alloc (.cells #[.slice none 0 0, .int .i64 0] 28) = wd at HV HR HB ⊢
  go_loopw [18] (fun i wr => i = .int .i64 0 ∧ wr = wd) (fun i _ => 0)
  case atStart => exact ⟨rfl, rfl⟩
  case round =>
    obtain ⟨rfl, hwr⟩ := hrel
    have hwr := hwr.symm
    subst hwr
    have v0 := HV.out.c0
    have v1 := HV.out.c1
    have r0 := HR.out.c0
    have r1 := HR.out.c1
    have f0 := HR.out.f0
    have f1 := HR.out.f1
    go_wp2
    obtain ⟨hs, hw⟩ := stored2 HR.out.row (.slice none 0 0) (.int .i64 0)
    generalize ((wd.setCell ⟨w.heap.size + 1 + 1, 0, none⟩ (.slice none 0 0)).setCell ⟨w.heap.size + 1 + 1, 1, none⟩ (.int .i64 0)) = wf at hs hw ⊢
    have e0 := two0 hs
    have e1 := two1 hs
    refine bodyPost_ret (v := .tuple #[.agg #[.slice none 0 0, .int .i64 0], .bool false]) (by simp [results, go_sem, e0, e1]) rfl ?_
    exact ⟨rfl, HB.out.trans (hw.below (by omega) HB.out.size)⟩
theorem oneWayState_both (zs : List Int) (m : Int) (h : zs.length ≤ 1048576) (q : Int) (y : Bool) : ∃ (r0 : List Int) (u0 : Int) (r1 : Bool), r0.length ≤ 1048576 ∧
    (∀ (w : World) (B : Option Addr) (c lo hi : Nat), Ins w lo hi B zs → Calls Try.prog 27 #[.agg #[.slice B zs.length c, .int .i64 m], .agg #[.int .i64 q, .bool y]] w fun e w' => ∃ B c', e = .returned (.tuple #[.agg #[.slice B r0.length c', .int .i64 u0], .bool r1]) ∧ Res w' w.heap.size w'.heap.size B r0 ∧ Below w.heap.size w w') ∧
    (∀ (w : World) (B : Option Addr) (c lo hi : Nat), Ins w lo hi B zs → Calls Try.prog 28 #[.agg #[.slice B zs.length c, .int .i64 m], .agg #[.int .i64 q, .bool y]] w fun e w' => ∃ B c', e = .returned (.tuple #[.agg #[.slice B r0.length c', .int .i64 u0], .bool r1]) ∧ Res w' w.heap.size w'.heap.size B r0 ∧ Below w.heap.size w w') := by
  cases hst : isSt zs m with
  | false =>
    refine ⟨[], 0, false, by simp, fun w B c lo hi hS => ?_, fun w B c lo hi hS => ?_⟩
    · refine (oneWayState_none B c zs.length m q y w (fun W hb => answerState_impl_no B c lo hi zs m q y W (hS.step hb) h hst)).mono ?_
      rintro e w' ⟨rfl, hb⟩
      exact ⟨none, 0, rfl, Res.none w' _ _ (Nat.le_refl _), hb⟩
    · refine (oneWayState_spec_no B c lo hi zs m q y w hS h hst).mono ?_
      rintro e w' ⟨rfl, hb⟩
      exact ⟨none, 0, rfl, Res.none w' _ _ (Nat.le_refl _), hb⟩
  | true =>
    cases hq : qOK zs.length q with
    | false =>
      refine ⟨[], 0, false, by simp, fun w B c lo hi hS => ?_, fun w B c lo hi hS => ?_⟩
      · refine (oneWayState_none B c zs.length m q y w (fun W hb => answerState_impl_bad B c lo hi zs m q y W (hS.step hb) h hst hq)).mono ?_
        rintro e w' ⟨rfl, hb⟩
        exact ⟨none, 0, rfl, Res.none w' _ _ (Nat.le_refl _), hb⟩
      · refine (oneWayState_spec_bad B c lo hi zs m q y w hS h hst hq).mono ?_
        rintro e w' ⟨rfl, hb⟩
        exact ⟨none, 0, rfl, Res.none w' _ _ (Nat.le_refl _), hb⟩
    | true =>
      have hal := owA_len zs m q y
      refine ⟨owA zs m q y, m, true, by rw [hal]; exact h, fun w B c lo hi hS => ?_, fun w B c lo hi hS => ?_⟩
      · refine (oneWayState_impl B c lo hi zs m q y w hS hst hq).mono ?_
        rintro e w' ⟨g, c', rfl, hg, ho, hb⟩
        exact ⟨_, c', by rw [hal], ⟨ho.wide hg (own_lt ho), Nat.le_refl _⟩, hb⟩
      · refine (oneWayState_spec B c lo hi zs m q y w hS hst hq).mono ?_
        rintro e w' ⟨g, c', rfl, hg, ho, hb⟩
        exact ⟨_, c', by rw [hal], ⟨ho.wide hg (own_lt ho), Nat.le_refl _⟩, hb⟩
end Go.Proofs.Ytdkffkgoalgjmac
