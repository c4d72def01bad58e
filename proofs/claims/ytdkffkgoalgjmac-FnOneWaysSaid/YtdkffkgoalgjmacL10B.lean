/- The State behind an answer, lies in one direction: of the program. -/
import Derived.Test.YtdkffkgoalgjmacL10A
namespace Go.Proofs.Ytdkffkgoalgjmac
open Go.RowKit Go.ChangeShapes Go.WideShapes
set_option linter.unusedVariables false

set_option maxRecDepth 100000 in
set_option maxHeartbeats 4000000 in
theorem oneWayState_impl (A : Option Addr) (c lo hi : Nat) (zs : List Int) (m q : Int) (y : Bool) (w : World) (hS : Ins w lo hi A zs) (hst : isSt zs m = true) (hq : qOK zs.length q = true) :
    Calls Try.prog 27 #[.agg #[.slice A zs.length c, .int .i64 m], .agg #[.int .i64 q, .bool y]] w fun e w' => ∃ g c', e = .returned (.tuple #[.agg #[.slice (some ⟨g, 0, none⟩) zs.length c', .int .i64 m], .bool true]) ∧ w.heap.size ≤ g ∧ Own w' g (g + 1) (some ⟨g, 0, none⟩) (owA zs m q y) ∧ Below w.heap.size w w' := by
  have hl := isSt_len hst
  have hn12 : zs.length ≤ 12 := hl.2.1
  have HAS := Lib.hid (fun W h => answerState_impl A c lo hi zs m q y W h hst hq)
  have HT := Lib.hid (Two.new w (.slice A zs.length c) (.int .i64 m) 28 w.heap.size rfl)
  have HB := Lib.hid ((Below.refl w.heap.size w).alloc (Nat.le_refl _) (.cells #[.slice A zs.length c, .int .i64 m] 28))
  have HU := Lib.hid (Two.new (w.alloc (.cells #[.slice A zs.length c, .int .i64 m] 28)) (.int .i64 q) (.bool y) 52 (w.heap.size + 1) (by simp))
  replace HT := Lib.hid (HT.out.step ((Below.refl _ _).alloc (Nat.le_refl _) (.cells #[.int .i64 q, .bool y] 52)))
  replace HB := Lib.hid (HB.out.alloc HB.out.size (.cells #[.int .i64 q, .bool y] 52))
  have HR := Lib.hid (Two.new ((w.alloc (.cells #[.slice A zs.length c, .int .i64 m] 28)).alloc (.cells #[.int .i64 q, .bool y] 52)) (.slice none 0 0) (.int .i64 0) 28 (w.heap.size + 1 + 1) (by simp))
  replace HT := Lib.hid (HT.out.step ((Below.refl _ _).alloc (Nat.le_refl _) (.cells #[.slice none 0 0, .int .i64 0] 28)))
  replace HU := Lib.hid (HU.out.step ((Below.refl _ _).alloc (Nat.le_refl _) (.cells #[.slice none 0 0, .int .i64 0] 28)))
  replace HB := Lib.hid (HB.out.alloc HB.out.size (.cells #[.slice none 0 0, .int .i64 0] 28))
  have HI := Lib.hid (hS.step HB.out)
  have hh := hS.top
  clear hS hst hq hl
  go_enter Try.func27, Try.ntmps27
  go_upto_region 1 with fail
  generalize ((w.alloc (.cells #[.slice A zs.length c, .int .i64 m] 28)).alloc (.cells #[.int .i64 q, .bool y] 52)).alloc (.cells #[.slice none 0 0, .int .i64 0] 28) = wa at HT HU HR HB HI ⊢
  have h0 := HT.out.c0
  have h1 := HT.out.c1
  have h2 := HU.out.c0
  have h3 := HU.out.c1
  go_wp2_with fail
  refine (HAS.out wa HI.out).mono ?_
  rintro e wc ⟨g, rfl, hg, hr, hb⟩
  have hgu : w.heap.size + 1 + 1 < g := Nat.lt_of_lt_of_le HR.out.lt hg
  replace HT := Lib.hid (HT.out.step hb)
  replace HU := Lib.hid (HU.out.step hb)
  replace HR := Lib.hid (HR.out.step hb)
  replace HB := Lib.hid (below_trans HB.out hb)
  have hgc : g < wc.heap.size := row_ltI hr
  have HG : Hid (Own wc g (g + 1) (some ⟨g, 0, none⟩) (afters zs m q y)) := Lib.hid (.inr ⟨g, _, rfl, Nat.le_refl _, Nat.lt_succ_self _, hr, by simp, fun j x hx => by simp [hx]⟩)
  clear hb hr h0 h1 h2 h3 HI HAS
  have hb := (Below.refl wc.heap.size wc).alloc (Nat.le_refl _) (.cells #[.slice (some ⟨g, 0, none⟩) zs.length zs.length, .int .i64 m] 28)
  have HV := Lib.hid (Two.new wc (.slice (some ⟨g, 0, none⟩) zs.length zs.length) (.int .i64 m) 28 wc.heap.size rfl)
  replace HT := Lib.hid (HT.out.step hb)
  replace HU := Lib.hid (HU.out.step hb)
  replace HR := Lib.hid (HR.out.step hb)
  replace HB := Lib.hid (below_trans HB.out hb)
  replace HG := Lib.hid (own_same HG.out (hb.block g hgc))
  have hcw : wc.heap.size < (wc.alloc (.cells #[.slice (some ⟨g, 0, none⟩) zs.length zs.length, .int .i64 m] 28)).heap.size := HV.out.lt
  clear hb
  go_wp2_with fail
  generalize wc.alloc (.cells #[.slice (some ⟨g, 0, none⟩) zs.length zs.length, .int .i64 m] 28) = wd at HV HT HU HR HB HG hcw ⊢
  have hal := afters_len zs m q y
  cases y with
  | false =>
    go_loopw [18] (fun i wr => ∃ (k : Nat), k ≤ zs.length ∧ i = .int .i64 k ∧ wr = wd) (fun i _ => zs.length - (intOf i).toNat)
    case atStart => exact ⟨0, Nat.zero_le _, rfl, rfl⟩
    case round =>
      obtain ⟨k, hk, rfl, hwr⟩ := hrel
      have hwr := hwr.symm
      subst hwr
      have v0 := HV.out.c0
      have v1 := HV.out.c1
      have u0 := HU.out.c0
      have u1 := HU.out.c1
      by_cases hlt : k < zs.length
      · go_wp2
        go_roundw
        case rel => exact ⟨k + 1, by omega, by go_num, by first | trivial | rfl⟩
        case measure => simp [intOf]; omega
      · obtain rfl : k = zs.length := by omega
        have r0 := HR.out.c0
        have r1 := HR.out.c1
        have f0 := HR.out.f0
        have f1 := HR.out.f1
        go_wp2
        obtain ⟨hs, hw⟩ := stored2 HR.out.row (.slice (some ⟨g, 0, none⟩) zs.length zs.length) (.int .i64 m)
        generalize ((wd.setCell ⟨w.heap.size + 1 + 1, 0, none⟩ (.slice (some ⟨g, 0, none⟩) zs.length zs.length)).setCell ⟨w.heap.size + 1 + 1, 1, none⟩ (.int .i64 m)) = wf at hs hw ⊢
        have e0 := two0 hs
        have e1 := two1 hs
        refine bodyPost_ret (v := .tuple #[.agg #[.slice (some ⟨g, 0, none⟩) zs.length zs.length, .int .i64 m], .bool true]) (by simp [results, go_sem, e0, e1]) rfl ?_
        first | (exact ⟨g, zs.length, rfl, by omega, by rw [owA_no]; exact own_same HG.out (hw.block g (own_lt HG.out) (.inr (by omega))), HB.out.trans (hw.below (by omega) HB.out.size)⟩) | (exact ⟨g, ⟨zs.length, rfl⟩, by omega, by rw [owA_no]; exact own_same HG.out (hw.block g (own_lt HG.out) (.inr (by omega))), HB.out.trans (hw.below (by omega) HB.out.size)⟩)
  | true =>
    have HX : Hid (owTo (afters zs m q true) q zs.length = owA zs m q true) := Lib.hid (by rw [ow_after, owA_yes])
    generalize afters zs m q true = xs at HG hal HX
    go_loopw [18] (fun i wr => ∃ (k : Nat), k ≤ zs.length ∧ i = .int .i64 k ∧ Hid (Own wr g (g + 1) (some ⟨g, 0, none⟩) (owTo xs q k)) ∧ Hid (Within g (g + 1) wd wr)) (fun i _ => zs.length - (intOf i).toNat)
    case atStart => exact ⟨0, Nat.zero_le _, rfl, Lib.hid (by rw [owTo_zero]; exact HG.out), Lib.hid (Within.refl _ _ _)⟩
    case round =>
      obtain ⟨k, hk, rfl, HO, HP⟩ := hrel
      rename World => wr
      by_cases hlt : k < zs.length
      · have hu0 := (HU.out.within HP.out (.inl (by omega))).c0
        have hu1 := (HU.out.within HP.out (.inl (by omega))).c1
        have HIF := Lib.hid (fun W => isFalse_any q true k W (by omega))
        cases hp : inQ q k with
        | true =>
          have HF := Lib.hid (owTo_same (zs := xs) hp)
          rw [hp] at HIF
          clear hp
          go_wp2_with fail
          refine (HIF.out _).mono ?_
          rintro e w5 ⟨rfl, hb⟩
          have HO2 := Lib.hid (own_same HO.out (hb.block g (own_lt HO.out)))
          have HP2 := Lib.hid (HP.out.trans (Within.of_below hb))
          clear hb
          go_wp2
          go_roundw
          case rel => exact ⟨k + 1, by omega, by go_num, by rw [HF.out]; exact HO2, HP2⟩
          case measure => simp [intOf]; omega
        | false =>
          have HF := Lib.hid (owTo_turn (zs := xs) hp)
          rw [hp] at HIF
          clear hp
          go_wp2_with fail
          refine (HIF.out _).mono ?_
          rintro e w5 ⟨rfl, hb⟩
          have HO2 := Lib.hid (own_same HO.out (hb.block g (own_lt HO.out)))
          have HP2 := Lib.hid (HP.out.trans (Within.of_below hb))
          clear hb hu0 hu1
          have hv0 := (HV.out.within HP2.out (.inr (by omega))).c0
          have hcell := own_cell HO2.out (k := k) (by rw [owTo_len, hal]; exact hlt)
          have hfr := own_free HO2.out k
          have HO3 := Lib.hid (own_set HO2.out (k := k) (by rw [owTo_len, hal]; exact hlt) (-1))
          rw [HF.out] at HO3
          have HP3 := Lib.hid (HP2.out.trans (within_set (Within.refl g (g + 1) w5) (Nat.le_refl _) (Nat.lt_succ_self _) k (.int .i64 (-1))))
          generalize (owTo xs q k).getD k 0 = z0 at hcell
          go_wp2
          go_roundw
          case rel => exact ⟨k + 1, by omega, by go_num, HO3, HP3⟩
          case measure => simp [intOf]; omega
      · obtain rfl : k = zs.length := by omega
        have HV2 := Lib.hid (HV.out.within HP.out (.inr (by omega)))
        have HR2 := Lib.hid (HR.out.within HP.out (.inl (by omega)))
        have v0 := HV2.out.c0
        have v1 := HV2.out.c1
        have r0 := HR2.out.c0
        have r1 := HR2.out.c1
        have f0 := HR2.out.f0
        have f1 := HR2.out.f1
        have HBr := Lib.hid (HB.out.trans (HP.out.below (by omega) HB.out.size))
        go_wp2
        obtain ⟨hs, hw⟩ := stored2 HR2.out.row (.slice (some ⟨g, 0, none⟩) zs.length zs.length) (.int .i64 m)
        generalize ((wr.setCell ⟨w.heap.size + 1 + 1, 0, none⟩ (.slice (some ⟨g, 0, none⟩) zs.length zs.length)).setCell ⟨w.heap.size + 1 + 1, 1, none⟩ (.int .i64 m)) = wf at hs hw ⊢
        have e0 := two0 hs
        have e1 := two1 hs
        refine bodyPost_ret (v := .tuple #[.agg #[.slice (some ⟨g, 0, none⟩) zs.length zs.length, .int .i64 m], .bool true]) (by simp [results, go_sem, e0, e1]) rfl ?_
        first | (exact ⟨g, zs.length, rfl, by omega, by rw [← HX.out]; exact own_same HO.out (hw.block g (own_lt HO.out) (.inr (by omega))), HBr.out.trans (hw.below (by omega) HBr.out.size)⟩) | (exact ⟨g, ⟨zs.length, rfl⟩, by omega, by rw [← HX.out]; exact own_same HO.out (hw.block g (own_lt HO.out) (.inr (by omega))), HBr.out.trans (hw.below (by omega) HBr.out.size)⟩)
end Go.Proofs.Ytdkffkgoalgjmac
