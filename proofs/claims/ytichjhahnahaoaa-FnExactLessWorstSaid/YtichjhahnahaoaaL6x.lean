/- LessWorst: of the specification; both. -/
import Derived.Test.YtichjhahnahaoaaL6w
import Derived.Test.YtichjhahnahaoaaL6B
namespace Go.Proofs.Ytichjhahnahaoaa
open Go.RowKit Go.ChangeShapes Go.WideShapes Go.Maps
set_option linter.unusedVariables false

/-- The state at hand: the argument's, or one of the call's own. -/
def SI (n : Nat) (wr : World) (A : Option Addr) (lo hi : Nat) (L : List Int) : Prop :=
  (Ins wr lo hi A L ∧ hi ≤ n) ∨ ∃ g, A = some ⟨g, 0, none⟩ ∧ lo = g ∧ hi = g + 1 ∧ Own wr g (g + 1) (some ⟨g, 0, none⟩) L
theorem SI.ins {n : Nat} {wr : World} {A : Option Addr} {lo hi : Nat} {L : List Int} (h : SI n wr A lo hi L) : Ins wr lo hi A L := by
  rcases h with h | ⟨g, rfl, rfl, rfl, h⟩
  · exact h.1
  · exact own_insB h
theorem SI.step {n : Nat} {wr w' : World} {A : Option Addr} {lo hi : Nat} {L : List Int} (h : SI n wr A lo hi L) (hb : Below wr.heap.size wr w') : SI n w' A lo hi L := by
  rcases h with h | ⟨g, rfl, rfl, rfl, h⟩
  · exact .inl ⟨h.1.step hb, h.2⟩
  · exact .inr ⟨_, rfl, rfl, rfl, own_same h (hb.block _ (own_lt h))⟩
theorem SI.grown {n k : Nat} {wr w' : World} {A : Option Addr} {lo hi : Nat} {L : List Int} {v : Value} {xs : List Value} {o : Obj} (h : SI n wr A lo hi L) (hr : wr.ownsRow (n + 1) 4 1 v k xs) (hg : (wr.alloc o).grownBy w' v.ownBlock) : SI n w' A lo hi L := by
  rcases h with h | ⟨g, rfl, rfl, rfl, h⟩
  · exact .inl ⟨h.1.past (Past.grown hr hg) (by omega), h.2⟩
  · exact .inr ⟨_, rfl, rfl, rfl, grown_own6 hr h (by decide) hg⟩
structure WS (w : World) (n gn : Nat) (M : Nat) (zs : List Int) (i : Nat) (A : Option Addr) (c lo hi : Nat) (v : Value) (wr : World) : Prop where
  bx : Two wr n (.slice A zs.length c) (.int .i64 (M : Int)) 30
  si : SI n wr A lo hi (wSt M zs i)
  nd : Own wr gn (gn + 1) (some ⟨gn, 0, none⟩) (needsL M zs.length)
  row : wr.ownsRow (n + 1) 4 1 v (wL M zs i).length ((wL M zs i).map Value.bool)
  bl : Below w.heap.size w wr

set_option maxRecDepth 100000 in
set_option maxHeartbeats 16000000 in
theorem lessWorst_spec (A : Option Addr) (c lo hi : Nat) (zs : List Int) (M : Nat) (w : World) (hS : Ins w lo hi A zs) (hs : Short M zs) :
    Calls Try.prog 36 #[.agg #[.slice A zs.length c, .int .i64 (M : Int)]] w fun e w' => ∃ v, e = .returned (.tuple #[v, .bool true]) ∧ w'.ownsRow w.heap.size 4 1 v (wL M zs 10).length ((wL M zs 10).map Value.bool) ∧ Below w.heap.size w w' := by
  obtain ⟨i0, hi0, hz0, hz1, hz2⟩ := info_parts infoB6
  have hl5 := hs.len
  have hhi := hS.top
  have HX1 := Lib.hid (Arg.next (Below.refl w.heap.size w) (.slice A zs.length c) (.int .i64 (M : Int)) 30 w.heap.size rfl)
  have HT1 := Lib.hid (Two.new w (.slice A zs.length c) (.int .i64 (M : Int)) 30 w.heap.size rfl)
  have hba := (Below.refl _ (w.alloc (.cells #[.slice A zs.length c, .int .i64 (M : Int)] 30))).alloc (Nat.le_refl _) (.cells #[] 4)
  have HRw := Lib.hid (B0_any (w.alloc (.cells #[.slice A zs.length c, .int .i64 (M : Int)] 30)) (w.heap.size + 1) (by simp))
  have hsm : (w.alloc (.cells #[.slice A zs.length c, .int .i64 (M : Int)] 30)).heap.size = w.heap.size + 1 := by simp
  rw [hsm] at HRw
  have HX := Lib.hid (HX1.out.step hba)
  have HTw := Lib.hid (HT1.out.step hba)
  have HSI : Hid (SI w.heap.size ((w.alloc (.cells #[.slice A zs.length c, .int .i64 (M : Int)] 30)).alloc (.cells #[] 4)) A lo hi zs) := Lib.hid (.inl ⟨hS.step HX.out.below, hhi⟩)
  have HB1 := Lib.hid HX.out.below
  have HH := Lib.hid (fun W h => l6Short_any A c lo hi zs (M : Int) W h (by have := hs.len; omega))
  rw [shortB_iff.2 ⟨M, rfl, hs⟩] at HH
  have HND := Lib.hid (fun W => l6Needs_any zs.length M W hs.m hs.pos hs.len)
  have HSH := Lib.hid hs
  clear hS hba HX1 HT1 hsm HX
  go_enter Try.func36, Try.ntmps36
  go_wp2_with fail
  generalize (w.alloc (.cells #[.slice A zs.length c, .int .i64 (M : Int)] 30)).alloc (.cells #[] 4) = w0 at HTw HSI HB1 HRw ⊢
  generalize (Value.slice (some ⟨w.heap.size + 1, 0, none⟩) 0 0) = v0 at HRw ⊢
  refine (HH.out w0 HSI.out.ins).mono ?_
  rintro e w1 ⟨rfl, hb⟩
  replace HTw := Lib.hid (HTw.out.step hb)
  replace HSI := Lib.hid (HSI.out.step hb)
  replace HRw := Lib.hid (ownsRow_past6 HRw.out (Past.of_below hb))
  replace HB1 := Lib.hid (below_trans HB1.out hb)
  have x0 := HTw.out.c0
  have x1 := HTw.out.c1
  clear hb HH
  go_wp2_with fail
  refine (HND.out w1).mono ?_
  rintro e w2 ⟨gn, cn, rfl, hgn, hon, hb⟩
  have hn2 := HTw.out.lt
  have HW0 : Hid (WS w w.heap.size gn M zs 0 A c lo hi v0 w2) := Lib.hid ⟨HTw.out.step hb, HSI.out.step hb, hon, ownsRow_past6 HRw.out (Past.of_below hb), below_trans HB1.out hb⟩
  have hgn1 : w.heap.size < gn := by omega
  clear hb hon HND HTw HSI HRw HB1 x0 x1
  go_wp2_with fail
  have HM10 := mass_ten hs
  go_loopg [4] (massL M zs) (fun g v wr => ∃ (i : Nat) (A' : Option Addr) (c' lo' hi' : Nat), g = massL M (wSt M zs i) ∧ i + g ≤ 10 ∧ Hid (WS w w.heap.size gn M zs i A' c' lo' hi' v wr))
  case atStart => exact ⟨0, A, c, lo, hi, rfl, by omega, HW0⟩
  case round =>
    clear HW0
    obtain ⟨i, A', c', lo', hi', hg, hi10, HW⟩ := hrel
    rename World => w5
    have HSi := Lib.hid (wSt_short HSH.out i)
    have HBX := Lib.hid HW.out.bx
    have HSI := Lib.hid HW.out.si
    have HNd := Lib.hid HW.out.nd
    have HRow := Lib.hid HW.out.row
    have HBl := Lib.hid HW.out.bl
    have HDn := fun W h => l6Done_any A' c' lo' hi' (wSt M zs i) (M : Int) W h (by rw [HSi.out.2]; omega)
    rw [HSi.out.2] at HDn
    have HDn := Lib.hid HDn
    have x0 := HBX.out.c0
    have x1 := HBX.out.c1
    clear HW
    cases hdn : doneL (wSt M zs i) with
    | true =>
      have HE := Lib.hid (wL_end hdn (by omega))
      rw [hdn] at HDn
      rw [HE.out] at HRow
      clear hdn
      go_wp2_with fail
      refine (HDn.out w5 HSI.out.ins).mono ?_
      rintro e w6 ⟨rfl, hb⟩
      replace HRow := Lib.hid (own_base (ownsRow_past6 HRow.out (Past.of_below hb)) (Nat.le_succ _))
      replace HBl := Lib.hid (below_trans HBl.out hb)
      clear hb
      go_wp2
      go_ret2
      exact ⟨_, rfl, HRow.out, HBl.out⟩
    | false =>
      rw [hdn] at HDn
      have hpi := plan_in HSi.out.1 hdn
      have hsp := span_bd HSi.out.1
      have hlen := HSi.out.2
      have hk12 : (planS M (wSt M zs i)).2 ≤ 12 := by omega
      have HBs := fun g2 c2 W h h2 => l6Best_any A' c' lo' hi' (wSt M zs i) M (some ⟨g2, 0, none⟩) c2 g2 (g2 + 1) W h h2 HSi.out.1 hdn
      have HAf := fun W y h => l6After_any A' c' lo' hi' (wSt M zs i) M (planS M (wSt M zs i)).2 y W h HSi.out.1 hk12
      have HKs := fun W h => l6Key_any A' c' lo' hi' (wSt M zs i) M W h HSi.out.1
      have HKn := fun gq cq W h => l6Key_any (some ⟨gq, 0, none⟩) cq gq (gq + 1) (cmpAft (wSt M zs i) M (planS M (wSt M zs i)).2 false) M W h (HSi.out.1.aft _ false)
      have hky := keyTo_lt HSi.out.1.fit
      have hkn := keyTo_lt (HSi.out.1.aft (planS M (wSt M zs i)).2 false).fit
      have HCs := fun W gq h => needs_cell (w := W) (g := gq) h HSi.out.1
      have HCn := fun W gq h => needs_cell (w := W) (g := gq) h (HSi.out.1.aft (planS M (wSt M zs i)).2 false)
      rw [cmpAft_len] at HKn hkn HCn
      rw [hlen] at HBs HAf HKs HKn hky hkn HCs HCn
      have HBs := Lib.hid HBs
      have HAf := Lib.hid HAf
      have HKs := Lib.hid HKs
      have HKn := Lib.hid HKn
      have HCs := Lib.hid HCs
      have HCn := Lib.hid HCn
      have hob := needS_le (HSi.out.1.aft (planS M (wSt M zs i)).2 false)
      have hpb := needS_le HSi.out.1
      have HMS := Lib.hid (wSt_mass HSH.out hdn)
      have HN1 := Lib.hid (wSt_next hdn)
      have HNL := Lib.hid (wL_next hdn)
      have HSn := Lib.hid (wSt_short HSH.out (i + 1))
      have HY : Hid (yesW M (wSt M zs i) = decide (needL M (cmpAft (wSt M zs i) M (planS M (wSt M zs i)).2 false) + 1 < needL M (wSt M zs i))) := Lib.hid rfl
      rw [HY.out] at HN1 HNL
      have hwl := wL_len M zs i
      clear hdn hpi hsp hlen
      generalize keyS M (wSt M zs i) = ky at HKs hky HCs
      generalize keyS M (cmpAft (wSt M zs i) M (planS M (wSt M zs i)).2 false) = kn at HKn hkn HCn
      generalize needL M (wSt M zs i) = ns at HCs hpb HY HN1 HNL
      generalize needL M (cmpAft (wSt M zs i) M (planS M (wSt M zs i)).2 false) = nn at HCn hob HY HN1 HNL
      generalize hpb2 : (planS M (wSt M zs i)).2 = pb at HBs HAf HKn hk12 HN1
      clear hpb2
      have hkyI : (ky : Int) < (((M + 2) ^ zs.length : Nat) : Int) := by omega
      have hknI : (kn : Int) < (((M + 2) ^ zs.length : Nat) : Int) := by omega
      have hpw := pow_top HSH.out.m HSH.out.pos HSH.out.len
      generalize htop : (M + 2) ^ zs.length = top at HBs hky hkn hkyI hknI hpw ⊢
      have HTP := Lib.hid htop
      clear htop
      go_wp2_with fail
      refine (HDn.out w5 HSI.out.ins).mono ?_
      rintro e w6 ⟨rfl, hb⟩
      replace HBX := Lib.hid (HBX.out.step hb)
      replace HSI := Lib.hid (HSI.out.step hb)
      replace HNd := Lib.hid (own_same HNd.out (hb.block _ (own_lt HNd.out)))
      replace HRow := Lib.hid (ownsRow_past6 HRow.out (Past.of_below hb))
      replace HBl := Lib.hid (below_trans HBl.out hb)
      clear hb HDn x0 x1
      have x0 := HBX.out.c0
      have x1 := HBX.out.c1
      go_wp2_with fail
      refine (HBs.out gn cn w6 HSI.out.ins (own_insB HNd.out)).mono ?_
      rintro e w7 ⟨rfl, hb⟩
      replace HBX := Lib.hid (HBX.out.step hb)
      replace HSI := Lib.hid (HSI.out.step hb)
      replace HNd := Lib.hid (own_same HNd.out (hb.block _ (own_lt HNd.out)))
      replace HRow := Lib.hid (ownsRow_past6 HRow.out (Past.of_below hb))
      replace HBl := Lib.hid (below_trans HBl.out hb)
      clear hb HBs x0 x1
      have x0 := HBX.out.c0
      have x1 := HBX.out.c1
      go_wp2_with fail
      refine (HAf.out w7 false HSI.out.ins).mono ?_
      rintro e w8 ⟨g7, c7, rfl, hg7, ho7, hb⟩
      replace HBX := Lib.hid (HBX.out.step hb)
      replace HSI := Lib.hid (HSI.out.step hb)
      replace HNd := Lib.hid (own_same HNd.out (hb.block _ (own_lt HNd.out)))
      replace HRow := Lib.hid (ownsRow_past6 HRow.out (Past.of_below hb))
      replace HBl := Lib.hid (below_trans HBl.out hb)
      have HO7 := Lib.hid (own_insB ho7)
      clear hb ho7 x0 x1
      have hbx := (Below.refl w8.heap.size w8).alloc (Nat.le_refl _) (.cells #[.slice (some ⟨g7, 0, none⟩) zs.length c7, .int .i64 (M : Int)] 30)
      have H7 := Lib.hid (Two.new w8 (.slice (some ⟨g7, 0, none⟩) zs.length c7) (.int .i64 (M : Int)) 30 w8.heap.size rfl)
      replace HBX := Lib.hid (HBX.out.step hbx)
      replace HSI := Lib.hid (HSI.out.step hbx)
      replace HNd := Lib.hid (own_same HNd.out (hbx.block _ (own_lt HNd.out)))
      replace HRow := Lib.hid (ownsRow_past6 HRow.out (Past.of_below hbx))
      replace HBl := Lib.hid (below_trans HBl.out hbx)
      replace HO7 := Lib.hid (HO7.out.step hbx)
      clear hbx
      go_wp2_with fail
      generalize w8.alloc (.cells #[.slice (some ⟨g7, 0, none⟩) zs.length c7, .int .i64 (M : Int)] 30) = w9 at HBX HSI HNd HRow HBl HO7 H7 ⊢
      have hcs := HCs.out w9 gn HNd.out
      have hcn := HCn.out w9 gn HNd.out
      have hgl := own_lt HNd.out
      have HQs : Hid (∀ W', Below w9.heap.size w9 W' → W'.cell? ⟨gn, ky, none⟩ = some (.int .i64 (ns : Int))) := Lib.hid (fun W' h => (World.cell?_of_block (h.block gn hgl)).trans hcs)
      have HQn : Hid (∀ W', Below w9.heap.size w9 W' → W'.cell? ⟨gn, kn, none⟩ = some (.int .i64 (nn : Int))) := Lib.hid (fun W' h => (World.cell?_of_block (h.block gn hgl)).trans hcn)
      have W1 : IntKind.i64.wrap ((nn : Int) + 1) = (nn : Int) + 1 := IntWalk.i64_in _ (by omega)
      clear hcs hcn HCs HCn
      cases hy : decide (nn + 1 < ns) with
      | false =>
        rw [hy] at HN1 HNL
        have hcmp : ¬ (nn : Int) + 1 < (ns : Int) := by
          have := of_decide_eq_false hy
          omega
        have hdc : decide ((nn : Int) + 1 < (ns : Int)) = false := decide_eq_false hcmp
        clear hy
        go_region_held3 (fun w' => w'.cell? ⟨w8.heap.size, 0, none⟩ = some (.slice (some ⟨g7, 0, none⟩) zs.length c7) ∧ w'.cell? ⟨w8.heap.size, 1, none⟩ = some (.int .i64 (M : Int)) ∧ w'.cell? ⟨w.heap.size, 0, none⟩ = some (.slice A' zs.length c') ∧ w'.cell? ⟨w.heap.size, 1, none⟩ = some (.int .i64 (M : Int)) ∧ w'.cell? ⟨gn, ky, none⟩ = some (.int .i64 (ns : Int)) ∧ w'.cell? ⟨gn, kn, none⟩ = some (.int .i64 (nn : Int)))
          (first
           | exact ⟨(H7.out.step (Below.refl _ w9).drew).c0, (H7.out.step (Below.refl _ w9).drew).c1, (HBX.out.step (Below.refl _ w9).drew).c0, (HBX.out.step (Below.refl _ w9).drew).c1, HQs.out _ (Below.refl _ w9).drew, HQn.out _ (Below.refl _ w9).drew⟩
           | exact ⟨(H7.out.step HZ1.out).c0, (H7.out.step HZ1.out).c1, (HBX.out.step HZ1.out).c0, (HBX.out.step HZ1.out).c1, HQs.out _ HZ1.out, HQn.out _ HZ1.out⟩
           | exact ⟨(H7.out.step HZ2.out).c0, (H7.out.step HZ2.out).c1, (HBX.out.step HZ2.out).c0, (HBX.out.step HZ2.out).c1, HQs.out _ HZ2.out, HQn.out _ HZ2.out⟩)
          (first
           | (go_at_call 60; refine (HKs.out _ (HSI.out.step HZ1.out).ins).mono ?_; rintro e v2 ⟨rfl, hb⟩; have HZ2 := Lib.hid (below_trans HZ1.out hb); clear hb)
           | (go_at_call 60; refine (HKn.out g7 c7 _ (HO7.out.step (Below.refl _ w9).drew)).mono ?_; rintro e v1 ⟨rfl, hb⟩; have HZ1 := Lib.hid (below_trans (Below.refl _ w9).drew hb); clear hb))
        all_goals
          clear W1
          replace HBX := Lib.hid (HBX.out.step HZ2.out)
          replace HSI := Lib.hid (HSI.out.step HZ2.out)
          replace HNd := Lib.hid (own_same HNd.out (HZ2.out.block _ (own_lt HNd.out)))
          replace HRow := Lib.hid (ownsRow_past6 HRow.out (Past.of_below HZ2.out))
          replace HBl := Lib.hid (below_trans HBl.out HZ2.out)
          have hown := HRow.out
          have hB9 := HBX.out.lt
          go_upto_region 10 with (at_builtin; refine wpList_append_own _ rfl (.tmp 41) (.tmp 43) 48 rfl (w.heap.size + 1) 4 i0 (.bool false) 1 1 Try.underlying48 hi0 hz0 hz1 hz2 rfl (by decide) _ _ _ rfl (hown.alloc _) ⟨v2.heap.size, 0, none⟩ 1 1 [.bool false] rfl rfl (cell_one_new _ _ _) (by simp [Value.oneCell']) (by unfold maxLen; omega) (by omega) (by simp; omega) ?_; intro v' w10 hown' hgrow _)
          have HRow9 := Lib.hid (bool_snoc6 hown' rfl)
          have hpst := Past.grown hown hgrow
          replace HBX := Lib.hid (grown_two6 hown HBX.out (by decide) hgrow)
          replace HSI := Lib.hid (HSI.out.grown hown hgrow)
          replace HNd := Lib.hid (grown_own6 hown HNd.out (by decide) hgrow)
          replace HBl := Lib.hid (HBl.out.trans (hpst.below (Nat.le_succ _) HBl.out.size))
          rw [← HNL.out] at HRow9
          clear hpst hown' hgrow hown HRow HQs HQn HO7 H7
          have x0 := HBX.out.c0
          have x1 := HBX.out.c1
          go_wp2_with fail
          refine (HAf.out w10 false HSI.out.ins).mono ?_
          rintro e w11 ⟨g9, c9, rfl, hg9, ho9, hb⟩
          replace HBX := Lib.hid (HBX.out.step hb)
          replace HNd := Lib.hid (own_same HNd.out (hb.block _ (own_lt HNd.out)))
          replace HRow9 := Lib.hid (ownsRow_past6 HRow9.out (Past.of_below hb))
          replace HBl := Lib.hid (below_trans HBl.out hb)
          have HO9 : Hid (Own w11 g9 (g9 + 1) (some ⟨g9, 0, none⟩) (wSt M zs (i + 1))) := Lib.hid (by rw [HN1.out]; exact ho9)
          clear hb ho9 x0 x1 HAf HSI
          have x0 := HBX.out.c0
          have x1 := HBX.out.c1
          have x2 := HBX.out.f0
          have x3 := HBX.out.f1
          obtain ⟨hs1, hw1⟩ := stored2 HBX.out.row (.slice (some ⟨g9, 0, none⟩) zs.length c9) (.int .i64 (M : Int))
          have hng : g9 ≠ w.heap.size := own_two_ne HO9.out HBX.out
          have HWf : Hid (WS w w.heap.size gn M zs (i + 1) (some ⟨g9, 0, none⟩) c9 g9 (g9 + 1) v' ((w11.setCell ⟨w.heap.size, 0, none⟩ (.slice (some ⟨g9, 0, none⟩) zs.length c9)).setCell ⟨w.heap.size, 1, none⟩ (.int .i64 (M : Int)))) := Lib.hid ⟨⟨hs1⟩, .inr ⟨g9, rfl, rfl, rfl, own_same HO9.out (hw1.block g9 (own_lt HO9.out) (by omega))⟩, own_same HNd.out (hw1.block gn (own_lt HNd.out) (.inr (by omega))), own_row_two6 HRow9.out HBX.out (by decide) hw1, HBl.out.trans (hw1.below (Nat.le_refl _) HBl.out.size)⟩
          clear hs1 hw1 HO9 HNd HRow9 HBX HBl HN1 HNL HSn HY
          go_wp2
          have htp := HTP.out
          clear HTP
          subst htp
          go_roundg (massL M (wSt M zs (i + 1)))
          case measure => have := HMS.out; omega
          case rel => exact ⟨i + 1, _, _, _, _, rfl, by have := HMS.out; omega, HWf⟩
      | true =>
        rw [hy] at HN1 HNL
        have hcmp : (nn : Int) + 1 < (ns : Int) := by
          have := of_decide_eq_true hy
          omega
        have hdc : decide ((nn : Int) + 1 < (ns : Int)) = true := decide_eq_true hcmp
        clear hy
        go_region_held3 (fun w' => w'.cell? ⟨w8.heap.size, 0, none⟩ = some (.slice (some ⟨g7, 0, none⟩) zs.length c7) ∧ w'.cell? ⟨w8.heap.size, 1, none⟩ = some (.int .i64 (M : Int)) ∧ w'.cell? ⟨w.heap.size, 0, none⟩ = some (.slice A' zs.length c') ∧ w'.cell? ⟨w.heap.size, 1, none⟩ = some (.int .i64 (M : Int)) ∧ w'.cell? ⟨gn, ky, none⟩ = some (.int .i64 (ns : Int)) ∧ w'.cell? ⟨gn, kn, none⟩ = some (.int .i64 (nn : Int)))
          (first
           | exact ⟨(H7.out.step (Below.refl _ w9).drew).c0, (H7.out.step (Below.refl _ w9).drew).c1, (HBX.out.step (Below.refl _ w9).drew).c0, (HBX.out.step (Below.refl _ w9).drew).c1, HQs.out _ (Below.refl _ w9).drew, HQn.out _ (Below.refl _ w9).drew⟩
           | exact ⟨(H7.out.step HZ1.out).c0, (H7.out.step HZ1.out).c1, (HBX.out.step HZ1.out).c0, (HBX.out.step HZ1.out).c1, HQs.out _ HZ1.out, HQn.out _ HZ1.out⟩
           | exact ⟨(H7.out.step HZ2.out).c0, (H7.out.step HZ2.out).c1, (HBX.out.step HZ2.out).c0, (HBX.out.step HZ2.out).c1, HQs.out _ HZ2.out, HQn.out _ HZ2.out⟩)
          (first
           | (go_at_call 60; refine (HKs.out _ (HSI.out.step HZ1.out).ins).mono ?_; rintro e v2 ⟨rfl, hb⟩; have HZ2 := Lib.hid (below_trans HZ1.out hb); clear hb)
           | (go_at_call 60; refine (HKn.out g7 c7 _ (HO7.out.step (Below.refl _ w9).drew)).mono ?_; rintro e v1 ⟨rfl, hb⟩; have HZ1 := Lib.hid (below_trans (Below.refl _ w9).drew hb); clear hb))
        all_goals
          clear W1
          replace HBX := Lib.hid (HBX.out.step HZ2.out)
          replace HSI := Lib.hid (HSI.out.step HZ2.out)
          replace HNd := Lib.hid (own_same HNd.out (HZ2.out.block _ (own_lt HNd.out)))
          replace HRow := Lib.hid (ownsRow_past6 HRow.out (Past.of_below HZ2.out))
          replace HBl := Lib.hid (below_trans HBl.out HZ2.out)
          have hown := HRow.out
          have hB9 := HBX.out.lt
          go_upto_region 10 with (at_builtin; refine wpList_append_own _ rfl (.tmp 41) (.tmp 43) 48 rfl (w.heap.size + 1) 4 i0 (.bool false) 1 1 Try.underlying48 hi0 hz0 hz1 hz2 rfl (by decide) _ _ _ rfl (hown.alloc _) ⟨v2.heap.size, 0, none⟩ 1 1 [.bool true] rfl rfl (cell_one_new _ _ _) (by simp [Value.oneCell']) (by unfold maxLen; omega) (by omega) (by simp; omega) ?_; intro v' w10 hown' hgrow _)
          have HRow9 := Lib.hid (bool_snoc6 hown' rfl)
          have hpst := Past.grown hown hgrow
          replace HBX := Lib.hid (grown_two6 hown HBX.out (by decide) hgrow)
          replace HSI := Lib.hid (HSI.out.grown hown hgrow)
          replace HNd := Lib.hid (grown_own6 hown HNd.out (by decide) hgrow)
          replace HBl := Lib.hid (HBl.out.trans (hpst.below (Nat.le_succ _) HBl.out.size))
          rw [← HNL.out] at HRow9
          clear hpst hown' hgrow hown HRow HQs HQn HO7 H7
          have x0 := HBX.out.c0
          have x1 := HBX.out.c1
          go_wp2_with fail
          refine (HAf.out w10 true HSI.out.ins).mono ?_
          rintro e w11 ⟨g9, c9, rfl, hg9, ho9, hb⟩
          replace HBX := Lib.hid (HBX.out.step hb)
          replace HNd := Lib.hid (own_same HNd.out (hb.block _ (own_lt HNd.out)))
          replace HRow9 := Lib.hid (ownsRow_past6 HRow9.out (Past.of_below hb))
          replace HBl := Lib.hid (below_trans HBl.out hb)
          have HO9 : Hid (Own w11 g9 (g9 + 1) (some ⟨g9, 0, none⟩) (wSt M zs (i + 1))) := Lib.hid (by rw [HN1.out]; exact ho9)
          clear hb ho9 x0 x1 HAf HSI
          have x0 := HBX.out.c0
          have x1 := HBX.out.c1
          have x2 := HBX.out.f0
          have x3 := HBX.out.f1
          obtain ⟨hs1, hw1⟩ := stored2 HBX.out.row (.slice (some ⟨g9, 0, none⟩) zs.length c9) (.int .i64 (M : Int))
          have hng : g9 ≠ w.heap.size := own_two_ne HO9.out HBX.out
          have HWf : Hid (WS w w.heap.size gn M zs (i + 1) (some ⟨g9, 0, none⟩) c9 g9 (g9 + 1) v' ((w11.setCell ⟨w.heap.size, 0, none⟩ (.slice (some ⟨g9, 0, none⟩) zs.length c9)).setCell ⟨w.heap.size, 1, none⟩ (.int .i64 (M : Int)))) := Lib.hid ⟨⟨hs1⟩, .inr ⟨g9, rfl, rfl, rfl, own_same HO9.out (hw1.block g9 (own_lt HO9.out) (by omega))⟩, own_same HNd.out (hw1.block gn (own_lt HNd.out) (.inr (by omega))), own_row_two6 HRow9.out HBX.out (by decide) hw1, HBl.out.trans (hw1.below (Nat.le_refl _) HBl.out.size)⟩
          clear hs1 hw1 HO9 HNd HRow9 HBX HBl HN1 HNL HSn HY
          go_wp2
          have htp := HTP.out
          clear HTP
          subst htp
          go_roundg (massL M (wSt M zs (i + 1)))
          case measure => have := HMS.out; omega
          case rel => exact ⟨i + 1, _, _, _, _, rfl, by have := HMS.out; omega, HWf⟩
theorem empty_resB (w : World) (lo : Nat) (h : lo ≤ w.heap.size) : BRes (w.alloc (.cells #[] 4)) lo (w.alloc (.cells #[] 4)).heap.size (some ⟨w.heap.size, 0, none⟩) [] :=
  ⟨.inr ⟨w.heap.size, #[], rfl, h, by simp, alloc_row w _ _, by simp, fun j x hx => by simp at hx⟩, Nat.le_refl _⟩
set_option maxHeartbeats 1000000 in
theorem lessWorst_no (A : Option Addr) (c lo hi : Nat) (zs : List Int) (m : Int) (w : World) (hS : Ins w lo hi A zs) (hn : zs.length ≤ 1048576) (hsh : shortB zs m = false) :
    Calls Try.prog 37 #[.agg #[.slice A zs.length c, .int .i64 m]] w fun e w' => ∃ B, e = .returned (.tuple #[.slice B 0 0, .bool false]) ∧ BRes w' w.heap.size w'.heap.size B [] ∧ Below w.heap.size w w' := by
  have HX := Lib.hid (Arg.next (Below.refl w.heap.size w) (.slice A zs.length c) (.int .i64 m) 30 w.heap.size rfl)
  have HI := Lib.hid (hS.step HX.out.below)
  have HH := Lib.hid (fun W h => isShort_any A c lo hi zs m W h hn)
  rw [hsh] at HH
  clear hS hsh
  go_enter Try.func37, Try.ntmps37
  go_wp2_with fail
  generalize w.alloc (.cells #[.slice A zs.length c, .int .i64 m] 30) = w0 at HX HI ⊢
  refine (HH.out w0 HI.out).mono ?_
  rintro e w1 ⟨rfl, hb⟩
  replace HX := Lib.hid (HX.out.step hb)
  clear hb
  go_wp2
  go_ret2
  exact ⟨_, rfl, empty_resB w1 w.heap.size HX.out.below.size, HX.out.below.alloc HX.out.below.size _⟩
set_option maxHeartbeats 1000000 in
theorem lessWorst_sno (A : Option Addr) (c lo hi : Nat) (zs : List Int) (m : Int) (w : World) (hS : Ins w lo hi A zs) (hn : zs.length ≤ 1048576) (hsh : shortB zs m = false) :
    Calls Try.prog 36 #[.agg #[.slice A zs.length c, .int .i64 m]] w fun e w' => ∃ B, e = .returned (.tuple #[.slice B 0 0, .bool false]) ∧ BRes w' w.heap.size w'.heap.size B [] ∧ Below w.heap.size w w' := by
  have HX1 := Lib.hid (Arg.next (Below.refl w.heap.size w) (.slice A zs.length c) (.int .i64 m) 30 w.heap.size rfl)
  have HE0 := Lib.hid (empty_resB (w.alloc (.cells #[.slice A zs.length c, .int .i64 m] 30)) w.heap.size (by simp))
  have hba := (Below.refl _ (w.alloc (.cells #[.slice A zs.length c, .int .i64 m] 30))).alloc (Nat.le_refl _) (.cells #[] 4)
  have HX := Lib.hid (HX1.out.step hba)
  have HI := Lib.hid (hS.step HX.out.below)
  have HH := Lib.hid (fun W h => l6Short_any A c lo hi zs m W h hn)
  rw [hsh] at HH
  clear hS hba HX1 hsh
  go_enter Try.func36, Try.ntmps36
  go_wp2_with fail
  generalize (w.alloc (.cells #[.slice A zs.length c, .int .i64 m] 30)).alloc (.cells #[] 4) = w0 at HX HI HE0 ⊢
  refine (HH.out w0 HI.out).mono ?_
  rintro e w1 ⟨rfl, hb⟩
  replace HX := Lib.hid (HX.out.step hb)
  have HE1 := Lib.hid (HE0.out.step hb)
  have hsz := hb.size
  clear hb HE0
  go_wp2
  go_ret2
  refine ⟨_, rfl, ⟨?_, Nat.le_refl _⟩, HX.out.below⟩
  rcases HE1.out.own with ⟨h, _⟩ | ⟨g, cur, e, h1, h2, hr, hs, hc⟩
  · cases h
  · exact .inr ⟨g, cur, by simpa using e, h1, by omega, hr, hs, hc⟩
theorem own_ansB {w w' : World} {v : Value} {bs : List Bool} {b : Bool} {e : Ending} (he : e = .returned (.tuple #[v, .bool b])) (ho : w'.ownsRow w.heap.size 4 1 v bs.length (bs.map Value.bool)) (hb : Below w.heap.size w w') :
    ∃ B c', e = .returned (.tuple #[.slice B bs.length c', .bool b]) ∧ BRes w' w.heap.size w'.heap.size B bs ∧ Below w.heap.size w w' := by
  obtain ⟨A, c, rfl, hr⟩ := own_resB ho rfl
  exact ⟨A, c, he, hr, hb⟩
theorem lessWorst_both (zs : List Int) (m : Int) (h : zs.length ≤ 1048576) : ∃ (r0 : List Bool) (r1 : Bool), r0.length ≤ 1048576 ∧
    (∀ (w : World) (B : Option Addr) (c lo hi : Nat), Ins w lo hi B zs → Calls Try.prog 37 #[.agg #[.slice B zs.length c, .int .i64 m]] w fun e w' => ∃ B c', e = .returned (.tuple #[.slice B r0.length c', .bool r1]) ∧ BRes w' w.heap.size w'.heap.size B r0 ∧ Below w.heap.size w w') ∧
    (∀ (w : World) (B : Option Addr) (c lo hi : Nat), Ins w lo hi B zs → Calls Try.prog 36 #[.agg #[.slice B zs.length c, .int .i64 m]] w fun e w' => ∃ B c', e = .returned (.tuple #[.slice B r0.length c', .bool r1]) ∧ BRes w' w.heap.size w'.heap.size B r0 ∧ Below w.heap.size w w') := by
  cases hsh : shortB zs m with
  | true =>
    obtain ⟨M, rfl, hs⟩ := shortB_iff.1 hsh
    refine ⟨wL M zs 10, true, by have := wL_len M zs 10; omega, fun w B c lo hi hS => ?_, fun w B c lo hi hS => ?_⟩
    · refine (lessWorst_impl B c lo hi zs M w hS hs).mono ?_
      rintro e w' ⟨v, he, ho, hb⟩
      exact own_ansB he ho hb
    · refine (lessWorst_spec B c lo hi zs M w hS hs).mono ?_
      rintro e w' ⟨v, he, ho, hb⟩
      exact own_ansB he ho hb
  | false =>
    refine ⟨[], false, by simp, fun w B c lo hi hS => ?_, fun w B c lo hi hS => ?_⟩
    · refine (lessWorst_no B c lo hi zs m w hS h hsh).mono ?_
      rintro e w' ⟨B, he, hr, hb⟩
      exact ⟨B, 0, he, hr, hb⟩
    · refine (lessWorst_sno B c lo hi zs m w hS h hsh).mono ?_
      rintro e w' ⟨B, he, hr, hb⟩
      exact ⟨B, 0, he, hr, hb⟩
end Go.Proofs.Ytichjhahnahaoaa
