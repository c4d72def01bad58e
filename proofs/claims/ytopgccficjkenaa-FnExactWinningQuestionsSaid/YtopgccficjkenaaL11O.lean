/- What is known of a state: both together; behind an answer; by a question. -/
import Derived.Test.YtopgccficjkenaaL11P
import Derived.Test.YtopgccficjkenaaL11B
import Derived.Test.YtopgccficjkenaaCan
import Derived.Test.YtopgccficjkenaaRegI
namespace Go.Proofs.Ytopgccficjkenaa
open Go.RowKit Go.ChangeShapes Go.WideShapes Go.Maps
set_option linter.unusedVariables false

theorem within_newR {lo hi g : Nat} {w0 W W' : World} (h : Within lo hi w0 W) (hw : Within g (g + 1) W W') (hg : w0.heap.size ≤ g) : Within lo hi w0 W' :=
  ⟨hw.os.trans h.os, hw.tape.trans h.tape, hw.output.trans h.output, Nat.le_trans h.size hw.size, fun i hi hd => (hw.block i (Nat.lt_of_lt_of_le hi h.size) (.inl (by omega))).trans (h.block i hi hd)⟩
theorem within_belowR {lo hi : Nat} {w0 W W' : World} (h : Within lo hi w0 W) (hb : Below W.heap.size W W') : Within lo hi w0 W' := h.trans (Within.of_below hb)


set_option maxRecDepth 100000 in
set_option maxHeartbeats 8000000 in
theorem orOut_any (a b : OutR) (w : World) (ha : a.many ≤ 100000000000) (hb : b.many ≤ 100000000000) :
    Calls Try.prog 123 #[oV a, oV b] w fun e w' => e = .returned (oV (a.or b)) ∧ Below w.heap.size w w' := by
  obtain ⟨aw, al, ah, am⟩ := a
  obtain ⟨bw, bl, bh, bm⟩ := b
  simp only at ha hb
  have HX := Lib.hid (FourR.new w (.bool aw) (.int .i64 (al : Int)) (.int .i64 (ah : Int)) (.int .i64 (am : Int)) 70 (w.heap.size) rfl)
  have HB := Lib.hid ((Below.refl w.heap.size w).alloc (Nat.le_refl _) (.cells #[.bool aw, .int .i64 (al : Int), .int .i64 (ah : Int), .int .i64 (am : Int)] 70))
  have HY := Lib.hid (FourR.new (w.alloc (.cells #[.bool aw, .int .i64 (al : Int), .int .i64 (ah : Int), .int .i64 (am : Int)] 70)) (.bool bw) (.int .i64 (bl : Int)) (.int .i64 (bh : Int)) (.int .i64 (bm : Int)) 70 (w.heap.size + 1) (by simp))
  replace HX := Lib.hid (HX.out.step ((Below.refl _ _).alloc (Nat.le_refl _) (.cells #[.bool bw, .int .i64 (bl : Int), .int .i64 (bh : Int), .int .i64 (bm : Int)] 70)))
  replace HB := Lib.hid (HB.out.alloc HB.out.size (.cells #[.bool bw, .int .i64 (bl : Int), .int .i64 (bh : Int), .int .i64 (bm : Int)] 70))
  have HO := Lib.hid (FourR.new ((w.alloc (.cells #[.bool aw, .int .i64 (al : Int), .int .i64 (ah : Int), .int .i64 (am : Int)] 70)).alloc (.cells #[.bool bw, .int .i64 (bl : Int), .int .i64 (bh : Int), .int .i64 (bm : Int)] 70)) (.bool false) (.int .i64 0) (.int .i64 0) (.int .i64 0) 70 (w.heap.size + 2) (by simp))
  replace HX := Lib.hid (HX.out.step ((Below.refl _ _).alloc (Nat.le_refl _) (.cells #[.bool false, .int .i64 0, .int .i64 0, .int .i64 0] 70)))
  replace HY := Lib.hid (HY.out.step ((Below.refl _ _).alloc (Nat.le_refl _) (.cells #[.bool false, .int .i64 0, .int .i64 0, .int .i64 0] 70)))
  replace HB := Lib.hid (HB.out.alloc HB.out.size (.cells #[.bool false, .int .i64 0, .int .i64 0, .int .i64 0] 70))
  have W1 : IntKind.i64.wrap ((am : Int) + (bm : Int)) = (am : Int) + (bm : Int) := IntWalk.i64_in _ (by omega)
  have HE : Hid (Value.agg #[.bool (aw || bw), .int .i64 (max (al : Int) (bl : Int)), .int .i64 (min (ah : Int) (bh : Int)), .int .i64 ((am : Int) + (bm : Int))] = oV (OutR.or ⟨aw, al, ah, am⟩ ⟨bw, bl, bh, bm⟩)) := Lib.hid (by simp [oV, OutR.or] <;> omega)
  unfold oV
  cases aw
  · go_enter Try.func123, Try.ntmps123
    go_upto_region 1 with (fail)
    generalize ((w.alloc (.cells #[.bool false, .int .i64 (al : Int), .int .i64 (ah : Int), .int .i64 (am : Int)] 70)).alloc (.cells #[.bool bw, .int .i64 (bl : Int), .int .i64 (bh : Int), .int .i64 (bm : Int)] 70)).alloc (.cells #[.bool false, .int .i64 0, .int .i64 0, .int .i64 0] 70) = w0 at HX HY HO HB ⊢
    have x0 := HX.out.c0
    have x1 := HX.out.c1
    have x2 := HX.out.c2
    have x3 := HX.out.c3
    have y0 := HY.out.c0
    have y1 := HY.out.c1
    have y2 := HY.out.c2
    have y3 := HY.out.c3
    have z0 := HO.out.c0
    have z1 := HO.out.c1
    have z2 := HO.out.c2
    have z3 := HO.out.c3
    have zf0 := HO.out.f 0
    have zf1 := HO.out.f 1
    have zf2 := HO.out.f 2
    have zf3 := HO.out.f 3
    go_wp2
    obtain ⟨hs, hw⟩ := HO.out.set (.bool bw) (.int .i64 (max (al : Int) (bl : Int))) (.int .i64 (min (ah : Int) (bh : Int))) (.int .i64 ((am : Int) + (bm : Int)))
    generalize (((w0.setCell ⟨w.heap.size + 2, 0, none⟩ (.bool bw)).setCell ⟨w.heap.size + 2, 1, none⟩ (.int .i64 (max (al : Int) (bl : Int)))).setCell ⟨w.heap.size + 2, 2, none⟩ (.int .i64 (min (ah : Int) (bh : Int)))).setCell ⟨w.heap.size + 2, 3, none⟩ (.int .i64 ((am : Int) + (bm : Int))) = wf at hs hw ⊢
    have e0 := hs.c0
    have e1 := hs.c1
    have e2 := hs.c2
    have e3 := hs.c3
    refine bodyPost_ret (v := .agg #[.bool bw, .int .i64 (max (al : Int) (bl : Int)), .int .i64 (min (ah : Int) (bh : Int)), .int .i64 ((am : Int) + (bm : Int))]) (by simp [results, go_sem, e0, e1, e2, e3]) rfl ?_
    exact ⟨congrArg Ending.returned HE.out, HB.out.trans (hw.below (by omega) HB.out.size)⟩
  · go_enter Try.func123, Try.ntmps123
    go_upto_region 1 with (fail)
    generalize ((w.alloc (.cells #[.bool true, .int .i64 (al : Int), .int .i64 (ah : Int), .int .i64 (am : Int)] 70)).alloc (.cells #[.bool bw, .int .i64 (bl : Int), .int .i64 (bh : Int), .int .i64 (bm : Int)] 70)).alloc (.cells #[.bool false, .int .i64 0, .int .i64 0, .int .i64 0] 70) = w0 at HX HY HO HB ⊢
    have x0 := HX.out.c0
    have x1 := HX.out.c1
    have x2 := HX.out.c2
    have x3 := HX.out.c3
    have y0 := HY.out.c0
    have y1 := HY.out.c1
    have y2 := HY.out.c2
    have y3 := HY.out.c3
    have z0 := HO.out.c0
    have z1 := HO.out.c1
    have z2 := HO.out.c2
    have z3 := HO.out.c3
    have zf0 := HO.out.f 0
    have zf1 := HO.out.f 1
    have zf2 := HO.out.f 2
    have zf3 := HO.out.f 3
    go_wp2
    obtain ⟨hs, hw⟩ := HO.out.set (.bool true) (.int .i64 (max (al : Int) (bl : Int))) (.int .i64 (min (ah : Int) (bh : Int))) (.int .i64 ((am : Int) + (bm : Int)))
    generalize (((w0.setCell ⟨w.heap.size + 2, 0, none⟩ (.bool true)).setCell ⟨w.heap.size + 2, 1, none⟩ (.int .i64 (max (al : Int) (bl : Int)))).setCell ⟨w.heap.size + 2, 2, none⟩ (.int .i64 (min (ah : Int) (bh : Int)))).setCell ⟨w.heap.size + 2, 3, none⟩ (.int .i64 ((am : Int) + (bm : Int))) = wf at hs hw ⊢
    have e0 := hs.c0
    have e1 := hs.c1
    have e2 := hs.c2
    have e3 := hs.c3
    refine bodyPost_ret (v := .agg #[.bool true, .int .i64 (max (al : Int) (bl : Int)), .int .i64 (min (ah : Int) (bh : Int)), .int .i64 ((am : Int) + (bm : Int))]) (by simp [results, go_sem, e0, e1, e2, e3]) rfl ?_
    exact ⟨congrArg Ending.returned HE.out, HB.out.trans (hw.below (by omega) HB.out.size)⟩

/-- What outlookAt answers at a state. -/
def OutC (M : Nat) (qs zs : List Int) : Prop := ∀ (Q : Option Addr) (cq lo2 hi2 : Nat) (A : Option Addr) (c lo hi : Nat) (w : World) (B : Nat), OMapM w B qs → Ins w lo2 hi2 Q qs → (hi2 ≤ B ∨ B < lo2) → Ins w lo hi A zs → (hi ≤ B ∨ B < lo) →
    Calls Try.prog 99 #[.agg #[.slice Q qs.length cq, .map (some B)], .agg #[.slice A zs.length c, .int .i64 (M : Int)]] w fun e w' => e = .returned (oV (raceL M qs zs)) ∧ OMapM w' B qs ∧ Within B (B + 1) w w'


set_option maxRecDepth 100000 in
set_option maxHeartbeats 8000000 in
theorem outlookBehind_any (M : Nat) (qs zs : List Int) (q : Int) (y : Bool) (hs : Short M zs) (hqk : qOK zs.length q = true) (hC : OutC M qs (afters zs M q y)) (Q : Option Addr) (cq lo2 hi2 : Nat) (A : Option Addr) (c lo hi : Nat) (w : World) (B : Nat) (hM : OMapM w B qs) (hQ : Ins w lo2 hi2 Q qs) (hd2 : hi2 ≤ B ∨ B < lo2) (hS : Ins w lo hi A zs) :
    Calls Try.prog 107 #[.agg #[.slice Q qs.length cq, .map (some B)], .agg #[.slice A zs.length c, .int .i64 (M : Int)], .int .i64 q, .bool y] w fun e w' => e = .returned (oV (raceL M qs (afters zs M q y))) ∧ OMapM w' B qs ∧ Within B (B + 1) w w' := by
  have hBw := hM.lt
  have hqt := hQ.top
  have hst := hS.top
  have HR := Lib.hid (Two.new w (.slice Q qs.length cq) (.map (some B)) 81 (w.heap.size) rfl)
  have HB := Lib.hid ((Below.refl w.heap.size w).alloc (Nat.le_refl _) (.cells #[.slice Q qs.length cq, .map (some B)] 81))
  have HT := Lib.hid (Two.new (w.alloc (.cells #[.slice Q qs.length cq, .map (some B)] 81)) (.slice A zs.length c) (.int .i64 (M : Int)) 26 (w.heap.size + 1) (by simp))
  replace HR := Lib.hid (HR.out.step ((Below.refl _ _).alloc (Nat.le_refl _) (.cells #[.slice A zs.length c, .int .i64 (M : Int)] 26)))
  replace HB := Lib.hid (HB.out.alloc HB.out.size (.cells #[.slice A zs.length c, .int .i64 (M : Int)] 26))
  have HO := Lib.hid (FourR.new ((w.alloc (.cells #[.slice Q qs.length cq, .map (some B)] 81)).alloc (.cells #[.slice A zs.length c, .int .i64 (M : Int)] 26)) (.bool false) (.int .i64 0) (.int .i64 0) (.int .i64 0) 70 (w.heap.size + 2) (by simp))
  replace HR := Lib.hid (HR.out.step ((Below.refl _ _).alloc (Nat.le_refl _) (.cells #[.bool false, .int .i64 0, .int .i64 0, .int .i64 0] 70)))
  replace HT := Lib.hid (HT.out.step ((Below.refl _ _).alloc (Nat.le_refl _) (.cells #[.bool false, .int .i64 0, .int .i64 0, .int .i64 0] 70)))
  replace HB := Lib.hid (HB.out.alloc HB.out.size (.cells #[.bool false, .int .i64 0, .int .i64 0, .int .i64 0] 70))
  have HM := Lib.hid (hM.step HB.out)
  have HQ := Lib.hid (hQ.step HB.out)
  have HS := Lib.hid (hS.step HB.out)
  have HA := Lib.hid (fun W h => answerState_impl A c lo hi zs (M : Int) q y W h hs.valid hqk)
  have HC := Lib.hid hC
  have HL : Hid ((afters zs (M : Int) q y).length = zs.length) := Lib.hid (afters_len _ _ _ _)
  clear hM hQ hS hC hs hqk
  go_enter Try.func107, Try.ntmps107
  go_wp2_with fail
  generalize ((w.alloc (.cells #[.slice Q qs.length cq, .map (some B)] 81)).alloc (.cells #[.slice A zs.length c, .int .i64 (M : Int)] 26)).alloc (.cells #[.bool false, .int .i64 0, .int .i64 0, .int .i64 0] 70) = w0 at HR HT HO HB HM HQ HS ⊢
  have t0 := HT.out.c0
  have t1 := HT.out.c1
  go_wp2_with fail
  with_reducible refine (HA.out w0 HS.out).mono ?_
  rintro e w1 ⟨g, rfl, hg, hrow, hb⟩
  have HG := Lib.hid (row_ins hrow)
  replace HR := Lib.hid (HR.out.step hb)
  replace HT := Lib.hid (HT.out.step hb)
  replace HO := Lib.hid (HO.out.step hb)
  replace HM := Lib.hid (HM.out.step hb)
  replace HQ := Lib.hid (HQ.out.step hb)
  have hsz0 := HB.out.size
  replace HB := Lib.hid (below_trans HB.out hb)
  clear hb hrow t0 t1 HA HS
  have hgl := HO.out.lt
  go_upto_region 2 with (fail)
  have HN := Lib.hid (Two.new w1 (.slice (some ⟨g, 0, none⟩) zs.length zs.length) (.int .i64 (M : Int)) 26 w1.heap.size rfl)
  have hb := (Below.refl w1.heap.size w1).alloc (Nat.le_refl _) (.cells #[.slice (some ⟨g, 0, none⟩) zs.length zs.length, .int .i64 (M : Int)] 26)
  replace HR := Lib.hid (HR.out.step hb)
  replace HT := Lib.hid (HT.out.step hb)
  replace HO := Lib.hid (HO.out.step hb)
  replace HM := Lib.hid (HM.out.step hb)
  replace HQ := Lib.hid (HQ.out.step hb)
  replace HG := Lib.hid (HG.out.step hb)
  replace HB := Lib.hid (below_trans HB.out hb)
  have hw1 := HB.out.size
  clear hb
  generalize w1.alloc (.cells #[.slice (some ⟨g, 0, none⟩) zs.length zs.length, .int .i64 (M : Int)] 26) = w2 at HR HT HO HM HQ HG HB HN hw1 ⊢
  have r0 := HR.out.c0
  have r1 := HR.out.c1
  have n0 := HN.out.c0
  have n1 := HN.out.c1
  have HCk := Lib.hid (HC.out Q cq lo2 hi2 (some ⟨g, 0, none⟩) zs.length g (g + 1) w2 B HM.out HQ.out hd2 HG.out (by omega))
  rw [HL.out] at HCk
  go_wp2_with fail
  with_reducible refine HCk.out.mono ?_
  rintro e w3 ⟨rfl, hm3, hw3⟩
  have HM3 := Lib.hid hm3
  replace HO := Lib.hid (HO.out.within hw3 (.inr (by omega)))
  have HW := Lib.hid ((Within.of_below HB.out : Within B (B + 1) w w2).trans hw3)
  clear hm3 hw3 r0 r1 n0 n1 HCk HC HN HR HT HQ HG HM
  obtain ⟨r, hr⟩ : ∃ r, raceL M qs (afters zs (M : Int) q y) = r := ⟨_, rfl⟩
  have HRE := Lib.hid (congrArg oV hr)
  rw [hr]
  clear hr
  obtain ⟨rw', rl, rs, rm⟩ := r
  unfold oV
  have o0 := HO.out.c0
  have f0 := HO.out.f 0
  have o1 := HO.out.c1
  have f1 := HO.out.f 1
  have o2 := HO.out.c2
  have f2 := HO.out.f 2
  have o3 := HO.out.c3
  have f3 := HO.out.f 3
  go_wp2
  obtain ⟨hs, hw⟩ := HO.out.set (.bool rw') (.int .i64 (rl : Int)) (.int .i64 (rs : Int)) (.int .i64 (rm : Int))
  have hm := HM3.out.within hw (.inl (by omega))
  have hwf := within_newR HW.out hw (by omega)
  generalize (((w3.setCell ⟨w.heap.size + 2, 0, none⟩ (.bool rw')).setCell ⟨w.heap.size + 2, 1, none⟩ (.int .i64 (rl : Int))).setCell ⟨w.heap.size + 2, 2, none⟩ (.int .i64 (rs : Int))).setCell ⟨w.heap.size + 2, 3, none⟩ (.int .i64 (rm : Int)) = wf at hs hw hm hwf ⊢
  have e0 := hs.c0
  have e1 := hs.c1
  have e2 := hs.c2
  have e3 := hs.c3
  refine bodyPost_ret (v := .agg #[.bool rw', .int .i64 (rl : Int), .int .i64 (rs : Int), .int .i64 (rm : Int)]) (by simp [results, go_sem, e0, e1, e2, e3]) rfl ?_
  exact ⟨congrArg Ending.returned HRE.out.symm, hm, hwf⟩

/-- What stands still while both answers are looked at. -/
structure BW11 (n B : Nat) (Q : Option Addr) (cq lo2 hi2 : Nat) (qs : List Int) (A : Option Addr) (c lo hi : Nat) (zs : List Int) (M : Nat) (w W : World) : Prop where
  hr : Two W n (.slice Q qs.length cq) (.map (some B)) 81
  ht : Two W (n + 1) (.slice A zs.length c) (.int .i64 (M : Int)) 26
  ho : FourR W (n + 2) (.bool false) (.int .i64 0) (.int .i64 0) (.int .i64 0) 70
  pm : OMapM W B qs
  qi : Ins W lo2 hi2 Q qs
  si : Ins W lo hi A zs
  wi : Within B (B + 1) w W
section
variable {n B : Nat} {Q : Option Addr} {cq lo2 hi2 : Nat} {qs : List Int} {A : Option Addr} {c lo hi : Nat} {zs : List Int} {M : Nat} {w W W' : World}
theorem BW11.win (h : BW11 n B Q cq lo2 hi2 qs A c lo hi zs M w W) (hB : B < n) (hd2 : hi2 ≤ B ∨ B < lo2) (hd : hi ≤ B ∨ B < lo) (hw : Within B (B + 1) W W') (pm : OMapM W' B qs) : BW11 n B Q cq lo2 hi2 qs A c lo hi zs M w W' :=
  ⟨h.hr.within hw (.inr (by omega)), h.ht.within hw (.inr (by omega)), h.ho.within hw (.inr (by omega)), pm, h.qi.within hw (by omega), h.si.within hw (by omega), h.wi.trans hw⟩
theorem BW11.below (h : BW11 n B Q cq lo2 hi2 qs A c lo hi zs M w W) (hb : Below W.heap.size W W') : BW11 n B Q cq lo2 hi2 qs A c lo hi zs M w W' :=
  ⟨h.hr.step hb, h.ht.step hb, h.ho.step hb, h.pm.step hb, h.qi.step hb, h.si.step hb, within_belowR h.wi hb⟩
theorem BW11.new {b : Nat} (h : BW11 n B Q cq lo2 hi2 qs A c lo hi zs M w W) (hB : B < n) (hn : w.heap.size = n) (h2 : hi2 ≤ n) (h3 : hi ≤ n) (hb : n + 2 < b) (hw : Within b (b + 1) W W') : BW11 n B Q cq lo2 hi2 qs A c lo hi zs M w W' :=
  ⟨h.hr.within hw (.inl (by omega)), h.ht.within hw (.inl (by omega)), h.ho.within hw (.inl (by omega)), h.pm.within hw (.inl (by omega)), h.qi.within hw (.inl (by omega)), h.si.within hw (.inl (by omega)), within_newR h.wi hw (by omega)⟩
end
def oAct (n B : Nat) (Q : Option Addr) (cq lq : Nat) (A : Option Addr) (c lz M : Nat) (q : Int) (v7 v8 v9 v10 v11 v12 v13 v14 v15 v16 : Value) : Act :=
  { tmps := #[.agg #[.slice Q lq cq, .map (some B)], .agg #[.slice A lz c, .int .i64 (M : Int)], .int .i64 q, .pointer (some ⟨n, 0, none⟩), .pointer (some ⟨n + 1, 0, none⟩), undef, .pointer (some ⟨n + 2, 0, none⟩), v7, v8, v9, v10, v11, v12, v13, v14, v15, v16, undef, undef, undef, undef, undef, undef, undef, undef, undef, undef, undef, undef, undef, undef, undef, undef, undef, undef, undef, undef, undef, undef, undef, undef, undef, undef], defers := [] }
structure OInv11 (n B : Nat) (Q : Option Addr) (cq lo2 hi2 : Nat) (qs : List Int) (A : Option Addr) (c lo hi : Nat) (zs : List Int) (M : Nat) (q : Int) (w : World) (rn ry : OutR) (D : Nat → Bool) (v7 v8 v9 v10 v11 v12 v13 v14 v15 v16 : Value) (W : World) : Prop where
  bw : BW11 n B Q cq lo2 hi2 qs A c lo hi zs M w W
  s9 : D 0 = true → v9 = .agg #[.slice Q qs.length cq, .map (some B)]
  s10 : D 1 = true → v10 = .agg #[.slice A zs.length c, .int .i64 (M : Int)]
  s11 : D 2 = true → v11 = .int .i64 q
  s12 : D 3 = true → v12 = oV rn
  s13 : D 4 = true → v13 = .agg #[.slice Q qs.length cq, .map (some B)]
  s14 : D 5 = true → v14 = .agg #[.slice A zs.length c, .int .i64 (M : Int)]
  s15 : D 6 = true → v15 = .int .i64 q
  s16 : D 7 = true → v16 = oV ry
  s7 : D 8 = true → ∃ b o, v7 = .pointer (some ⟨b, 0, none⟩) ∧ n + 2 < b ∧ FourR W b (.bool (OutR.wins o)) (.int .i64 (o.long : Int)) (.int .i64 (o.short : Int)) (.int .i64 (o.many : Int)) 70 ∧ (D 10 = true → o = rn)
  s8 : D 9 = true → ∃ b o, v8 = .pointer (some ⟨b, 0, none⟩) ∧ n + 2 < b ∧ FourR W b (.bool (OutR.wins o)) (.int .i64 (o.long : Int)) (.int .i64 (o.short : Int)) (.int .i64 (o.many : Int)) 70 ∧ (D 11 = true → o = ry)
  ne : D 8 = true → D 9 = true → v7 ≠ v8
  o10 : D 10 = true → D 3 = true ∧ D 8 = true
  o11 : D 11 = true → D 7 = true ∧ D 9 = true
theorem notDR {a b : Bool} (h : a = true → b = true) (hb : b = false) : a = false := by
  cases a with
  | false => rfl
  | true => rw [h rfl] at hb; cases hb

set_option maxRecDepth 100000 in
set_option maxHeartbeats 16000000 in
theorem outlookBy_any (M : Nat) (qs zs : List Int) (q : Int) (hs : Short M zs) (hqk : qOK zs.length q = true) (hq5 : qs.length ≤ 5) (hC : ∀ y, OutC M qs (afters zs M q y)) (Q : Option Addr) (cq lo2 hi2 : Nat) (A : Option Addr) (c lo hi : Nat) (w : World) (B : Nat) (hM : OMapM w B qs) (hQ : Ins w lo2 hi2 Q qs) (hd2 : hi2 ≤ B ∨ B < lo2) (hS : Ins w lo hi A zs) (hd : hi ≤ B ∨ B < lo) :
    Calls Try.prog 101 #[.agg #[.slice Q qs.length cq, .map (some B)], .agg #[.slice A zs.length c, .int .i64 (M : Int)], .int .i64 q] w fun e w' => e = .returned (oV (raceB M qs zs q)) ∧ OMapM w' B qs ∧ Within B (B + 1) w w' := by
  have hBw := hM.lt
  have hqt := hQ.top
  have hst := hS.top
  have HR := Lib.hid (Two.new w (.slice Q qs.length cq) (.map (some B)) 81 (w.heap.size) rfl)
  have HB := Lib.hid ((Below.refl w.heap.size w).alloc (Nat.le_refl _) (.cells #[.slice Q qs.length cq, .map (some B)] 81))
  have HT := Lib.hid (Two.new (w.alloc (.cells #[.slice Q qs.length cq, .map (some B)] 81)) (.slice A zs.length c) (.int .i64 (M : Int)) 26 (w.heap.size + 1) (by simp))
  replace HR := Lib.hid (HR.out.step ((Below.refl _ _).alloc (Nat.le_refl _) (.cells #[.slice A zs.length c, .int .i64 (M : Int)] 26)))
  replace HB := Lib.hid (HB.out.alloc HB.out.size (.cells #[.slice A zs.length c, .int .i64 (M : Int)] 26))
  have HO := Lib.hid (FourR.new ((w.alloc (.cells #[.slice Q qs.length cq, .map (some B)] 81)).alloc (.cells #[.slice A zs.length c, .int .i64 (M : Int)] 26)) (.bool false) (.int .i64 0) (.int .i64 0) (.int .i64 0) 70 (w.heap.size + 2) (by simp))
  replace HR := Lib.hid (HR.out.step ((Below.refl _ _).alloc (Nat.le_refl _) (.cells #[.bool false, .int .i64 0, .int .i64 0, .int .i64 0] 70)))
  replace HT := Lib.hid (HT.out.step ((Below.refl _ _).alloc (Nat.le_refl _) (.cells #[.bool false, .int .i64 0, .int .i64 0, .int .i64 0] 70)))
  replace HB := Lib.hid (HB.out.alloc HB.out.size (.cells #[.bool false, .int .i64 0, .int .i64 0, .int .i64 0] 70))
  have HBW : Hid (BW11 w.heap.size B Q cq lo2 hi2 qs A c lo hi zs M w (((w.alloc (.cells #[.slice Q qs.length cq, .map (some B)] 81)).alloc (.cells #[.slice A zs.length c, .int .i64 (M : Int)] 26)).alloc (.cells #[.bool false, .int .i64 0, .int .i64 0, .int .i64 0] 70))) := Lib.hid ⟨HR.out, HT.out, HO.out, hM.step HB.out, hQ.step HB.out, hS.step HB.out, Within.of_below HB.out⟩
  have HF := Lib.hid (fun y W hm hq' hs' => outlookBehind_any M qs zs q y hs hqk (hC y) Q cq lo2 hi2 A c lo hi W B hm hq' hd2 hs')
  have HN1 := Lib.hid (race_nums hq5 (hs.after q false))
  have HN2 := Lib.hid (race_nums hq5 (hs.after q true))
  have HRB : Hid (raceB M qs zs q = bothR (raceL M qs (afters zs M q false)) (raceL M qs (afters zs M q true))) := Lib.hid rfl
  have HF0 := Lib.hid (fun W hm hq' hs' => HF.out false W hm hq' hs')
  have HF1 := Lib.hid (fun W hm hq' hs' => HF.out true W hm hq' hs')
  clear HF hM hQ hS hs hqk hC HR HT HO
  obtain ⟨rn, hrn⟩ : ∃ r, raceL M qs (afters zs M q false) = r := ⟨_, rfl⟩
  obtain ⟨ry, hry⟩ : ∃ r, raceL M qs (afters zs M q true) = r := ⟨_, rfl⟩
  have HEQ : Hid (∀ a b, a = rn → b = ry → oV (bothR a b) = oV (raceB M qs zs q)) := Lib.hid (fun a b h1 h2 => by rw [HRB.out, hrn, hry, h1, h2])
  rw [hrn] at HN1 HF0
  rw [hry] at HN2 HF1
  clear HRB hrn hry
  go_enter Try.func101, Try.ntmps101
  go_wp2_with fail
  generalize ((w.alloc (.cells #[.slice Q qs.length cq, .map (some B)] 81)).alloc (.cells #[.slice A zs.length c, .int .i64 (M : Int)] 26)).alloc (.cells #[.bool false, .int .i64 0, .int .i64 0, .int .i64 0] 70) = w0 at HBW HB ⊢
  have hn := HBW.out.ho.lt
  have hsz0 := HB.out.size
  refine wp_region_noPanic ?_
  refine wp_region_inv5 (by kernel_rfl) (by kernel_rfl) (fun D A' W => ∃ v7 v8 v9 v10 v11 v12 v13 v14 v15 v16, A' = oAct w.heap.size B Q cq qs.length A c zs.length M q v7 v8 v9 v10 v11 v12 v13 v14 v15 v16 ∧ OInv11 w.heap.size B Q cq lo2 hi2 qs A c lo hi zs M q w rn ry D v7 v8 v9 v10 v11 v12 v13 v14 v15 v16 W) ?h0 ?hs ?hd
  case h0 => exact ⟨undef, undef, undef, undef, undef, undef, undef, undef, undef, undef, rfl, ⟨HBW.out.below (Below.refl _ _).drew, nofun, nofun, nofun, nofun, nofun, nofun, nofun, nofun, nofun, nofun, nofun, nofun, nofun⟩⟩
  case hs =>
    rintro D _ W ⟨v7, v8, v9, v10, v11, v12, v13, v14, v15, v16, rfl, hI⟩ i o ho hD hA K hK
    have hi' : i < 12 := (Array.getElem?_eq_some_iff.1 ho).1
    have HI := Lib.hid hI
    have HK := Lib.hid hK
    clear hI hK HBW HB
    obtain rfl | rfl | rfl | rfl | rfl | rfl | rfl | rfl | rfl | rfl | rfl | rfl : i = 0 ∨ i = 1 ∨ i = 2 ∨ i = 3 ∨ i = 4 ∨ i = 5 ∨ i = 6 ∨ i = 7 ∨ i = 8 ∨ i = 9 ∨ i = 10 ∨ i = 11 := by omega
    all_goals (obtain rfl := Option.some.inj ho; clear ho hi'; simp [Region.binds] at hA; unfold oAct)
    · have x0 := HI.out.bw.hr.c0
      have x1 := HI.out.bw.hr.c1
      go_simp
      exact HK.out _ _ ⟨_, _, _, _, _, _, _, _, _, _, rfl, ⟨(by simpa using HI.out.bw), (fun _ => rfl), (by simpa using HI.out.s10), (by simpa using HI.out.s11), (by simpa using HI.out.s12), (by simpa using HI.out.s13), (by simpa using HI.out.s14), (by simpa using HI.out.s15), (by simpa using HI.out.s16), (by simpa using HI.out.s7), (by simpa using HI.out.s8), (by simpa using HI.out.ne), (fun h => by have h2 := HI.out.o10 (by simpa using h); simp [h2.1, h2.2]), (fun h => by have h2 := HI.out.o11 (by simpa using h); simp [h2.1, h2.2])⟩⟩
    · have x0 := HI.out.bw.ht.c0
      have x1 := HI.out.bw.ht.c1
      go_simp
      exact HK.out _ _ ⟨_, _, _, _, _, _, _, _, _, _, rfl, ⟨(by simpa using HI.out.bw), (by simpa using HI.out.s9), (fun _ => rfl), (by simpa using HI.out.s11), (by simpa using HI.out.s12), (by simpa using HI.out.s13), (by simpa using HI.out.s14), (by simpa using HI.out.s15), (by simpa using HI.out.s16), (by simpa using HI.out.s7), (by simpa using HI.out.s8), (by simpa using HI.out.ne), (fun h => by have h2 := HI.out.o10 (by simpa using h); simp [h2.1, h2.2]), (fun h => by have h2 := HI.out.o11 (by simpa using h); simp [h2.1, h2.2])⟩⟩
    · go_simp
      exact HK.out _ _ ⟨_, _, _, _, _, _, _, _, _, _, rfl, ⟨(by simpa using HI.out.bw), (by simpa using HI.out.s9), (by simpa using HI.out.s10), (fun _ => rfl), (by simpa using HI.out.s12), (by simpa using HI.out.s13), (by simpa using HI.out.s14), (by simpa using HI.out.s15), (by simpa using HI.out.s16), (by simpa using HI.out.s7), (by simpa using HI.out.s8), (by simpa using HI.out.ne), (fun h => by have h2 := HI.out.o10 (by simpa using h); simp [h2.1, h2.2]), (fun h => by have h2 := HI.out.o11 (by simpa using h); simp [h2.1, h2.2])⟩⟩
    · obtain rfl := HI.out.s9 (by simp_all)
      obtain rfl := HI.out.s10 (by simp_all)
      obtain rfl := HI.out.s11 (by simp_all)
      have h10 := notDR (fun h => (HI.out.o10 h).1) hD
      go_simp
      refine (HF0.out W HI.out.bw.pm HI.out.bw.qi HI.out.bw.si).mono ?_
      rintro e W' ⟨rfl, hpm', hw'⟩
      exact HK.out _ _ ⟨_, _, _, _, _, _, _, _, _, _, rfl, ⟨(HI.out.bw.win hBw hd2 hd hw' hpm'), (fun _ => rfl), (fun _ => rfl), (fun _ => rfl), (fun _ => rfl), (by simpa using HI.out.s13), (by simpa using HI.out.s14), (by simpa using HI.out.s15), (by simpa using HI.out.s16), (fun h => by obtain ⟨b, o, e, hl, ht, hx⟩ := HI.out.s7 (by simpa using h); exact ⟨b, o, e, hl, ht.within hw' (.inr (by omega)), fun h => hx (by simpa using h)⟩), (fun h => by obtain ⟨b, o, e, hl, ht, hx⟩ := HI.out.s8 (by simpa using h); exact ⟨b, o, e, hl, ht.within hw' (.inr (by omega)), fun h => hx (by simpa using h)⟩), (by simpa using HI.out.ne), (fun h => by have h2 := HI.out.o10 (by simpa using h); simp [h2.1, h2.2]), (fun h => by have h2 := HI.out.o11 (by simpa using h); simp [h2.1, h2.2])⟩⟩
    · have x0 := HI.out.bw.hr.c0
      have x1 := HI.out.bw.hr.c1
      go_simp
      exact HK.out _ _ ⟨_, _, _, _, _, _, _, _, _, _, rfl, ⟨(by simpa using HI.out.bw), (by simpa using HI.out.s9), (by simpa using HI.out.s10), (by simpa using HI.out.s11), (by simpa using HI.out.s12), (fun _ => rfl), (by simpa using HI.out.s14), (by simpa using HI.out.s15), (by simpa using HI.out.s16), (by simpa using HI.out.s7), (by simpa using HI.out.s8), (by simpa using HI.out.ne), (fun h => by have h2 := HI.out.o10 (by simpa using h); simp [h2.1, h2.2]), (fun h => by have h2 := HI.out.o11 (by simpa using h); simp [h2.1, h2.2])⟩⟩
    · have x0 := HI.out.bw.ht.c0
      have x1 := HI.out.bw.ht.c1
      go_simp
      exact HK.out _ _ ⟨_, _, _, _, _, _, _, _, _, _, rfl, ⟨(by simpa using HI.out.bw), (by simpa using HI.out.s9), (by simpa using HI.out.s10), (by simpa using HI.out.s11), (by simpa using HI.out.s12), (by simpa using HI.out.s13), (fun _ => rfl), (by simpa using HI.out.s15), (by simpa using HI.out.s16), (by simpa using HI.out.s7), (by simpa using HI.out.s8), (by simpa using HI.out.ne), (fun h => by have h2 := HI.out.o10 (by simpa using h); simp [h2.1, h2.2]), (fun h => by have h2 := HI.out.o11 (by simpa using h); simp [h2.1, h2.2])⟩⟩
    · go_simp
      exact HK.out _ _ ⟨_, _, _, _, _, _, _, _, _, _, rfl, ⟨(by simpa using HI.out.bw), (by simpa using HI.out.s9), (by simpa using HI.out.s10), (by simpa using HI.out.s11), (by simpa using HI.out.s12), (by simpa using HI.out.s13), (by simpa using HI.out.s14), (fun _ => rfl), (by simpa using HI.out.s16), (by simpa using HI.out.s7), (by simpa using HI.out.s8), (by simpa using HI.out.ne), (fun h => by have h2 := HI.out.o10 (by simpa using h); simp [h2.1, h2.2]), (fun h => by have h2 := HI.out.o11 (by simpa using h); simp [h2.1, h2.2])⟩⟩
    · obtain rfl := HI.out.s13 (by simp_all)
      obtain rfl := HI.out.s14 (by simp_all)
      obtain rfl := HI.out.s15 (by simp_all)
      have h11 := notDR (fun h => (HI.out.o11 h).1) hD
      go_simp
      refine (HF1.out W HI.out.bw.pm HI.out.bw.qi HI.out.bw.si).mono ?_
      rintro e W' ⟨rfl, hpm', hw'⟩
      exact HK.out _ _ ⟨_, _, _, _, _, _, _, _, _, _, rfl, ⟨(HI.out.bw.win hBw hd2 hd hw' hpm'), (by simpa using HI.out.s9), (by simpa using HI.out.s10), (by simpa using HI.out.s11), (by simpa using HI.out.s12), (fun _ => rfl), (fun _ => rfl), (fun _ => rfl), (fun _ => rfl), (fun h => by obtain ⟨b, o, e, hl, ht, hx⟩ := HI.out.s7 (by simpa using h); exact ⟨b, o, e, hl, ht.within hw' (.inr (by omega)), fun h => hx (by simpa using h)⟩), (fun h => by obtain ⟨b, o, e, hl, ht, hx⟩ := HI.out.s8 (by simpa using h); exact ⟨b, o, e, hl, ht.within hw' (.inr (by omega)), fun h => hx (by simpa using h)⟩), (by simpa using HI.out.ne), (fun h => by have h2 := HI.out.o10 (by simpa using h); simp [h2.1, h2.2]), (fun h => by have h2 := HI.out.o11 (by simpa using h); simp [h2.1, h2.2])⟩⟩
    · have h10 := notDR (fun h => (HI.out.o10 h).2) hD
      have hb : Below W.heap.size W (W.alloc (.cells #[.bool false, .int .i64 0, .int .i64 0, .int .i64 0] 70)) := (Below.refl _ _).alloc (Nat.le_refl _) _
      have hlt := HI.out.bw.ho.lt
      go_simp
      exact HK.out _ _ ⟨_, _, _, _, _, _, _, _, _, _, rfl, ⟨(HI.out.bw.below hb), (by simpa using HI.out.s9), (by simpa using HI.out.s10), (by simpa using HI.out.s11), (by simpa using HI.out.s12), (by simpa using HI.out.s13), (by simpa using HI.out.s14), (by simpa using HI.out.s15), (by simpa using HI.out.s16), (fun _ => ⟨W.heap.size, ⟨false, 0, 0, 0⟩, rfl, hlt, FourR.new W _ _ _ _ _ _ rfl, fun h => by simp [h10] at h⟩), (fun h => by obtain ⟨b, o, e, hl, ht, hx⟩ := HI.out.s8 (by simpa using h); exact ⟨b, o, e, hl, ht.step hb, fun h => hx (by simpa using h)⟩), (fun _ h9 => by obtain ⟨b, o, e, hl, ht, hx⟩ := HI.out.s8 (by simpa using h9); have := ht.lt; intro he; rw [e] at he; injection he with he; injection he with he; injection he with he; omega), (fun h => by have h2 := HI.out.o10 (by simpa using h); simp [h2.1, h2.2]), (fun h => by have h2 := HI.out.o11 (by simpa using h); simp [h2.1, h2.2])⟩⟩
    · have h11 := notDR (fun h => (HI.out.o11 h).2) hD
      have hb : Below W.heap.size W (W.alloc (.cells #[.bool false, .int .i64 0, .int .i64 0, .int .i64 0] 70)) := (Below.refl _ _).alloc (Nat.le_refl _) _
      have hlt := HI.out.bw.ho.lt
      go_simp
      exact HK.out _ _ ⟨_, _, _, _, _, _, _, _, _, _, rfl, ⟨(HI.out.bw.below hb), (by simpa using HI.out.s9), (by simpa using HI.out.s10), (by simpa using HI.out.s11), (by simpa using HI.out.s12), (by simpa using HI.out.s13), (by simpa using HI.out.s14), (by simpa using HI.out.s15), (by simpa using HI.out.s16), (fun h => by obtain ⟨b, o, e, hl, ht, hx⟩ := HI.out.s7 (by simpa using h); exact ⟨b, o, e, hl, ht.step hb, fun h => hx (by simpa using h)⟩), (fun _ => ⟨W.heap.size, ⟨false, 0, 0, 0⟩, rfl, hlt, FourR.new W _ _ _ _ _ _ rfl, fun h => by simp [h11] at h⟩), (fun h9 _ => by obtain ⟨b, o, e, hl, ht, hx⟩ := HI.out.s7 (by simpa using h9); have := ht.lt; intro he; rw [e] at he; injection he with he; injection he with he; injection he with he; omega), (fun h => by have h2 := HI.out.o10 (by simpa using h); simp [h2.1, h2.2]), (fun h => by have h2 := HI.out.o11 (by simpa using h); simp [h2.1, h2.2])⟩⟩
    · have hA' : D 8 = true := by simp_all
      have hB' : D 3 = true := by simp_all
      obtain ⟨b, o, rfl, hl, ht, _⟩ := HI.out.s7 hA'
      obtain rfl := HI.out.s12 hB'
      unfold oV
      have c0 := ht.c0
      have f0 := ht.f 0
      have c1 := ht.c1
      have f1 := ht.f 1
      have c2 := ht.c2
      have f2 := ht.f 2
      have c3 := ht.c3
      have f3 := ht.f 3
      obtain ⟨hs4, hw4⟩ := ht.set (.bool rn.wins) (.int .i64 (rn.long : Int)) (.int .i64 (rn.short : Int)) (.int .i64 (rn.many : Int))
      have hs4 := Lib.hid hs4
      have hw4 := Lib.hid hw4
      go_simp
      exact HK.out _ _ ⟨_, _, _, _, _, _, _, _, _, _, rfl, ⟨(HI.out.bw.new hBw rfl hqt hst hl hw4.out), (by simpa using HI.out.s9), (by simpa using HI.out.s10), (by simpa using HI.out.s11), (fun _ => rfl), (by simpa using HI.out.s13), (by simpa using HI.out.s14), (by simpa using HI.out.s15), (by simpa using HI.out.s16), (fun _ => ⟨b, rn, rfl, hl, hs4.out, fun _ => rfl⟩), (fun h => by have hne := HI.out.ne hA' (by simpa using h); obtain ⟨b', o', e, hl', ht', hx⟩ := HI.out.s8 (by simpa using h); subst e; exact ⟨b', o', rfl, hl', ht'.within hw4.out (by rcases Nat.lt_trichotomy b' b with h1 | h1 | h1; (exact .inl h1); (subst h1; exact absurd rfl hne); (exact .inr h1)), fun h => hx (by simpa using h)⟩), (fun h1 h2 => HI.out.ne (by simpa using h1) (by simpa using h2)), (fun _ => by simp [hA', hB']), (fun h => by have h2 := HI.out.o11 (by simpa using h); simp [h2.1, h2.2])⟩⟩
    · have hA' : D 9 = true := by simp_all
      have hB' : D 7 = true := by simp_all
      obtain ⟨b, o, rfl, hl, ht, _⟩ := HI.out.s8 hA'
      obtain rfl := HI.out.s16 hB'
      unfold oV
      have c0 := ht.c0
      have f0 := ht.f 0
      have c1 := ht.c1
      have f1 := ht.f 1
      have c2 := ht.c2
      have f2 := ht.f 2
      have c3 := ht.c3
      have f3 := ht.f 3
      obtain ⟨hs4, hw4⟩ := ht.set (.bool ry.wins) (.int .i64 (ry.long : Int)) (.int .i64 (ry.short : Int)) (.int .i64 (ry.many : Int))
      have hs4 := Lib.hid hs4
      have hw4 := Lib.hid hw4
      go_simp
      exact HK.out _ _ ⟨_, _, _, _, _, _, _, _, _, _, rfl, ⟨(HI.out.bw.new hBw rfl hqt hst hl hw4.out), (by simpa using HI.out.s9), (by simpa using HI.out.s10), (by simpa using HI.out.s11), (by simpa using HI.out.s12), (by simpa using HI.out.s13), (by simpa using HI.out.s14), (by simpa using HI.out.s15), (fun _ => rfl), (fun h => by have hne := HI.out.ne (by simpa using h) hA'; obtain ⟨b', o', e, hl', ht', hx⟩ := HI.out.s7 (by simpa using h); subst e; exact ⟨b', o', rfl, hl', ht'.within hw4.out (by rcases Nat.lt_trichotomy b' b with h1 | h1 | h1; (exact .inl h1); (subst h1; exact absurd rfl hne); (exact .inr h1)), fun h => hx (by simpa using h)⟩), (fun _ => ⟨b, ry, rfl, hl, hs4.out, fun _ => rfl⟩), (fun h1 h2 => HI.out.ne (by simpa using h1) (by simpa using h2)), (fun h => by have h2 := HI.out.o10 (by simpa using h); simp [h2.1, h2.2]), (fun _ => by simp [hA', hB'])⟩⟩
  case hd =>
    rintro D _ W ⟨v7, v8, v9, v10, v11, v12, v13, v14, v15, v16, rfl, hI⟩ hall
    obtain ⟨b7, o7, rfl, hl7, ht7, h7⟩ := hI.s7 (hall 8 (by decide))
    obtain ⟨b8, o8, rfl, hl8, ht8, h8⟩ := hI.s8 (hall 9 (by decide))
    obtain rfl := h7 (hall 10 (by decide))
    obtain rfl := h8 (hall 11 (by decide))
    obtain rfl := hI.s9 (hall 0 (by decide))
    obtain rfl := hI.s10 (hall 1 (by decide))
    obtain rfl := hI.s11 (hall 2 (by decide))
    obtain rfl := hI.s12 (hall 3 (by decide))
    obtain rfl := hI.s13 (hall 4 (by decide))
    obtain rfl := hI.s14 (hall 5 (by decide))
    obtain rfl := hI.s15 (hall 6 (by decide))
    obtain rfl := hI.s16 (hall 7 (by decide))
    have H7 := Lib.hid ht7
    have H8 := Lib.hid ht8
    have HBW2 := Lib.hid hI.bw
    clear hI hall ht7 ht8 h7 h8 HBW HF0 HF1
    have HO := Lib.hid HBW2.out.ho
    have HM3 := Lib.hid HBW2.out.pm
    have HW := Lib.hid HBW2.out.wi
    clear HBW2
    have hn1 := HN1.out
    have hn2 := HN2.out
    clear HN1 HN2
    obtain ⟨nw, nl, ns, nm⟩ := o7
    obtain ⟨yw, yl, ys, ym⟩ := o8
    simp only at hn1 hn2 H7 H8
    simp only [oAct, oV]
    refine NoPanic.normal ?_
    have x0 := H7.out.c0
    have y0 := H8.out.c0
    have z0 := HO.out.c0
    have zf0 := HO.out.f 0
    have x1 := H7.out.c1
    have y1 := H8.out.c1
    have z1 := HO.out.c1
    have zf1 := HO.out.f 1
    have x2 := H7.out.c2
    have y2 := H8.out.c2
    have z2 := HO.out.c2
    have zf2 := HO.out.f 2
    have x3 := H7.out.c3
    have y3 := H8.out.c3
    have z3 := HO.out.c3
    have zf3 := HO.out.f 3
    have W1 : IntKind.i64.wrap ((nm : Int) + (ym : Int)) = (nm : Int) + (ym : Int) := IntWalk.i64_in _ (by omega)
    have W2 : IntKind.i64.wrap (1 + max (nl : Int) (yl : Int)) = 1 + max (nl : Int) (yl : Int) := IntWalk.i64_in _ (by omega)
    have W3 : IntKind.i64.wrap (1 + min (ns : Int) (ys : Int)) = 1 + min (ns : Int) (ys : Int) := IntWalk.i64_in _ (by omega)
    have HE : Hid (Value.agg #[.bool (!nw && !yw), .int .i64 (1 + max (nl : Int) (yl : Int)), .int .i64 (1 + min (ns : Int) (ys : Int)), .int .i64 ((nm : Int) + (ym : Int))] = oV (bothR ⟨nw, nl, ns, nm⟩ ⟨yw, yl, ys, ym⟩)) := Lib.hid (by simp [oV, bothR] <;> omega)
    have HEq := Lib.hid (HEQ.out _ _ rfl rfl)
    clear hn1 hn2 HEQ
    cases nw
    · go_wp2
      obtain ⟨hs, hw⟩ := HO.out.set (.bool (!yw)) (.int .i64 (1 + max (nl : Int) (yl : Int))) (.int .i64 (1 + min (ns : Int) (ys : Int))) (.int .i64 ((nm : Int) + (ym : Int)))
      have hm := HM3.out.within hw (.inl (by omega))
      have hwf := within_newR HW.out hw (by omega)
      generalize (((W.setCell ⟨w.heap.size + 2, 0, none⟩ (.bool (!yw))).setCell ⟨w.heap.size + 2, 1, none⟩ (.int .i64 (1 + max (nl : Int) (yl : Int)))).setCell ⟨w.heap.size + 2, 2, none⟩ (.int .i64 (1 + min (ns : Int) (ys : Int)))).setCell ⟨w.heap.size + 2, 3, none⟩ (.int .i64 ((nm : Int) + (ym : Int))) = wf at hs hw hm hwf ⊢
      have e0 := hs.c0
      have e1 := hs.c1
      have e2 := hs.c2
      have e3 := hs.c3
      refine bodyPost_ret (v := .agg #[.bool (!yw), .int .i64 (1 + max (nl : Int) (yl : Int)), .int .i64 (1 + min (ns : Int) (ys : Int)), .int .i64 ((nm : Int) + (ym : Int))]) (by simp [results, go_sem, e0, e1, e2, e3]) rfl ?_
      exact ⟨congrArg Ending.returned (HE.out.trans HEq.out), hm, hwf⟩
    · go_wp2
      obtain ⟨hs, hw⟩ := HO.out.set (.bool false) (.int .i64 (1 + max (nl : Int) (yl : Int))) (.int .i64 (1 + min (ns : Int) (ys : Int))) (.int .i64 ((nm : Int) + (ym : Int)))
      have hm := HM3.out.within hw (.inl (by omega))
      have hwf := within_newR HW.out hw (by omega)
      generalize (((W.setCell ⟨w.heap.size + 2, 0, none⟩ (.bool false)).setCell ⟨w.heap.size + 2, 1, none⟩ (.int .i64 (1 + max (nl : Int) (yl : Int)))).setCell ⟨w.heap.size + 2, 2, none⟩ (.int .i64 (1 + min (ns : Int) (ys : Int)))).setCell ⟨w.heap.size + 2, 3, none⟩ (.int .i64 ((nm : Int) + (ym : Int))) = wf at hs hw hm hwf ⊢
      have e0 := hs.c0
      have e1 := hs.c1
      have e2 := hs.c2
      have e3 := hs.c3
      refine bodyPost_ret (v := .agg #[.bool false, .int .i64 (1 + max (nl : Int) (yl : Int)), .int .i64 (1 + min (ns : Int) (ys : Int)), .int .i64 ((nm : Int) + (ym : Int))]) (by simp [results, go_sem, e0, e1, e2, e3]) rfl ?_
      exact ⟨congrArg Ending.returned (HE.out.trans HEq.out), hm, hwf⟩
end Go.Proofs.Ytopgccficjkenaa
