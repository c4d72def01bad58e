/- What is known of a state: outlookAt, by the mass of the state. -/
import Derived.Test.YtopgccficjkenaaL11O
import Derived.Test.YtopgccficjkenaaL11C
namespace Go.Proofs.Ytopgccficjkenaa
open Go.RowKit Go.ChangeShapes Go.WideShapes Go.Maps
set_option linter.unusedVariables false

/-- What stands still while the questions are looked through. -/
structure BY11 (n B : Nat) (Q : Option Addr) (cq lo2 hi2 : Nat) (qs : List Int) (A : Option Addr) (c lo hi : Nat) (zs : List Int) (M : Nat) (C : Option Addr) (lo3 hi3 : Nat) (ch : List Int) (w W : World) : Prop where
  bw : BW11 n B Q cq lo2 hi2 qs A c lo hi zs M w W
  ci : Ins W lo3 hi3 C ch
section
variable {n B : Nat} {Q : Option Addr} {cq lo2 hi2 : Nat} {qs : List Int} {A : Option Addr} {c lo hi : Nat} {zs : List Int} {M : Nat} {C : Option Addr} {lo3 hi3 : Nat} {ch : List Int} {w W W' : World}
theorem BY11.win (h : BY11 n B Q cq lo2 hi2 qs A c lo hi zs M C lo3 hi3 ch w W) (hB : B < n) (h3 : n ≤ lo3) (hd2 : hi2 ≤ B ∨ B < lo2) (hd : hi ≤ B ∨ B < lo) (hw : Within B (B + 1) W W') (pm : OMapM W' B qs) : BY11 n B Q cq lo2 hi2 qs A c lo hi zs M C lo3 hi3 ch w W' :=
  ⟨h.bw.win hB hd2 hd hw pm, h.ci.within hw (.inr (by omega))⟩
theorem BY11.below (h : BY11 n B Q cq lo2 hi2 qs A c lo hi zs M C lo3 hi3 ch w W) (hb : Below W.heap.size W W') : BY11 n B Q cq lo2 hi2 qs A c lo hi zs M C lo3 hi3 ch w W' :=
  ⟨h.bw.below hb, h.ci.step hb⟩
theorem BY11.new {b : Nat} (h : BY11 n B Q cq lo2 hi2 qs A c lo hi zs M C lo3 hi3 ch w W) (hB : B < n) (hn : w.heap.size = n) (h2 : hi2 ≤ n) (h3 : hi ≤ n) (hb : n + 2 < b) (hc : hi3 ≤ b) (hw : Within b (b + 1) W W') : BY11 n B Q cq lo2 hi2 qs A c lo hi zs M C lo3 hi3 ch w W' :=
  ⟨h.bw.new hB hn h2 h3 hb hw, h.ci.within hw (.inl hc)⟩
end
theorem within_putR {w w' : World} {M : Nat} (h : w.grownBy w' (some M)) : Within M (M + 1) w w' := ⟨h.os, h.tape, h.output, h.size, fun i hi hd => h.block i hi (fun e => by injection e with e; omega)⟩

def qAct8 (n B : Nat) (Q : Option Addr) (cq lq : Nat) (A : Option Addr) (c lz M n7 b3 o3 l cc : Nat) (tx : Value) (v10 v34 v35 v36 v37 v38 v39 : Value) : Act :=
  { tmps := #[.agg #[.slice Q lq cq, .map (some B)], .agg #[.slice A lz c, .int .i64 (M : Int)], .pointer (some ⟨n, 0, none⟩), .pointer (some ⟨n + 1, 0, none⟩), .pointer (some ⟨n + 2, 0, none⟩), tx, .bool true, .pointer (some ⟨n7, 0, none⟩), .bool false, .slice (some ⟨b3, o3, none⟩) (l + 1) cc, v10, undef, undef, .tuple #[tx, .bool true], .agg #[.slice A lz c, .int .i64 (M : Int)], .tuple #[tx, .bool true], tx, .bool true, .tuple #[.agg #[.bool false, .int .i64 0, .int .i64 0, .int .i64 0], .bool false], .pointer (some ⟨n, 1, none⟩), .map (some B), tx, .tuple #[.agg #[.bool false, .int .i64 0, .int .i64 0, .int .i64 0], .bool false], .agg #[.bool false, .int .i64 0, .int .i64 0, .int .i64 0], .bool false, .bool false, undef, .agg #[.slice Q lq cq, .map (some B)], .agg #[.slice A lz c, .int .i64 (M : Int)], .slice (some ⟨b3, o3, none⟩) (l + 1) cc, .slice (some ⟨b3, o3, none⟩) (l + 1) cc, .int .i64 ((l + 1 : Nat) : Int), .bool (((l + 1 : Nat) : Int) == 0), undef, v34, v35, v36, v37, v38, v39, undef, undef, undef, undef, undef, undef, undef, undef, undef, undef, undef, undef, undef, undef, undef, undef, undef, undef, undef], defers := [] }
structure QInv8 (n B : Nat) (Q : Option Addr) (cq lo2 hi2 : Nat) (qs : List Int) (A : Option Addr) (c lo hi : Nat) (zs : List Int) (M b3 o3 lo3 hi3 : Nat) (w : World) (l cc : Nat) (q : Int) (r0 : OutR) (D : Nat → Bool) (v10 v34 v35 v36 v37 v38 v39 : Value) (W : World) : Prop where
  bw : BY11 n B Q cq lo2 hi2 qs A c lo hi zs M (some ⟨b3, o3, none⟩) lo3 hi3 (choL qs zs) w W
  s34 : D 0 = true → v34 = .agg #[.slice Q qs.length cq, .map (some B)]
  s35 : D 1 = true → v35 = .agg #[.slice A zs.length c, .int .i64 (M : Int)]
  s36 : D 2 = true → v36 = .slice (some ⟨b3, o3, none⟩) (l + 1) cc
  s37 : D 3 = true → v37 = .pointer (some ⟨b3, o3, none⟩)
  s38 : D 4 = true → v38 = .int .i64 q
  s39 : D 5 = true → v39 = oV r0
  s10 : D 6 = true → ∃ b o, v10 = .pointer (some ⟨b, 0, none⟩) ∧ n + 2 < b ∧ hi3 ≤ b ∧ FourR W b (.bool (OutR.wins o)) (.int .i64 (o.long : Int)) (.int .i64 (o.short : Int)) (.int .i64 (o.many : Int)) 70 ∧ (D 7 = true → o = r0)
  o7 : D 7 = true → D 5 = true ∧ D 6 = true
def qAct12 (n B : Nat) (Q : Option Addr) (cq lq : Nat) (A : Option Addr) (c lz M n7 b3 o3 l cc : Nat) (tx : Value) (b10 k : Nat) (q q0 : Int) (r0 : OutR) (y53 : Value) (v47 v48 v49 v50 v51 v52 : Value) : Act :=
  { tmps := #[.agg #[.slice Q lq cq, .map (some B)], .agg #[.slice A lz c, .int .i64 (M : Int)], .pointer (some ⟨n, 0, none⟩), .pointer (some ⟨n + 1, 0, none⟩), .pointer (some ⟨n + 2, 0, none⟩), tx, .bool true, .pointer (some ⟨n7, 0, none⟩), .bool false, .slice (some ⟨b3, o3, none⟩) (l + 1) cc, .pointer (some ⟨b10, 0, none⟩), undef, .int .i64 q, .tuple #[tx, .bool true], .agg #[.slice A lz c, .int .i64 (M : Int)], .tuple #[tx, .bool true], tx, .bool true, .tuple #[.agg #[.bool false, .int .i64 0, .int .i64 0, .int .i64 0], .bool false], .pointer (some ⟨n, 1, none⟩), .map (some B), tx, .tuple #[.agg #[.bool false, .int .i64 0, .int .i64 0, .int .i64 0], .bool false], .agg #[.bool false, .int .i64 0, .int .i64 0, .int .i64 0], .bool false, .bool false, undef, .agg #[.slice Q lq cq, .map (some B)], .agg #[.slice A lz c, .int .i64 (M : Int)], .slice (some ⟨b3, o3, none⟩) (l + 1) cc, .slice (some ⟨b3, o3, none⟩) (l + 1) cc, .int .i64 ((l + 1 : Nat) : Int), .bool (((l + 1 : Nat) : Int) == 0), undef, .agg #[.slice Q lq cq, .map (some B)], .agg #[.slice A lz c, .int .i64 (M : Int)], .slice (some ⟨b3, o3, none⟩) (l + 1) cc, .pointer (some ⟨b3, o3, none⟩), .int .i64 q0, oV r0, .slice (some ⟨b3, o3, none⟩) (l + 1) cc, .slice (some ⟨b3, o3 + 1, none⟩) l (cc - 1), .int .i64 (l : Int), .int .i64 (k : Int), .bool true, .pointer (some ⟨b3, o3 + 1 + k, none⟩), .int .i64 q, v47, v48, v49, v50, v51, v52, y53, undef, undef, undef, undef, undef], defers := [] }
structure QInv12 (n B : Nat) (Q : Option Addr) (cq lo2 hi2 : Nat) (qs : List Int) (A : Option Addr) (c lo hi : Nat) (zs : List Int) (M b3 o3 lo3 hi3 : Nat) (w : World) (b10 : Nat) (q : Int) (oo rq nw : OutR) (D : Nat → Bool) (v47 v48 v49 v50 v51 v52 : Value) (W : World) : Prop where
  bw : BY11 n B Q cq lo2 hi2 qs A c lo hi zs M (some ⟨b3, o3, none⟩) lo3 hi3 (choL qs zs) w W
  t10o : D 6 = false → FourR W b10 (.bool (OutR.wins oo)) (.int .i64 (oo.long : Int)) (.int .i64 (oo.short : Int)) (.int .i64 (oo.many : Int)) 70
  t10n : D 6 = true → FourR W b10 (.bool (OutR.wins nw)) (.int .i64 (nw.long : Int)) (.int .i64 (nw.short : Int)) (.int .i64 (nw.many : Int)) 70
  s47 : D 0 = true → v47 = oV oo
  s48 : D 1 = true → v48 = .agg #[.slice Q qs.length cq, .map (some B)]
  s49 : D 2 = true → v49 = .agg #[.slice A zs.length c, .int .i64 (M : Int)]
  s50 : D 3 = true → v50 = .int .i64 q
  s51 : D 4 = true → v51 = oV rq
  s52 : D 5 = true → v52 = oV nw
  o6 : D 6 = true → D 0 = true ∧ D 4 = true ∧ D 5 = true
  d5 : D 5 = true → D 0 = true ∧ D 4 = true
/-- What outlookAt answers for states of less mass. -/
def OLess (m : Nat) (qs : List Int) (n : Nat) : Prop := ∀ (M : Nat) (zs : List Int), Short M zs → zs.length = n → massL M zs < m → OutC M qs zs
set_option maxRecDepth 100000 in
set_option maxHeartbeats 16000000 in
theorem outlookAt_step (m : Nat) (qs : List Int) (n : Nat) (HP : OLess m qs n) (hq : ∀ q ∈ qs, qOK n q = true) (hq5 : qs.length ≤ 5) : OLess (m + 1) qs n := by
  intro M zs hs hzn hm Q cq lo2 hi2 A c lo hi w B hM hQ hd2 hS hd
  subst hzn
  have hBw := hM.lt
  have hqt := hQ.top
  have hst := hS.top
  have hl5 := hs.len
  have HR := Lib.hid (Two.new w (.slice Q qs.length cq) (.map (some B)) 81 (w.heap.size) rfl)
  have HB := Lib.hid ((Below.refl w.heap.size w).alloc (Nat.le_refl _) (.cells #[.slice Q qs.length cq, .map (some B)] 81))
  have HT := Lib.hid (Two.new (w.alloc (.cells #[.slice Q qs.length cq, .map (some B)] 81)) (.slice A zs.length c) (.int .i64 (M : Int)) 26 (w.heap.size + 1) (by simp))
  replace HR := Lib.hid (HR.out.step ((Below.refl _ _).alloc (Nat.le_refl _) (.cells #[.slice A zs.length c, .int .i64 (M : Int)] 26)))
  replace HB := Lib.hid (HB.out.alloc HB.out.size (.cells #[.slice A zs.length c, .int .i64 (M : Int)] 26))
  have HO := Lib.hid (FourR.new ((w.alloc (.cells #[.slice Q qs.length cq, .map (some B)] 81)).alloc (.cells #[.slice A zs.length c, .int .i64 (M : Int)] 26)) (.bool false) (.int .i64 0) (.int .i64 0) (.int .i64 0) 70 (w.heap.size + 2) (by simp))
  replace HR := Lib.hid (HR.out.step ((Below.refl _ _).alloc (Nat.le_refl _) (.cells #[.bool false, .int .i64 0, .int .i64 0, .int .i64 0] 70)))
  replace HT := Lib.hid (HT.out.step ((Below.refl _ _).alloc (Nat.le_refl _) (.cells #[.bool false, .int .i64 0, .int .i64 0, .int .i64 0] 70)))
  replace HB := Lib.hid (HB.out.alloc HB.out.size (.cells #[.bool false, .int .i64 0, .int .i64 0, .int .i64 0] 70))
  have HM := Lib.hid (hM.step HB.out)
  have HQ := Lib.hid (hQ.step HB.out)
  have HS := Lib.hid (hS.step HB.out)
  have HX : Hid (∀ (W : World), Ins W lo hi A zs → Calls Try.prog 122 #[.agg #[.slice A zs.length c, .int .i64 (M : Int)]] W fun e w' => e = .returned (.tuple #[.string (txV M zs), .bool true]) ∧ Below W.heap.size W w') := Lib.hid (fun W h => stateText_impl A c lo hi zs (M : Int) W h (by omega) (by have := hs.m; omega) (fun j hj => by have := hs.fit zs[j] (List.getElem_mem hj); have := hs.m; omega) hs.valid)
  have HCH := Lib.hid (fun W h1 h2 => choicesAt_any Q cq lo2 hi2 qs (.map (some B)) A c lo hi zs (M : Int) W h1 h2 (by omega) (.inr ⟨hs.valid, hq⟩))
  have HBY : Hid (∀ q ∈ choL qs zs, ∀ (W : World), OMapM W B qs → Ins W lo2 hi2 Q qs → Ins W lo hi A zs → Calls Try.prog 101 #[.agg #[.slice Q qs.length cq, .map (some B)], .agg #[.slice A zs.length c, .int .i64 (M : Int)], .int .i64 q] W fun e w' => e = .returned (oV (raceB M qs zs q)) ∧ OMapM w' B qs ∧ Within B (B + 1) W w') := Lib.hid (fun q hqm W h1 h2 h3 =>
    outlookBy_any M qs zs q hs (hq q (mem_choL.1 hqm).1) hq5 (fun y => HP M _ (hs.after q y) (afters_len _ _ _ _) (by have := mass_after hs (mem_choL.1 hqm).2 y; omega)) Q cq lo2 hi2 A c lo hi W B h1 h2 hd2 h3 hd)
  have HNM := Lib.hid (fun k h1 h2 => (raceTo_nums hq5 hs (k := k) h1 h2).2.2)
  have HNB := Lib.hid (fun q => (raceB_nums hq5 hs q).2.2)
  have HSH := Lib.hid hs
  have HEQ := Lib.hid (raceL_eq qs hs)
  have HEND := Lib.hid (fun h => race_end (qs := qs) hs h)
  have HL5 : Hid ((choL qs zs).length ≤ 5) := Lib.hid (Nat.le_trans (List.length_filter_le _ _) hq5)
  clear hM hQ hS hs hm HP hq
  go_enter Try.func99, Try.ntmps99
  go_wp2_with fail
  generalize ((w.alloc (.cells #[.slice Q qs.length cq, .map (some B)] 81)).alloc (.cells #[.slice A zs.length c, .int .i64 (M : Int)] 26)).alloc (.cells #[.bool false, .int .i64 0, .int .i64 0, .int .i64 0] 70) = w0 at HR HT HO HB HM HQ HS ⊢
  have t0 := HT.out.c0
  have t1 := HT.out.c1
  go_wp2_with fail
  with_reducible refine (HX.out w0 HS.out).mono ?_
  rintro e w1 ⟨rfl, hb⟩
  replace HR := Lib.hid (HR.out.step hb)
  replace HT := Lib.hid (HT.out.step hb)
  replace HO := Lib.hid (HO.out.step hb)
  replace HM := Lib.hid (HM.out.step hb)
  replace HQ := Lib.hid (HQ.out.step hb)
  replace HS := Lib.hid (HS.out.step hb)
  replace HB := Lib.hid (below_trans HB.out hb)
  clear hb t0 t1 HX
  have x0 := HR.out.c0
  have x1 := HR.out.c1
  obtain ⟨D, hD⟩ := HM.out
  rcases hD.look HSH.out with ⟨hhas, hlk⟩ | ⟨hhas, hlk⟩
  · clear hD hhas HEQ HEND HNM HNB HCH HBY HQ HS HT
    obtain ⟨r, hr⟩ : ∃ r, raceL M qs zs = r := ⟨_, rfl⟩
    have HRE := Lib.hid (congrArg oV hr)
    rw [hr] at hlk
    clear hr
    obtain ⟨rw', rl, rs, rm⟩ := r
    unfold oV at hlk
    have z0 := HO.out.c0
    have zf0 := HO.out.f 0
    have z1 := HO.out.c1
    have zf1 := HO.out.f 1
    have z2 := HO.out.c2
    have zf2 := HO.out.f 2
    have z3 := HO.out.c3
    have zf3 := HO.out.f 3
    have hlo := HO.out.lt
    go_upto_region 4 with (fail)
    have HN := Lib.hid (FourR.new w1 (.bool rw') (.int .i64 (rl : Int)) (.int .i64 (rs : Int)) (.int .i64 (rm : Int)) 70 w1.heap.size rfl)
    have hb := (Below.refl w1.heap.size w1).alloc (Nat.le_refl _) (.cells #[.bool rw', .int .i64 (rl : Int), .int .i64 (rs : Int), .int .i64 (rm : Int)] 70)
    replace HO := Lib.hid (HO.out.step hb)
    replace HM := Lib.hid (HM.out.step hb)
    replace HB := Lib.hid (below_trans HB.out hb)
    clear hb x0 x1 z0 z1 z2 z3 zf0 zf1 zf2 zf3 hlk HR
    generalize w1.alloc (.cells #[.bool rw', .int .i64 (rl : Int), .int .i64 (rs : Int), .int .i64 (rm : Int)] 70) = w2 at HO HM HB HN ⊢
    have z0 := HO.out.c0
    have zf0 := HO.out.f 0
    have y0 := HN.out.c0
    have z1 := HO.out.c1
    have zf1 := HO.out.f 1
    have y1 := HN.out.c1
    have z2 := HO.out.c2
    have zf2 := HO.out.f 2
    have y2 := HN.out.c2
    have z3 := HO.out.c3
    have zf3 := HO.out.f 3
    have y3 := HN.out.c3
    go_wp2
    obtain ⟨hs, hw⟩ := HO.out.set (.bool rw') (.int .i64 (rl : Int)) (.int .i64 (rs : Int)) (.int .i64 (rm : Int))
    have hm := HM.out.within hw (.inl (by omega))
    have hwf := within_newR (lo := B) (hi := B + 1) (Within.of_below HB.out) hw (by omega)
    generalize (((w2.setCell ⟨w.heap.size + 2, 0, none⟩ (.bool rw')).setCell ⟨w.heap.size + 2, 1, none⟩ (.int .i64 (rl : Int))).setCell ⟨w.heap.size + 2, 2, none⟩ (.int .i64 (rs : Int))).setCell ⟨w.heap.size + 2, 3, none⟩ (.int .i64 (rm : Int)) = wf at hs hw hm hwf ⊢
    have e0 := hs.c0
    have e1 := hs.c1
    have e2 := hs.c2
    have e3 := hs.c3
    refine bodyPost_ret (v := .agg #[.bool rw', .int .i64 (rl : Int), .int .i64 (rs : Int), .int .i64 (rm : Int)]) (by simp [results, go_sem, e0, e1, e2, e3]) rfl ?_
    exact ⟨congrArg Ending.returned HRE.out.symm, hm, hwf⟩
  · clear hD hhas
    unfold zeroOV at hlk
    go_upto_region 3 with (fail)
    have hb := (Below.refl w1.heap.size w1).alloc (Nat.le_refl _) (.cells #[.bool false, .int .i64 0, .int .i64 0, .int .i64 0] 70)
    replace HR := Lib.hid (HR.out.step hb)
    replace HT := Lib.hid (HT.out.step hb)
    replace HO := Lib.hid (HO.out.step hb)
    replace HM := Lib.hid (HM.out.step hb)
    replace HQ := Lib.hid (HQ.out.step hb)
    replace HS := Lib.hid (HS.out.step hb)
    have hlo := HO.out.lt
    have hsz0 := HB.out.size
    replace HB := Lib.hid (below_trans HB.out hb)
    clear hb x0 x1 hlk
    generalize w1.heap.size = n7
    generalize w1.alloc (.cells #[.bool false, .int .i64 0, .int .i64 0, .int .i64 0] 70) = w2 at HR HT HO HM HQ HS HB hlo ⊢
    have x0 := HR.out.c0
    have x1 := HR.out.c1
    have t0 := HT.out.c0
    have t1 := HT.out.c1
    go_wp2_with fail
    with_reducible refine (HCH.out w2 HQ.out HS.out).mono ?_
    rintro e w3 ⟨C, cc, rfl, hcap, hr, hb⟩
    have HCI := Lib.hid hr.ins
    have hsz1 := HB.out.size
    have hsz2 := hb.size
    replace HR := Lib.hid (HR.out.step hb)
    replace HT := Lib.hid (HT.out.step hb)
    replace HO := Lib.hid (HO.out.step hb)
    replace HM := Lib.hid (HM.out.step hb)
    replace HQ := Lib.hid (HQ.out.step hb)
    replace HS := Lib.hid (HS.out.step hb)
    replace HB := Lib.hid (below_trans HB.out hb)
    clear hb hr x0 x1 t0 t1 HCH
    by_cases hc0 : choL qs zs = []
    · have HRE := Lib.hid (congrArg oV (HEND.out hc0))
      rw [hc0] at hcap ⊢
      have hl0 : (([] : List Int).length : Int) = 0 := rfl
      clear hc0 HEQ HEND HNM HNB HBY HCI HL5
      have z0 := HO.out.c0
      have zf0 := HO.out.f 0
      have z1 := HO.out.c1
      have zf1 := HO.out.f 1
      have z2 := HO.out.c2
      have zf2 := HO.out.f 2
      have z3 := HO.out.c3
      have zf3 := HO.out.f 3
      go_wp2
      obtain ⟨hs, hw⟩ := HO.out.set (.bool false) (.int .i64 0) (.int .i64 0) (.int .i64 1)
      have hm := HM.out.within hw (.inl (by omega))
      have hwf := within_newR (lo := B) (hi := B + 1) (Within.of_below HB.out) hw (by omega)
      generalize (((w3.setCell ⟨w.heap.size + 2, 0, none⟩ (.bool false)).setCell ⟨w.heap.size + 2, 1, none⟩ (.int .i64 0)).setCell ⟨w.heap.size + 2, 2, none⟩ (.int .i64 0)).setCell ⟨w.heap.size + 2, 3, none⟩ (.int .i64 1) = wf at hs hw hm hwf ⊢
      have e0 := hs.c0
      have e1 := hs.c1
      have e2 := hs.c2
      have e3 := hs.c3
      refine bodyPost_ret (v := .agg #[.bool false, .int .i64 0, .int .i64 0, .int .i64 1]) (by simp [results, go_sem, e0, e1, e2, e3]) rfl ?_
      exact ⟨congrArg Ending.returned HRE.out.symm, hm, hwf⟩
    · have hpos : 0 < (choL qs zs).length := List.length_pos_iff.2 hc0
      have hposI : (0 : Int) < ((choL qs zs).length : Int) := by omega
      have hneI : ¬ ((choL qs zs).length : Int) = 0 := by omega
      have HBYW : Hid (BY11 w.heap.size B Q cq lo2 hi2 qs A c lo hi zs M C w2.heap.size w3.heap.size (choL qs zs) w w3) := Lib.hid ⟨⟨HR.out, HT.out, HO.out, HM.out, HQ.out, HS.out, Within.of_below HB.out⟩, HCI.out⟩
      obtain ⟨b3, o3, hC3, hb3, hb3', hc3⟩ := HCI.out.ints.at_ hpos
      subst hC3
      have hq0 : (choL qs zs)[0] ∈ choL qs zs := List.getElem_mem _
      have HBq := Lib.hid (HBY.out _ hq0)
      clear HR HT HO HM HQ HS HB HCI hc0 hc3 hq0 HEND
      go_upto_region 8 with (fail)
      obtain ⟨l, hl⟩ : ∃ l, (choL qs zs).length = l + 1 := ⟨(choL qs zs).length - 1, by omega⟩
      have HLn := Lib.hid hl
      rw [hl] at hcap ⊢
      have hl4 : l ≤ 4 := by have := HL5.out; omega
      clear hl hposI hneI HL5
      have h3w : w.heap.size ≤ w2.heap.size := by omega
      have hci3 := HBYW.out.ci.top
      generalize w2.heap.size = lo3 at HBYW h3w
      generalize hh3 : w3.heap.size = hi3 at HBYW
      obtain ⟨r0, hr0⟩ : ∃ r, raceB M qs zs (choL qs zs)[0] = r := ⟨_, rfl⟩
      have HR0 : Hid (orTo (raceB M qs zs) (choL qs zs) 1 = r0) := Lib.hid (by rw [← hr0, ← getD_at0 (by rw [HLn.out]; omega)]; rfl)
      rw [hr0] at HBq
      have HCc : Hid (∀ (W : World), Ins W lo3 hi3 (some ⟨b3, o3, none⟩) (choL qs zs) → W.cell? ⟨b3, o3, none⟩ = some (.int .i64 (choL qs zs)[0])) := Lib.hid (fun W h => (CelR.at (k := 0) h (by rw [HLn.out]; omega)).c)
      generalize (choL qs zs)[0] = q0 at HBq HCc hr0
      clear hr0 hh3 hpos
      refine wp_region_noPanic ?_
      refine wp_region_inv5 (by kernel_rfl) (by kernel_rfl) (fun D A' W => ∃ v10 v34 v35 v36 v37 v38 v39, A' = qAct8 w.heap.size B Q cq qs.length A c zs.length M n7 b3 o3 l cc (.string (txV M zs)) v10 v34 v35 v36 v37 v38 v39 ∧ QInv8 w.heap.size B Q cq lo2 hi2 qs A c lo hi zs M b3 o3 lo3 hi3 w l cc q0 r0 D v10 v34 v35 v36 v37 v38 v39 W) ?h0 ?hs ?hd
      case h0 => exact ⟨undef, undef, undef, undef, undef, undef, undef, rfl, ⟨HBYW.out.below (Below.refl _ _).drew, nofun, nofun, nofun, nofun, nofun, nofun, nofun, nofun⟩⟩
      case hs =>
        rintro D _ W ⟨v10, v34, v35, v36, v37, v38, v39, rfl, hI⟩ i o ho hD hA K hK
        have hi' : i < 8 := (Array.getElem?_eq_some_iff.1 ho).1
        have HI := Lib.hid hI
        have HK := Lib.hid hK
        clear hI hK HBYW HBY HNM HNB HEQ HR0
        obtain rfl | rfl | rfl | rfl | rfl | rfl | rfl | rfl : i = 0 ∨ i = 1 ∨ i = 2 ∨ i = 3 ∨ i = 4 ∨ i = 5 ∨ i = 6 ∨ i = 7 := by omega
        all_goals (obtain rfl := Option.some.inj ho; clear ho hi'; simp [Region.binds] at hA; unfold qAct8)
        · have x0 := HI.out.bw.bw.hr.c0
          have x1 := HI.out.bw.bw.hr.c1
          go_simp
          exact HK.out _ _ ⟨_, _, _, _, _, _, _, rfl, ⟨(by simpa using HI.out.bw), (fun _ => rfl), (by simpa using HI.out.s35), (by simpa using HI.out.s36), (by simpa using HI.out.s37), (by simpa using HI.out.s38), (by simpa using HI.out.s39), (by simpa using HI.out.s10), (fun h => by have h2 := HI.out.o7 (by simpa using h); simp [h2.1, h2.2])⟩⟩
        · have x0 := HI.out.bw.bw.ht.c0
          have x1 := HI.out.bw.bw.ht.c1
          go_simp
          exact HK.out _ _ ⟨_, _, _, _, _, _, _, rfl, ⟨(by simpa using HI.out.bw), (by simpa using HI.out.s34), (fun _ => rfl), (by simpa using HI.out.s36), (by simpa using HI.out.s37), (by simpa using HI.out.s38), (by simpa using HI.out.s39), (by simpa using HI.out.s10), (fun h => by have h2 := HI.out.o7 (by simpa using h); simp [h2.1, h2.2])⟩⟩
        · go_simp
          exact HK.out _ _ ⟨_, _, _, _, _, _, _, rfl, ⟨(by simpa using HI.out.bw), (by simpa using HI.out.s34), (by simpa using HI.out.s35), (fun _ => rfl), (by simpa using HI.out.s37), (by simpa using HI.out.s38), (by simpa using HI.out.s39), (by simpa using HI.out.s10), (fun h => by have h2 := HI.out.o7 (by simpa using h); simp [h2.1, h2.2])⟩⟩
        · obtain rfl := HI.out.s36 (by simp_all)
          have hl1 : (0 : Int) < ((l + 1 : Nat) : Int) := by omega
          go_simp
          exact HK.out _ _ ⟨_, _, _, _, _, _, _, rfl, ⟨(by simpa using HI.out.bw), (by simpa using HI.out.s34), (by simpa using HI.out.s35), (fun _ => rfl), (fun _ => rfl), (by simpa using HI.out.s38), (by simpa using HI.out.s39), (by simpa using HI.out.s10), (fun h => by have h2 := HI.out.o7 (by simpa using h); simp [h2.1, h2.2])⟩⟩
        · obtain rfl := HI.out.s37 (by simp_all)
          have hc := HCc.out W HI.out.bw.ci
          go_simp
          exact HK.out _ _ ⟨_, _, _, _, _, _, _, rfl, ⟨(by simpa using HI.out.bw), (by simpa using HI.out.s34), (by simpa using HI.out.s35), (by simpa using HI.out.s36), (fun _ => rfl), (fun _ => rfl), (by simpa using HI.out.s39), (by simpa using HI.out.s10), (fun h => by have h2 := HI.out.o7 (by simpa using h); simp [h2.1, h2.2])⟩⟩
        · obtain rfl := HI.out.s34 (by simp_all)
          obtain rfl := HI.out.s35 (by simp_all)
          obtain rfl := HI.out.s38 (by simp_all)
          have h7 := notDR (fun h => (HI.out.o7 h).1) hD
          go_simp
          refine (HBq.out W HI.out.bw.bw.pm HI.out.bw.bw.qi HI.out.bw.bw.si).mono ?_
          rintro e W' ⟨rfl, hpm', hw'⟩
          exact HK.out _ _ ⟨_, _, _, _, _, _, _, rfl, ⟨(HI.out.bw.win hBw h3w hd2 hd hw' hpm'), (fun _ => rfl), (fun _ => rfl), (by simpa using HI.out.s36), (by simpa using HI.out.s37), (fun _ => rfl), (fun _ => rfl), (fun h => by obtain ⟨b, o, e, hb1, hb2, ht, hx⟩ := HI.out.s10 (by simpa using h); exact ⟨b, o, e, hb1, hb2, ht.within hw' (.inr (by omega)), fun h => hx (by simpa using h)⟩), (fun h => by have h2 := HI.out.o7 (by simpa using h); simp [h2.1, h2.2])⟩⟩
        · have h7 := notDR (fun h => (HI.out.o7 h).2) hD
          have hb : Below W.heap.size W (W.alloc (.cells #[.bool false, .int .i64 0, .int .i64 0, .int .i64 0] 70)) := (Below.refl _ _).alloc (Nat.le_refl _) _
          have hlt := HI.out.bw.bw.ho.lt
          have htp := HI.out.bw.ci.top
          go_simp
          exact HK.out _ _ ⟨_, _, _, _, _, _, _, rfl, ⟨(HI.out.bw.below hb), (by simpa using HI.out.s34), (by simpa using HI.out.s35), (by simpa using HI.out.s36), (by simpa using HI.out.s37), (by simpa using HI.out.s38), (by simpa using HI.out.s39), (fun _ => ⟨W.heap.size, ⟨false, 0, 0, 0⟩, rfl, hlt, htp, FourR.new W _ _ _ _ _ _ rfl, fun h => by simp [h7] at h⟩), (fun h => by have h2 := HI.out.o7 (by simpa using h); simp [h2.1, h2.2])⟩⟩
        · have hA' : D 6 = true := by simp_all
          have hB' : D 5 = true := by simp_all
          obtain ⟨b, o, rfl, hb1, hb2, ht, _⟩ := HI.out.s10 hA'
          obtain rfl := HI.out.s39 hB'
          unfold oV
          have c0 := ht.c0
          have f0 := ht.f 0
          have c1 := ht.c1
          have f1 := ht.f 1
          have c2 := ht.c2
          have f2 := ht.f 2
          have c3 := ht.c3
          have f3 := ht.f 3
          obtain ⟨hs4, hw4⟩ := ht.set (.bool r0.wins) (.int .i64 (r0.long : Int)) (.int .i64 (r0.short : Int)) (.int .i64 (r0.many : Int))
          have hs4 := Lib.hid hs4
          have hw4 := Lib.hid hw4
          go_simp
          exact HK.out _ _ ⟨_, _, _, _, _, _, _, rfl, ⟨(HI.out.bw.new hBw rfl hqt hst hb1 hb2 hw4.out), (by simpa using HI.out.s34), (by simpa using HI.out.s35), (by simpa using HI.out.s36), (by simpa using HI.out.s37), (by simpa using HI.out.s38), (fun _ => rfl), (fun _ => ⟨b, r0, rfl, hb1, hb2, hs4.out, fun _ => rfl⟩), (fun _ => by simp [hA', hB'])⟩⟩
      case hd =>
        rintro D _ W ⟨v10, v34, v35, v36, v37, v38, v39, rfl, hI⟩ hall
        obtain ⟨b10, o10, rfl, hb1, hb2, ht, h7⟩ := hI.s10 (hall 6 (by decide))
        obtain rfl := h7 (hall 7 (by decide))
        obtain rfl := hI.s34 (hall 0 (by decide))
        obtain rfl := hI.s35 (hall 1 (by decide))
        obtain rfl := hI.s36 (hall 2 (by decide))
        obtain rfl := hI.s37 (hall 3 (by decide))
        obtain rfl := hI.s38 (hall 4 (by decide))
        obtain rfl := hI.s39 (hall 5 (by decide))
        have H10 := Lib.hid ht
        replace HBYW := Lib.hid hI.bw
        clear hI hall ht h7 HBq HCc hci3
        simp only [qAct8]
        refine NoPanic.normal ?_
        have hl1 : (1 : Int) ≤ ((l + 1 : Nat) : Int) := by omega
        have hlcc : l + 1 ≤ cc := hcap
        rw [← HR0.out] at H10
        clear HR0
        by_cases hcc1 : cc = 1
        · go_wp2_with fail
          go_loopw [43] (fun i wr => ∃ (k : Nat), k ≤ l ∧ i = .int .i64 (k : Int) ∧ Hid (FourR wr b10 (.bool (OutR.wins (orTo (raceB M qs zs) (choL qs zs) (k + 1)))) (.int .i64 ((orTo (raceB M qs zs) (choL qs zs) (k + 1)).long : Int)) (.int .i64 ((orTo (raceB M qs zs) (choL qs zs) (k + 1)).short : Int)) (.int .i64 ((orTo (raceB M qs zs) (choL qs zs) (k + 1)).many : Int)) 70) ∧ Hid (BY11 w.heap.size B Q cq lo2 hi2 qs A c lo hi zs M (some ⟨b3, o3, none⟩) lo3 hi3 (choL qs zs) w wr)) (fun i _ => l - (intOf i).toNat)
          case atStart => exact ⟨0, Nat.zero_le _, rfl, H10, HBYW⟩
          case round =>
            clear H10 HBYW
            obtain ⟨k, hk, rfl, H10, HBYW⟩ := hrel
            rename World => w4
            by_cases hlt : k < l
            · exact absurd hlt (by omega)
            · obtain rfl : k = l := by omega
              have hltI : ¬ (k : Int) < (k : Int) := by omega
              have HRL : Hid (orTo (raceB M qs zs) (choL qs zs) (k + 1) = raceL M qs zs) := Lib.hid (by rw [HEQ.out, HLn.out])
              obtain ⟨r, hr⟩ : ∃ r, raceL M qs zs = r := ⟨_, rfl⟩
              have HRr := Lib.hid hr
              rw [HRL.out, hr] at H10
              clear hr HRL HBY HNM HNB HEQ
              obtain ⟨D', hD'⟩ := HBYW.out.bw.pm
              have HD' := Lib.hid hD'
              have hsz : Maps.size D' < maxLen := by
                have h1 := hD'.size
                have h2 := cntS_le D'
                unfold maxLen
                omega
              have hown := hD'.owns
              have hkey := keyTxt (M := M) (zs := zs) (by omega)
              have x0 := HBYW.out.bw.hr.c0
              have x1 := HBYW.out.bw.hr.c1
              have hlo := HBYW.out.bw.ho.lt
              have hlt10 := H10.out.lt
              have m0 := H10.out.c0
              have m1 := H10.out.c1
              have m2 := H10.out.c2
              have m3 := H10.out.c3
              clear hD'
              go_wp2_with (first
                | (at_mapUpdate; refine wpList_mapUpdate_own _ rfl _ _ _ 79 rfl 9 70 keyedText Try.underlying79 heldP B (Maps.size D') D' rfl hown hsz _ _ (klS M zs) rfl rfl hkey (.held (oV r)) [] rfl ?_; intro w9 hown9 hg9; have HP9 := Lib.hid (HD'.out.put HSH.out (by rw [HRr.out]; exact hown9)); have HW9 := Lib.hid (within_putR hg9); have HO9 := Lib.hid (HBYW.out.bw.ho.within HW9.out (.inr (by omega))); have H19 := Lib.hid (H10.out.within HW9.out (.inr (by omega))); clear hown9 hg9 hown m0 m1 m2 m3; have m0 := H19.out.c0; have z0 := HO9.out.c0; have zf0 := HO9.out.f 0; have m1 := H19.out.c1; have z1 := HO9.out.c1; have zf1 := HO9.out.f 1; have m2 := H19.out.c2; have z2 := HO9.out.c2; have zf2 := HO9.out.f 2; have m3 := H19.out.c3; have z3 := HO9.out.c3; have zf3 := HO9.out.f 3))
              have HO := HO9
              have HWX := Lib.hid (HBYW.out.bw.wi.trans HW9.out)
              obtain ⟨hs, hw⟩ := HO.out.set (.bool r.wins) (.int .i64 (r.long : Int)) (.int .i64 (r.short : Int)) (.int .i64 (r.many : Int))
              have hm := HP9.out.within hw (.inl (by omega))
              have hwf := within_newR (lo := B) (hi := B + 1) HWX.out hw (by omega)
              generalize (((w9.setCell ⟨w.heap.size + 2, 0, none⟩ (.bool r.wins)).setCell ⟨w.heap.size + 2, 1, none⟩ (.int .i64 (r.long : Int))).setCell ⟨w.heap.size + 2, 2, none⟩ (.int .i64 (r.short : Int))).setCell ⟨w.heap.size + 2, 3, none⟩ (.int .i64 (r.many : Int)) = wf at hs hw hm hwf ⊢
              have e0 := hs.c0
              have e1 := hs.c1
              have e2 := hs.c2
              have e3 := hs.c3
              refine bodyPost_ret (v := .agg #[.bool r.wins, .int .i64 (r.long : Int), .int .i64 (r.short : Int), .int .i64 (r.many : Int)]) (by simp [results, go_sem, e0, e1, e2, e3]) rfl ?_
              exact ⟨congrArg (fun x => Ending.returned (oV x)) HRr.out.symm, hm, hwf⟩
        · go_wp2_with fail
          go_loopw [43] (fun i wr => ∃ (k : Nat), k ≤ l ∧ i = .int .i64 (k : Int) ∧ Hid (FourR wr b10 (.bool (OutR.wins (orTo (raceB M qs zs) (choL qs zs) (k + 1)))) (.int .i64 ((orTo (raceB M qs zs) (choL qs zs) (k + 1)).long : Int)) (.int .i64 ((orTo (raceB M qs zs) (choL qs zs) (k + 1)).short : Int)) (.int .i64 ((orTo (raceB M qs zs) (choL qs zs) (k + 1)).many : Int)) 70) ∧ Hid (BY11 w.heap.size B Q cq lo2 hi2 qs A c lo hi zs M (some ⟨b3, o3, none⟩) lo3 hi3 (choL qs zs) w wr)) (fun i _ => l - (intOf i).toNat)
          case atStart => exact ⟨0, Nat.zero_le _, rfl, H10, HBYW⟩
          case round =>
            clear H10 HBYW
            obtain ⟨k, hk, rfl, H10, HBYW⟩ := hrel
            rename World => w4
            by_cases hlt : k < l
            · have hltI : (k : Int) < (l : Int) := by omega
              have hk1 : k + 1 < (choL qs zs).length := by rw [HLn.out]; omega
              have hcx : w4.cell? ⟨b3, o3 + 1 + k, none⟩ = some (.int .i64 (choL qs zs)[k + 1]) := by have := (CelR.at HBYW.out.ci hk1).c; rwa [show o3 + (k + 1) = o3 + 1 + k by omega] at this
              have HBq := Lib.hid (HBY.out _ (List.getElem_mem hk1))
              have HON : Hid (orTo (raceB M qs zs) (choL qs zs) (k + 1 + 1) = (orTo (raceB M qs zs) (choL qs zs) (k + 1)).or (raceB M qs zs (choL qs zs)[k + 1])) := Lib.hid (by rw [orTo, getD_at0 hk1])
              have hn1 := HNM.out (k + 1) (by omega) (Nat.le_of_lt hk1)
              have hn2 := HNB.out (choL qs zs)[k + 1]
              generalize (choL qs zs)[k + 1] = q at hcx HBq HON hn2
              generalize raceB M qs zs q = rq at HBq HON hn2
              generalize hon : orTo (raceB M qs zs) (choL qs zs) (k + 1 + 1) = nw at HON
              have HOn := Lib.hid hon
              clear hon
              generalize orTo (raceB M qs zs) (choL qs zs) (k + 1) = oo at H10 HON hn1
              have HORr := Lib.hid (fun W => orOut_any oo rq W hn1 (by omega))
              rw [← HON.out] at HORr
              clear HON hn1 hn2
              go_upto_region 12 with (fail)
              refine wp_region_noPanic ?_
              refine wp_region_inv5 (by kernel_rfl) (by kernel_rfl) (fun D A' W => ∃ v47 v48 v49 v50 v51 v52, A' = qAct12 w.heap.size B Q cq qs.length A c zs.length M n7 b3 o3 l cc (.string (txV M zs)) b10 k q q0 o10 u53 v47 v48 v49 v50 v51 v52 ∧ QInv12 w.heap.size B Q cq lo2 hi2 qs A c lo hi zs M b3 o3 lo3 hi3 w b10 q oo rq nw D v47 v48 v49 v50 v51 v52 W) ?h0 ?hs ?hd
              case h0 => exact ⟨u47, u48, u49, u50, u51, u52, rfl, ⟨HBYW.out.below (Below.refl _ _).drew, fun _ => H10.out.step (Below.refl _ _).drew, nofun, nofun, nofun, nofun, nofun, nofun, nofun, nofun, nofun⟩⟩
              case hs =>
                rintro D _ W ⟨v47, v48, v49, v50, v51, v52, rfl, hI⟩ i o ho hD hA K hK
                have hi' : i < 7 := (Array.getElem?_eq_some_iff.1 ho).1
                have HI := Lib.hid hI
                have HK := Lib.hid hK
                clear hI hK HBYW HBY HNM HNB HEQ H10 HOn
                obtain rfl | rfl | rfl | rfl | rfl | rfl | rfl : i = 0 ∨ i = 1 ∨ i = 2 ∨ i = 3 ∨ i = 4 ∨ i = 5 ∨ i = 6 := by omega
                all_goals (obtain rfl := Option.some.inj ho; clear ho hi'; simp [Region.binds] at hA; unfold qAct12)
                · have h6 := notDR (fun h => (HI.out.o6 h).1) hD
                  have ht := HI.out.t10o h6
                  have c0 := ht.c0
                  have c1 := ht.c1
                  have c2 := ht.c2
                  have c3 := ht.c3
                  clear ht
                  go_simp
                  exact HK.out _ _ ⟨_, _, _, _, _, _, rfl, ⟨(by simpa using HI.out.bw), (by simpa using HI.out.t10o), (by simpa using HI.out.t10n), (fun _ => rfl), (by simpa using HI.out.s48), (by simpa using HI.out.s49), (by simpa using HI.out.s50), (by simpa using HI.out.s51), (by simpa using HI.out.s52), (fun h => by have h2 := HI.out.o6 (by simpa using h); simp [h2.1, h2.2.1, h2.2.2]), (fun h => by have h2 := HI.out.d5 (by simpa using h); simp [h2.1, h2.2])⟩⟩
                · have x0 := HI.out.bw.bw.hr.c0
                  have x1 := HI.out.bw.bw.hr.c1
                  go_simp
                  exact HK.out _ _ ⟨_, _, _, _, _, _, rfl, ⟨(by simpa using HI.out.bw), (by simpa using HI.out.t10o), (by simpa using HI.out.t10n), (by simpa using HI.out.s47), (fun _ => rfl), (by simpa using HI.out.s49), (by simpa using HI.out.s50), (by simpa using HI.out.s51), (by simpa using HI.out.s52), (fun h => by have h2 := HI.out.o6 (by simpa using h); simp [h2.1, h2.2.1, h2.2.2]), (fun h => by have h2 := HI.out.d5 (by simpa using h); simp [h2.1, h2.2])⟩⟩
                · have x0 := HI.out.bw.bw.ht.c0
                  have x1 := HI.out.bw.bw.ht.c1
                  go_simp
                  exact HK.out _ _ ⟨_, _, _, _, _, _, rfl, ⟨(by simpa using HI.out.bw), (by simpa using HI.out.t10o), (by simpa using HI.out.t10n), (by simpa using HI.out.s47), (by simpa using HI.out.s48), (fun _ => rfl), (by simpa using HI.out.s50), (by simpa using HI.out.s51), (by simpa using HI.out.s52), (fun h => by have h2 := HI.out.o6 (by simpa using h); simp [h2.1, h2.2.1, h2.2.2]), (fun h => by have h2 := HI.out.d5 (by simpa using h); simp [h2.1, h2.2])⟩⟩
                · go_simp
                  exact HK.out _ _ ⟨_, _, _, _, _, _, rfl, ⟨(by simpa using HI.out.bw), (by simpa using HI.out.t10o), (by simpa using HI.out.t10n), (by simpa using HI.out.s47), (by simpa using HI.out.s48), (by simpa using HI.out.s49), (fun _ => rfl), (by simpa using HI.out.s51), (by simpa using HI.out.s52), (fun h => by have h2 := HI.out.o6 (by simpa using h); simp [h2.1, h2.2.1, h2.2.2]), (fun h => by have h2 := HI.out.d5 (by simpa using h); simp [h2.1, h2.2])⟩⟩
                · obtain rfl := HI.out.s48 (by simp_all)
                  obtain rfl := HI.out.s49 (by simp_all)
                  obtain rfl := HI.out.s50 (by simp_all)
                  have h6 := notDR (fun h => (HI.out.o6 h).2.1) hD
                  go_simp
                  refine (HBq.out W HI.out.bw.bw.pm HI.out.bw.bw.qi HI.out.bw.bw.si).mono ?_
                  rintro e W' ⟨rfl, hpm', hw'⟩
                  exact HK.out _ _ ⟨_, _, _, _, _, _, rfl, ⟨(HI.out.bw.win hBw h3w hd2 hd hw' hpm'), (fun h => (HI.out.t10o h6).within hw' (.inr (by omega))), (fun h => by simp [h6] at h), (by simpa using HI.out.s47), (fun _ => rfl), (fun _ => rfl), (fun _ => rfl), (fun _ => rfl), (by simpa using HI.out.s52), (fun h => by have h2 := HI.out.o6 (by simpa using h); simp [h2.1, h2.2.1, h2.2.2]), (fun h => by have h2 := HI.out.d5 (by simpa using h); simp [h2.1, h2.2])⟩⟩
                · obtain rfl := HI.out.s47 (by simp_all)
                  obtain rfl := HI.out.s51 (by simp_all)
                  have h6 := notDR (fun h => (HI.out.o6 h).2.2) hD
                  go_simp
                  refine (HORr.out W).mono ?_
                  rintro e W' ⟨rfl, hb'⟩
                  exact HK.out _ _ ⟨_, _, _, _, _, _, rfl, ⟨(HI.out.bw.below hb'), (fun h => (HI.out.t10o h6).step hb'), (fun h => by simp [h6] at h), (fun _ => rfl), (by simpa using HI.out.s48), (by simpa using HI.out.s49), (by simpa using HI.out.s50), (fun _ => rfl), (fun _ => rfl), (fun h => by have h2 := HI.out.o6 (by simpa using h); simp [h2.1, h2.2.1, h2.2.2]), (fun _ => by have h1 : D 0 = true := (by simp_all); have h2 : D 4 = true := (by simp_all); simp [h1, h2])⟩⟩
                · obtain rfl := HI.out.s52 (by simp_all)
                  have ht := HI.out.t10o hD
                  unfold oV
                  have c0 := ht.c0
                  have f0 := ht.f 0
                  have c1 := ht.c1
                  have f1 := ht.f 1
                  have c2 := ht.c2
                  have f2 := ht.f 2
                  have c3 := ht.c3
                  have f3 := ht.f 3
                  obtain ⟨hs4, hw4⟩ := ht.set (.bool nw.wins) (.int .i64 (nw.long : Int)) (.int .i64 (nw.short : Int)) (.int .i64 (nw.many : Int))
                  have hs4 := Lib.hid hs4
                  have hw4 := Lib.hid hw4
                  clear ht
                  have h5 : D 5 = true := by simp_all
                  have h0 : D 0 = true ∧ D 4 = true := HI.out.d5 h5
                  go_simp
                  exact HK.out _ _ ⟨_, _, _, _, _, _, rfl, ⟨(HI.out.bw.new hBw rfl hqt hst hb1 hb2 hw4.out), (fun h => by simp at h), (fun _ => hs4.out), (by simpa using HI.out.s47), (by simpa using HI.out.s48), (by simpa using HI.out.s49), (by simpa using HI.out.s50), (by simpa using HI.out.s51), (fun _ => rfl), (fun _ => by simp [h0.1, h0.2, h5]), (fun h => by have h2 := HI.out.d5 (by simpa using h); simp [h2.1, h2.2])⟩⟩
              case hd =>
                rintro D _ W ⟨v47, v48, v49, v50, v51, v52, rfl, hI⟩ hall
                obtain rfl := hI.s47 (hall 0 (by decide))
                obtain rfl := hI.s48 (hall 1 (by decide))
                obtain rfl := hI.s49 (hall 2 (by decide))
                obtain rfl := hI.s50 (hall 3 (by decide))
                obtain rfl := hI.s51 (hall 4 (by decide))
                obtain rfl := hI.s52 (hall 5 (by decide))
                have H11 := Lib.hid (hI.t10n (hall 6 (by decide)))
                have HBYX := Lib.hid hI.bw
                clear hI hall HBq HORr H10 HBYW
                simp only [qAct12]
                refine NoPanic.normal ?_
                clear HBY HNM HNB HEQ
                go_wp2
                go_roundw
                case rel => exact ⟨k + 1, by omega, by go_num, by rw [HOn.out]; exact H11, HBYX⟩
                case measure => simp [intOf]; omega
            · obtain rfl : k = l := by omega
              have hltI : ¬ (k : Int) < (k : Int) := by omega
              have HRL : Hid (orTo (raceB M qs zs) (choL qs zs) (k + 1) = raceL M qs zs) := Lib.hid (by rw [HEQ.out, HLn.out])
              obtain ⟨r, hr⟩ : ∃ r, raceL M qs zs = r := ⟨_, rfl⟩
              have HRr := Lib.hid hr
              rw [HRL.out, hr] at H10
              clear hr HRL HBY HNM HNB HEQ
              obtain ⟨D', hD'⟩ := HBYW.out.bw.pm
              have HD' := Lib.hid hD'
              have hsz : Maps.size D' < maxLen := by
                have h1 := hD'.size
                have h2 := cntS_le D'
                unfold maxLen
                omega
              have hown := hD'.owns
              have hkey := keyTxt (M := M) (zs := zs) (by omega)
              have x0 := HBYW.out.bw.hr.c0
              have x1 := HBYW.out.bw.hr.c1
              have hlo := HBYW.out.bw.ho.lt
              have hlt10 := H10.out.lt
              have m0 := H10.out.c0
              have m1 := H10.out.c1
              have m2 := H10.out.c2
              have m3 := H10.out.c3
              clear hD'
              go_wp2_with (first
                | (at_mapUpdate; refine wpList_mapUpdate_own _ rfl _ _ _ 79 rfl 9 70 keyedText Try.underlying79 heldP B (Maps.size D') D' rfl hown hsz _ _ (klS M zs) rfl rfl hkey (.held (oV r)) [] rfl ?_; intro w9 hown9 hg9; have HP9 := Lib.hid (HD'.out.put HSH.out (by rw [HRr.out]; exact hown9)); have HW9 := Lib.hid (within_putR hg9); have HO9 := Lib.hid (HBYW.out.bw.ho.within HW9.out (.inr (by omega))); have H19 := Lib.hid (H10.out.within HW9.out (.inr (by omega))); clear hown9 hg9 hown m0 m1 m2 m3; have m0 := H19.out.c0; have z0 := HO9.out.c0; have zf0 := HO9.out.f 0; have m1 := H19.out.c1; have z1 := HO9.out.c1; have zf1 := HO9.out.f 1; have m2 := H19.out.c2; have z2 := HO9.out.c2; have zf2 := HO9.out.f 2; have m3 := H19.out.c3; have z3 := HO9.out.c3; have zf3 := HO9.out.f 3))
              have HO := HO9
              have HWX := Lib.hid (HBYW.out.bw.wi.trans HW9.out)
              obtain ⟨hs, hw⟩ := HO.out.set (.bool r.wins) (.int .i64 (r.long : Int)) (.int .i64 (r.short : Int)) (.int .i64 (r.many : Int))
              have hm := HP9.out.within hw (.inl (by omega))
              have hwf := within_newR (lo := B) (hi := B + 1) HWX.out hw (by omega)
              generalize (((w9.setCell ⟨w.heap.size + 2, 0, none⟩ (.bool r.wins)).setCell ⟨w.heap.size + 2, 1, none⟩ (.int .i64 (r.long : Int))).setCell ⟨w.heap.size + 2, 2, none⟩ (.int .i64 (r.short : Int))).setCell ⟨w.heap.size + 2, 3, none⟩ (.int .i64 (r.many : Int)) = wf at hs hw hm hwf ⊢
              have e0 := hs.c0
              have e1 := hs.c1
              have e2 := hs.c2
              have e3 := hs.c3
              refine bodyPost_ret (v := .agg #[.bool r.wins, .int .i64 (r.long : Int), .int .i64 (r.short : Int), .int .i64 (r.many : Int)]) (by simp [results, go_sem, e0, e1, e2, e3]) rfl ?_
              exact ⟨congrArg (fun x => Ending.returned (oV x)) HRr.out.symm, hm, hwf⟩
theorem outlookAt_less (qs : List Int) (n : Nat) (hq : ∀ q ∈ qs, qOK n q = true) (hq5 : qs.length ≤ 5) : ∀ m, OLess m qs n
  | 0 => fun M zs hs hn h => absurd h (by omega)
  | m + 1 => outlookAt_step m qs n (outlookAt_less qs n hq hq5 m) hq hq5
theorem outlookAt_any (M : Nat) (qs zs : List Int) (hs : Short M zs) (hq : ∀ q ∈ qs, qOK zs.length q = true) (hq5 : qs.length ≤ 5) : OutC M qs zs :=
  outlookAt_less qs zs.length hq hq5 (massL M zs + 1) M zs hs rfl (Nat.lt_succ_self _)
end Go.Proofs.Ytopgccficjkenaa
