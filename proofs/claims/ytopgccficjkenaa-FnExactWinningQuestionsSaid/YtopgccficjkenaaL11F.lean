/- The specification: what there is to know of a state is found, and kept (l11Fill). -/
import Derived.Test.YtopgccficjkenaaL11S
import Derived.Test.YtopgccficjkenaaL11U
import Derived.Test.YtopgccficjkenaaRegI
import Derived.Test.YtopgccficjkenaaL11O
import Derived.Deep.RegionHeld3
namespace Go.Proofs.Ytopgccficjkenaa
open Go.RowKit Go.ChangeShapes Go.WideShapes Go.Maps
set_option linter.unusedVariables false


/-- What stands still. -/
structure BF11 (n B : Nat) (Q : Option Addr) (lo2 hi2 : Nat) (qs : List Int) (A : Option Addr) (c lo hi : Nat) (zs : List Int) (M : Nat) (C : Option Addr) (lo3 hi3 : Nat) (ch : List Int) (w W : World) : Prop where
  ht : Two W n (.slice A zs.length c) (.int .i64 (M : Int)) 26
  ho : FiveR W (n + 1) (.bool false) (.bool false) (.int .i64 0) (.int .i64 0) (.int .i64 0) 75
  qi : Ins W lo2 hi2 Q qs
  si : Ins W lo hi A zs
  ci : Ins W lo3 hi3 C ch
  wi : Within B (B + 1) w W
section
variable {n B : Nat} {Q : Option Addr} {lo2 hi2 : Nat} {qs : List Int} {A : Option Addr} {c lo hi : Nat} {zs : List Int} {M : Nat} {C : Option Addr} {lo3 hi3 : Nat} {ch : List Int} {w W W' : World}
theorem BF11.win (h : BF11 n B Q lo2 hi2 qs A c lo hi zs M C lo3 hi3 ch w W) (hB : B < n) (h3 : n ≤ lo3) (hd2 : hi2 ≤ B ∨ B < lo2) (hd : hi ≤ B ∨ B < lo) (hw : Within B (B + 1) W W') : BF11 n B Q lo2 hi2 qs A c lo hi zs M C lo3 hi3 ch w W' :=
  ⟨h.ht.within hw (.inr (by omega)), h.ho.within hw (.inr (by omega)), h.qi.within hw (by omega), h.si.within hw (by omega), h.ci.within hw (.inr (by omega)), h.wi.trans hw⟩
theorem BF11.below (h : BF11 n B Q lo2 hi2 qs A c lo hi zs M C lo3 hi3 ch w W) (hb : Below W.heap.size W W') : BF11 n B Q lo2 hi2 qs A c lo hi zs M C lo3 hi3 ch w W' :=
  ⟨h.ht.step hb, h.ho.step hb, h.qi.step hb, h.si.step hb, h.ci.step hb, within_belowR h.wi hb⟩
theorem BF11.new {b : Nat} (h : BF11 n B Q lo2 hi2 qs A c lo hi zs M C lo3 hi3 ch w W) (hn : w.heap.size = n) (h2 : hi2 ≤ n) (h3 : hi ≤ n) (hb : n + 1 < b) (hc : hi3 ≤ b) (hw : Within b (b + 1) W W') : BF11 n B Q lo2 hi2 qs A c lo hi zs M C lo3 hi3 ch w W' :=
  ⟨h.ht.within hw (.inl (by omega)), h.ho.within hw (.inl (by omega)), h.qi.within hw (.inl (by omega)), h.si.within hw (.inl (by omega)), h.ci.within hw (.inl hc), within_newR h.wi hw (by omega)⟩
end
def FillC (M n : Nat) (qs zs : List Int) : Prop := ∀ (A : Option Addr) (c lo hi : Nat) (Q : Option Addr) (cq lo2 hi2 ct : Nat) (w : World) (B : Nat) (T : Nat → Bool), FTab w B M n qs T → Ins w lo hi A zs → (hi ≤ B ∨ B < lo) → Ins w lo2 hi2 Q qs → (hi2 ≤ B ∨ B < lo2) →
    Calls Try.prog 100 #[.agg #[.slice A zs.length c, .int .i64 (M : Int)], .slice Q qs.length cq, .slice (some ⟨B, 0, none⟩) ((M + 2) ^ n) ct] w fun e w' => e = .returned (fV (raceL M qs zs)) ∧ (∃ T', FTab w' B M n qs T' ∧ (∀ k, T k = true → T' k = true) ∧ T' (keyS M zs) = true) ∧ Within B (B + 1) w w'
def FLess (m : Nat) (qs : List Int) (n : Nat) : Prop := ∀ (M : Nat) (zs : List Int), Short M zs → zs.length = n → massL M zs < m → FillC M n qs zs
theorem top_bd {M n : Nat} (hM : M ≤ 1) (hn : n ≤ 5) : (M + 2) ^ n ≤ 243 := by
  have : ∀ M, M ≤ 1 → ∀ n, n ≤ 5 → (M + 2) ^ n ≤ 243 := by decide
  exact this M hM n hn
theorem accTo_bd {M : Nat} {qs zs : List Int} (hq : qs.length ≤ 5) (hs : Short M zs) {k : Nat} (hk : k ≤ (choL qs zs).length) : 0 ≤ (accTo (raceB M qs zs) (choL qs zs) k).many ∧ (accTo (raceB M qs zs) (choL qs zs) k).many ≤ 100000000000 := by
  cases k with
  | zero => exact ⟨Int.le_refl _, by show (0 : Int) ≤ _; omega⟩
  | succ k =>
    have := raceTo_nums hq hs (k := k + 1) (by omega) hk
    show 0 ≤ ((orTo (raceB M qs zs) (choL qs zs) (k + 1)).many : Int) ∧ ((orTo (raceB M qs zs) (choL qs zs) (k + 1)).many : Int) ≤ _
    omega

theorem own_two_neR {w : World} {g b : Nat} {L : List Int} {x y : Value} (h : Own w g (g + 1) (some ⟨g, 0, none⟩) L) (t : Two w b x y 26) : g ≠ b := by
  rcases h with ⟨h, _⟩ | ⟨g', cur, e, _, _, hr, _⟩
  · cases h
  · injection e with e
    injection e with e
    subst e
    rintro rfl
    have := hr.symm.trans t.row
    injection this with this
    injection this with _ h
    exact absurd h (by decide)
structure FInv16 (n B b9 gf : Nat) (Q : Option Addr) (lo2 hi2 : Nat) (qs : List Int) (A : Option Addr) (c lo hi : Nat) (zs : List Int) (M top b3 o3 lo3 cc cf k J : Nat) (q : Int) (yv : Bool) (T2 : Nat → Bool) (as0 : Bool) (li shi mi : Int) (w w6 : World) (D : Nat → Bool) (v14 v59 v60 v61 v62 v63 v64 v65 v66 v67 v68 : Value) (W : World) : Prop where
  bw : BF11 n B Q lo2 hi2 qs A c lo hi zs M (some ⟨b3, o3, none⟩) lo3 b9 (choL qs zs) w W
  hf : FTab W B M zs.length qs T2
  h9 : FiveR W b9 (.bool true) (.bool as0) (.int .i64 li) (.int .i64 shi) (.int .i64 mi) 75
  fb : BRes W gf (gf + 1) (some ⟨gf, 0, none⟩) [false, true]
  bl : Below w6.heap.size w6 W
  s59 : D 0 = true → v59 = .agg #[.slice A zs.length c, .int .i64 (M : Int)]
  s60 : D 1 = true → v60 = .slice (some ⟨b3, o3, none⟩) (choL qs zs).length cc
  s61 : D 2 = true → v61 = .int .i64 (k : Int)
  s62 : D 3 = true → v62 = .pointer (some ⟨b3, o3 + k, none⟩)
  s63 : D 4 = true → v63 = .int .i64 q
  s64 : D 5 = true → v64 = .slice (some ⟨gf, 0, none⟩) 2 cf
  s65 : D 6 = true → v65 = .int .i64 (J : Int)
  s66 : D 7 = true → v66 = .pointer (some ⟨gf, J, none⟩)
  s67 : D 8 = true → v67 = .bool yv
  s68 : D 9 = true → ∃ g c', v68 = .agg #[.slice (some ⟨g, 0, none⟩) zs.length c', .int .i64 (M : Int)] ∧ w6.heap.size ≤ g ∧ Own W g (g + 1) (some ⟨g, 0, none⟩) (afters zs (M : Int) q yv)
  s14 : D 10 = true → ∃ b x y, v14 = .pointer (some ⟨b, 0, none⟩) ∧ w6.heap.size ≤ b ∧ Two W b x y 26 ∧ (D 11 = true → v68 = .agg #[x, y])
  o11 : D 11 = true → D 9 = true ∧ D 10 = true
set_option maxRecDepth 100000 in
set_option maxHeartbeats 16000000 in
theorem l11Fill_step (m : Nat) (qs : List Int) (n : Nat) (HP : FLess m qs n) (hq : ∀ q ∈ qs, qOK n q = true) (hq5 : qs.length ≤ 5) : FLess (m + 1) qs n := by
  intro M zs hs hzn hm A c lo hi Q cq lo2 hi2 ct w B T hT hS hd hQ hd2
  subst hzn
  have hBw := hT.lt
  have hqt := hQ.top
  have hst := hS.top
  have hl5 := hs.len
  have htop := top_bd hs.m hs.len
  have hkt := keyTo_lt hs.fit
  have HT := Lib.hid (Two.new w (.slice A zs.length c) (.int .i64 (M : Int)) 26 w.heap.size rfl)
  have HB := Lib.hid ((Below.refl w.heap.size w).alloc (Nat.le_refl _) (.cells #[.slice A zs.length c, .int .i64 (M : Int)] 26))
  have HO := Lib.hid (FiveR.new (w.alloc (.cells #[.slice A zs.length c, .int .i64 (M : Int)] 26)) (.bool false) (.bool false) (.int .i64 0) (.int .i64 0) (.int .i64 0) 75 (w.heap.size + 1) (by simp))
  replace HT := Lib.hid (HT.out.step ((Below.refl _ _).alloc (Nat.le_refl _) (.cells #[.bool false, .bool false, .int .i64 0, .int .i64 0, .int .i64 0] 75)))
  replace HB := Lib.hid (HB.out.alloc HB.out.size (.cells #[.bool false, .bool false, .int .i64 0, .int .i64 0, .int .i64 0] 75))
  have HF := Lib.hid (hT.step HB.out)
  have HQ := Lib.hid (hQ.step HB.out)
  have HS := Lib.hid (hS.step HB.out)
  have HK := Lib.hid (fun W h => l6Key_any A c lo hi zs M W h hs)
  have HCH := Lib.hid (fun W h1 h2 => l11Choices_any A c lo hi zs (M : Int) Q cq lo2 hi2 qs W h1 h2 (by omega) (by omega))
  have HDN := Lib.hid (fun W h => l6Done_any A c lo hi zs (M : Int) W h (by omega))
  have HFR : Hid (∀ q ∈ choL qs zs, ∀ W, Ins W lo hi A zs → Calls Try.prog 82 #[.agg #[.slice A zs.length c, .int .i64 (M : Int)], .int .i64 q] W fun e w' => ∃ B c', e = .returned (.slice B 2 c') ∧ BRes w' W.heap.size w'.heap.size B [false, true] ∧ Below W.heap.size W w') := Lib.hid (fun q hqm W h => (l11Fair_any A c lo hi zs (M : Int) q W h hs.valid).mono (by
    rintro e w' ⟨B, c', h1, _, h2, h3⟩
    rw [fair_both (mem_choL.1 hqm).2] at h1 h2
    exact ⟨B, c', h1, h2, h3⟩))
  have HAF := Lib.hid (fun q y W h => l2After_any A c lo hi zs (M : Int) q y W h hs.valid)
  have HRC : Hid (∀ q ∈ choL qs zs, ∀ y, FillC M zs.length qs (afters zs (M : Int) q y)) := Lib.hid (fun q hqm y => HP M _ (hs.after q y) (afters_len _ _ _ _) (by have := mass_after hs (mem_choL.1 hqm).2 y; omega))
  have HDA := Lib.hid (fun q y g c1 W h => l6Done_any (some ⟨g, 0, none⟩) c1 g (g + 1) (afters zs (M : Int) q y) (M : Int) W h (by rw [afters_len]; omega))
  simp only [afters_len] at HDA
  have HDW : Hid (∀ q y, doneL (afters zs (M : Int) q y) = true → (raceL M qs (afters zs (M : Int) q y)).wins = false) := Lib.hid (fun q y h => by rw [race_end (hs.after q y) (List.filter_eq_nil_iff.2 (fun x _ => by simp [vain_few h x]))]; rfl)
  have HNR := Lib.hid (fun q y => race_nums (qs := qs) hq5 (hs.after q y))
  have HAB := Lib.hid (fun k h => accTo_bd hq5 hs (k := k) h)
  have HSH := Lib.hid hs
  have HEQ := Lib.hid (raceL_eq qs hs)
  have HEND := Lib.hid (fun h => race_end (qs := qs) hs h)
  have HVF : Hid (doneL zs = true → choL qs zs = []) := Lib.hid (fun h => List.filter_eq_nil_iff.2 (fun x _ => by simp [vain_few h x]))
  have HL5 : Hid ((choL qs zs).length ≤ 5) := Lib.hid (Nat.le_trans (List.length_filter_le _ _) hq5)
  clear hT hQ hS hm HP hq hs
  go_enter Try.func100, Try.ntmps100
  go_wp2_with fail
  generalize (w.alloc (.cells #[.slice A zs.length c, .int .i64 (M : Int)] 26)).alloc (.cells #[.bool false, .bool false, .int .i64 0, .int .i64 0, .int .i64 0] 75) = w0 at HT HO HB HF HQ HS ⊢
  obtain ⟨κ, hκ⟩ : ∃ k, k = keyS M zs := ⟨_, rfl⟩
  have HKE := Lib.hid hκ
  rw [← hκ] at HK hkt
  clear hκ
  go_region_held3 (fun w' => w'.cell? ⟨w.heap.size, 0, none⟩ = some (.slice A zs.length c) ∧ w'.cell? ⟨w.heap.size, 1, none⟩ = some (.int .i64 (M : Int)))
    (first | exact ⟨(HT.out.step (Below.refl _ w0).drew).c0, (HT.out.step (Below.refl _ w0).drew).c1⟩ | exact ⟨HT_1.out.c0, HT_1.out.c1⟩ | exact ⟨HT_2.out.c0, HT_2.out.c1⟩)
    (first
     | (go_at_call 71; (with_reducible refine (HCH.out v1 HS_1.out HQ_1.out).mono ?_); rintro e v2 ⟨C, cc, rfl, hcap, hr, hb⟩; have HZ2 := Lib.hid (below_trans HZ1.out hb); have hz2 := HZ1.out.size; have HCI := Lib.hid hr.ins; have HT_2 := Lib.hid (HT.out.step HZ2.out); have HO_2 := Lib.hid (HO.out.step HZ2.out); have HF_2 := Lib.hid (HF.out.step HZ2.out); have HQ_2 := Lib.hid (HQ.out.step HZ2.out); have HS_2 := Lib.hid (HS.out.step HZ2.out); have HB_2 := Lib.hid (below_trans HB.out HZ2.out); clear hb hr)
     | (go_at_call 66; (with_reducible refine (HK.out w0.drew (HS.out.step (Below.refl _ w0).drew)).mono ?_); rintro e v1 ⟨rfl, hb⟩; have HZ1 := Lib.hid (below_trans (Below.refl _ w0).drew hb); have HT_1 := Lib.hid (HT.out.step HZ1.out); have HO_1 := Lib.hid (HO.out.step HZ1.out); have HF_1 := Lib.hid (HF.out.step HZ1.out); have HQ_1 := Lib.hid (HQ.out.step HZ1.out); have HS_1 := Lib.hid (HS.out.step HZ1.out); have HB_1 := Lib.hid (below_trans HB.out HZ1.out); clear hb))
  have hz0 := HO.out.lt
  have hz1 : w0.heap.size ≤ v1.heap.size := HZ1.out.size
  clear HT HO HF HQ HS HB HT_1 HO_1 HF_1 HQ_1 HS_1 HB_1 HZ1 HZ2 HK HCH
  have HBF : Hid (BF11 w.heap.size B Q lo2 hi2 qs A c lo hi zs M C v1.heap.size v2.heap.size (choL qs zs) w v2) := Lib.hid ⟨HT_2.out, HO_2.out, HQ_2.out, HS_2.out, HCI.out, Within.of_below HB_2.out⟩
  have h3w : w.heap.size ≤ v1.heap.size := by omega
  have h5 := HF_2.out.at5 HSH.out rfl
  rw [← HKE.out] at h5
  have hkI : (κ : Int) < (((M + 2) ^ zs.length : Nat) : Int) := by omega
  have HTB := Lib.hid (rfl : (M + 2) ^ zs.length = (M + 2) ^ zs.length)
  clear HTB
  cases hTk : T κ with
  | true =>
    rw [hTk, foR_t] at h5
    have HTK := Lib.hid hTk
    clear hTk
    obtain ⟨r, hr⟩ : ∃ r, raceL M qs zs = r := ⟨_, rfl⟩
    have HRE := Lib.hid (congrArg fV hr)
    rw [hr] at h5
    clear hr
    have g0 := h5.c0
    have g1 := h5.c1
    have g2 := h5.c2
    have g3 := h5.c3
    have g4 := h5.c4
    have hlo := HO_2.out.lt
    have z0 := HO_2.out.c0
    have zf0 := HO_2.out.f 0
    have z1 := HO_2.out.c1
    have zf1 := HO_2.out.f 1
    have z2 := HO_2.out.c2
    have zf2 := HO_2.out.f 2
    have z3 := HO_2.out.c3
    have zf3 := HO_2.out.f 3
    have z4 := HO_2.out.c4
    have zf4 := HO_2.out.f 4
    clear h5 HEQ HEND HVF HL5 HAB HNR HDW HDA HRC HAF HFR HDN
    generalize (M + 2) ^ zs.length = top at hkI
    go_wp2
    obtain ⟨hs, hw⟩ := HO_2.out.set (.bool true) (.bool r.wins) (.int .i64 (r.long : Int)) (.int .i64 (r.short : Int)) (.int .i64 (r.many : Int))
    have hft := HF_2.out.within hw (.inl (by omega))
    have hwf := within_newR (lo := B) (hi := B + 1) (Within.of_below HB_2.out) hw (by omega)
    generalize ((((v2.setCell ⟨w.heap.size + 1, 0, none⟩ (.bool true)).setCell ⟨w.heap.size + 1, 1, none⟩ (.bool r.wins)).setCell ⟨w.heap.size + 1, 2, none⟩ (.int .i64 (r.long : Int))).setCell ⟨w.heap.size + 1, 3, none⟩ (.int .i64 (r.short : Int))).setCell ⟨w.heap.size + 1, 4, none⟩ (.int .i64 (r.many : Int)) = wf at hs hw hft hwf ⊢
    have e0 := hs.c0
    have e1 := hs.c1
    have e2 := hs.c2
    have e3 := hs.c3
    have e4 := hs.c4
    refine bodyPost_ret (v := .agg #[.bool true, .bool r.wins, .int .i64 (r.long : Int), .int .i64 (r.short : Int), .int .i64 (r.many : Int)]) (by simp [results, go_sem, e0, e1, e2, e3, e4]) rfl ?_
    exact ⟨congrArg Ending.returned HRE.out.symm, ⟨T, hft, fun _ h => h, by rw [← HKE.out]; exact HTK.out⟩, hwf⟩
  | false =>
    rw [hTk] at h5
    clear hTk
    have g0 := h5.c0
    clear h5
    obtain ⟨top, htp⟩ : ∃ t, t = (M + 2) ^ zs.length := ⟨_, rfl⟩
    have HTP := Lib.hid htp
    rw [← htp] at hkI htop hkt ⊢
    clear htp
    clear HT_2 HO_2 HQ_2 HS_2 HCI
    go_upto_region 5 with (fail)
    have H9 := Lib.hid (FiveR.new v2 (.bool true) (.bool false) (.int .i64 0) (.int .i64 (-1)) (.int .i64 0) 75 v2.heap.size rfl)
    have hb := (Below.refl v2.heap.size v2).alloc (Nat.le_refl _) (.cells #[.bool true, .bool false, .int .i64 0, .int .i64 (-1), .int .i64 0] 75)
    have hb9 : w.heap.size + 1 < v2.heap.size := HBF.out.ho.lt
    replace HBF := Lib.hid (HBF.out.below hb)
    have HF := Lib.hid (HF_2.out.step hb)
    clear hb HF_2 HB_2 g0
    generalize hb9e : v2.heap.size = b9 at H9 HBF hb9
    generalize v2.alloc (.cells #[.bool true, .bool false, .int .i64 0, .int .i64 (-1), .int .i64 0] 75) = v3 at H9 HBF HF ⊢
    clear hb9e
    have hlo3 : b9 ≤ v3.heap.size := Nat.le_of_lt H9.out.lt
    generalize v1.heap.size = lo3 at HBF h3w
    have t0 := HBF.out.ht.c0
    have t1 := HBF.out.ht.c1
    go_wp2_with fail
    with_reducible refine (HDN.out v3 HBF.out.si).mono ?_
    rintro e v4 ⟨rfl, hb⟩
    replace HBF := Lib.hid (HBF.out.below hb)
    replace HF := Lib.hid (HF.out.step hb)
    replace H9 := Lib.hid (H9.out.step hb)
    clear hb t0 t1 HDN hlo3
    by_cases hc0 : choL qs zs = []
    · have hl0 : ((choL qs zs).length : Int) = 0 := by rw [hc0]; rfl
      have HRE := Lib.hid (HEND.out hc0)
      have HCN : Hid (∀ q ∈ choL qs zs, ∀ y, T (keyS M (afters zs (M : Int) q y)) = true) := Lib.hid (fun q h => by rw [hc0] at h; cases h)
      clear HEQ HEND HVF HL5 HAB HNR HDW HDA HRC HAF HFR hc0
      have n0 := H9.out.c0
      have nf0 := H9.out.f 0
      have n1 := H9.out.c1
      have nf1 := H9.out.f 1
      have n2 := H9.out.c2
      have nf2 := H9.out.f 2
      have n3 := H9.out.c3
      have nf3 := H9.out.f 3
      have n4 := H9.out.c4
      have nf4 := H9.out.f 4
      cases doneL zs
      · go_upto_region 9 with (fail)
        obtain ⟨hs3, hw3⟩ := H9.out.set3 (.int .i64 0)
        obtain ⟨hs4, hw4⟩ := hs3.set4 (.int .i64 1)
        have hw34 := hw3.trans hw4
        have HBF2 := HBF.out.new rfl hqt hst hb9 (Nat.le_refl _) hw34
        have HF2 := HF.out.within hw34 (.inl (by omega))
        clear hs3 hw3 hw4 hw34 n0 n1 n2 n3 n4 nf0 nf1 nf2 nf3 nf4 H9 HBF HF
        generalize (v4.setCell ⟨b9, 3, none⟩ (.int .i64 0)).setCell ⟨b9, 4, none⟩ (.int .i64 1) = v5 at hs4 HBF2 HF2 ⊢
        have hb := (Below.refl v5.heap.size v5).alloc (Nat.le_refl _) (.cells #[] 3)
        have H9 := Lib.hid (hs4.step hb)
        have HBF := Lib.hid (HBF2.below hb)
        have HF := Lib.hid (HF2.step hb)
        clear hb hs4 HBF2 HF2
        generalize v5.alloc (.cells #[] 3) = v6 at H9 HBF HF ⊢
        go_wp2_with fail
        go_loopw [10] (fun i wr => i = .int .i64 0 ∧ wr = v6) (fun _ _ => 0)
        case atStart => exact ⟨rfl, rfl⟩
        case round =>
          obtain ⟨rfl, rfl⟩ := hrel
          rename World => v6
          have HPT : Hid (FTab (((((v6.setCell ⟨B, κ * 5, none⟩ (.bool true)).setCell ⟨B, κ * 5 + 1, none⟩ (.bool false)).setCell ⟨B, κ * 5 + 2, none⟩ (.int .i64 0)).setCell ⟨B, κ * 5 + 3, none⟩ (.int .i64 0)).setCell ⟨B, κ * 5 + 4, none⟩ (.int .i64 1)) B M zs.length qs (fun j => T j || decide (j = κ)) ∧ Within B (B + 1) v6 (((((v6.setCell ⟨B, κ * 5, none⟩ (.bool true)).setCell ⟨B, κ * 5 + 1, none⟩ (.bool false)).setCell ⟨B, κ * 5 + 2, none⟩ (.int .i64 0)).setCell ⟨B, κ * 5 + 3, none⟩ (.int .i64 0)).setCell ⟨B, κ * 5 + 4, none⟩ (.int .i64 1))) := Lib.hid (by have h := HF.out.put HSH.out rfl HCN.out; rw [HRE.out, ← HKE.out] at h; exact h)
          have HFV : Hid (Value.agg #[.bool true, .bool false, .int .i64 0, .int .i64 0, .int .i64 1] = fV (raceL M qs zs)) := Lib.hid (by rw [HRE.out]; rfl)
          have h5 := HF.out.at5 HSH.out rfl
          rw [← HKE.out] at h5
          have g0 := h5.c0
          have gf0 := HF.out.free (κ * 5)
          have n0 := H9.out.c0
          have g1 := h5.c1
          have gf1 := HF.out.free (κ * 5 + 1)
          have n1 := H9.out.c1
          have g2 := h5.c2
          have gf2 := HF.out.free (κ * 5 + 2)
          have n2 := H9.out.c2
          have g3 := h5.c3
          have gf3 := HF.out.free (κ * 5 + 3)
          have n3 := H9.out.c3
          have g4 := h5.c4
          have gf4 := HF.out.free (κ * 5 + 4)
          have n4 := H9.out.c4
          clear h5
          have hlt9 := H9.out.lt
          go_upto_region 25 with (fail)
          have HO5 := Lib.hid (HBF.out.ho.within HPT.out.2 (.inr (by omega)))
          have H95 := Lib.hid (H9.out.within HPT.out.2 (.inr (by omega)))
          have HW5 := Lib.hid (HBF.out.wi.trans HPT.out.2)
          have HFT := Lib.hid HPT.out.1
          clear g0 gf0 n0 g1 gf1 n1 g2 gf2 n2 g3 gf3 n3 g4 gf4 n4 HPT HBF HF H9
          generalize ((((v6.setCell ⟨B, κ * 5, none⟩ (.bool true)).setCell ⟨B, κ * 5 + 1, none⟩ (.bool false)).setCell ⟨B, κ * 5 + 2, none⟩ (.int .i64 0)).setCell ⟨B, κ * 5 + 3, none⟩ (.int .i64 0)).setCell ⟨B, κ * 5 + 4, none⟩ (.int .i64 1) = wg at HO5 H95 HW5 HFT ⊢
          have n0 := H95.out.c0
          have z0 := HO5.out.c0
          have zf0 := HO5.out.f 0
          have n1 := H95.out.c1
          have z1 := HO5.out.c1
          have zf1 := HO5.out.f 1
          have n2 := H95.out.c2
          have z2 := HO5.out.c2
          have zf2 := HO5.out.f 2
          have n3 := H95.out.c3
          have z3 := HO5.out.c3
          have zf3 := HO5.out.f 3
          have n4 := H95.out.c4
          have z4 := HO5.out.c4
          have zf4 := HO5.out.f 4
          go_wp2
          obtain ⟨hs, hw⟩ := HO5.out.set (.bool true) (.bool false) (.int .i64 0) (.int .i64 0) (.int .i64 1)
          have hft := HFT.out.within hw (.inl (by omega))
          have hwf := within_newR (lo := B) (hi := B + 1) HW5.out hw (by omega)
          generalize ((((wg.setCell ⟨w.heap.size + 1, 0, none⟩ (.bool true)).setCell ⟨w.heap.size + 1, 1, none⟩ (.bool false)).setCell ⟨w.heap.size + 1, 2, none⟩ (.int .i64 0)).setCell ⟨w.heap.size + 1, 3, none⟩ (.int .i64 0)).setCell ⟨w.heap.size + 1, 4, none⟩ (.int .i64 1) = wf at hs hw hft hwf ⊢
          have e0 := hs.c0
          have e1 := hs.c1
          have e2 := hs.c2
          have e3 := hs.c3
          have e4 := hs.c4
          refine bodyPost_ret (v := .agg #[.bool true, .bool false, .int .i64 0, .int .i64 0, .int .i64 1]) (by simp [results, go_sem, e0, e1, e2, e3, e4]) rfl ?_
          exact ⟨congrArg Ending.returned HFV.out, ⟨_, hft, fun k h => by simp [h], by rw [← HKE.out]; simp⟩, hwf⟩
      · go_upto_region 9 with (fail)
        obtain ⟨hs3, hw3⟩ := H9.out.set3 (.int .i64 0)
        obtain ⟨hs4, hw4⟩ := hs3.set4 (.int .i64 1)
        have hw34 := hw3.trans hw4
        have HBF2 := HBF.out.new rfl hqt hst hb9 (Nat.le_refl _) hw34
        have HF2 := HF.out.within hw34 (.inl (by omega))
        clear hs3 hw3 hw4 hw34 n0 n1 n2 n3 n4 nf0 nf1 nf2 nf3 nf4 H9 HBF HF
        generalize (v4.setCell ⟨b9, 3, none⟩ (.int .i64 0)).setCell ⟨b9, 4, none⟩ (.int .i64 1) = v5 at hs4 HBF2 HF2 ⊢
        have hb := (Below.refl v5.heap.size v5).alloc (Nat.le_refl _) (.cells #[] 3)
        have H9 := Lib.hid (hs4.step hb)
        have HBF := Lib.hid (HBF2.below hb)
        have HF := Lib.hid (HF2.step hb)
        clear hb hs4 HBF2 HF2
        generalize v5.alloc (.cells #[] 3) = v6 at H9 HBF HF ⊢
        go_wp2_with fail
        go_loopw [10] (fun i wr => i = .int .i64 0 ∧ wr = v6) (fun _ _ => 0)
        case atStart => exact ⟨rfl, rfl⟩
        case round =>
          obtain ⟨rfl, rfl⟩ := hrel
          rename World => v6
          have HPT : Hid (FTab (((((v6.setCell ⟨B, κ * 5, none⟩ (.bool true)).setCell ⟨B, κ * 5 + 1, none⟩ (.bool false)).setCell ⟨B, κ * 5 + 2, none⟩ (.int .i64 0)).setCell ⟨B, κ * 5 + 3, none⟩ (.int .i64 0)).setCell ⟨B, κ * 5 + 4, none⟩ (.int .i64 1)) B M zs.length qs (fun j => T j || decide (j = κ)) ∧ Within B (B + 1) v6 (((((v6.setCell ⟨B, κ * 5, none⟩ (.bool true)).setCell ⟨B, κ * 5 + 1, none⟩ (.bool false)).setCell ⟨B, κ * 5 + 2, none⟩ (.int .i64 0)).setCell ⟨B, κ * 5 + 3, none⟩ (.int .i64 0)).setCell ⟨B, κ * 5 + 4, none⟩ (.int .i64 1))) := Lib.hid (by have h := HF.out.put HSH.out rfl HCN.out; rw [HRE.out, ← HKE.out] at h; exact h)
          have HFV : Hid (Value.agg #[.bool true, .bool false, .int .i64 0, .int .i64 0, .int .i64 1] = fV (raceL M qs zs)) := Lib.hid (by rw [HRE.out]; rfl)
          have h5 := HF.out.at5 HSH.out rfl
          rw [← HKE.out] at h5
          have g0 := h5.c0
          have gf0 := HF.out.free (κ * 5)
          have n0 := H9.out.c0
          have g1 := h5.c1
          have gf1 := HF.out.free (κ * 5 + 1)
          have n1 := H9.out.c1
          have g2 := h5.c2
          have gf2 := HF.out.free (κ * 5 + 2)
          have n2 := H9.out.c2
          have g3 := h5.c3
          have gf3 := HF.out.free (κ * 5 + 3)
          have n3 := H9.out.c3
          have g4 := h5.c4
          have gf4 := HF.out.free (κ * 5 + 4)
          have n4 := H9.out.c4
          clear h5
          have hlt9 := H9.out.lt
          go_upto_region 25 with (fail)
          have HO5 := Lib.hid (HBF.out.ho.within HPT.out.2 (.inr (by omega)))
          have H95 := Lib.hid (H9.out.within HPT.out.2 (.inr (by omega)))
          have HW5 := Lib.hid (HBF.out.wi.trans HPT.out.2)
          have HFT := Lib.hid HPT.out.1
          clear g0 gf0 n0 g1 gf1 n1 g2 gf2 n2 g3 gf3 n3 g4 gf4 n4 HPT HBF HF H9
          generalize ((((v6.setCell ⟨B, κ * 5, none⟩ (.bool true)).setCell ⟨B, κ * 5 + 1, none⟩ (.bool false)).setCell ⟨B, κ * 5 + 2, none⟩ (.int .i64 0)).setCell ⟨B, κ * 5 + 3, none⟩ (.int .i64 0)).setCell ⟨B, κ * 5 + 4, none⟩ (.int .i64 1) = wg at HO5 H95 HW5 HFT ⊢
          have n0 := H95.out.c0
          have z0 := HO5.out.c0
          have zf0 := HO5.out.f 0
          have n1 := H95.out.c1
          have z1 := HO5.out.c1
          have zf1 := HO5.out.f 1
          have n2 := H95.out.c2
          have z2 := HO5.out.c2
          have zf2 := HO5.out.f 2
          have n3 := H95.out.c3
          have z3 := HO5.out.c3
          have zf3 := HO5.out.f 3
          have n4 := H95.out.c4
          have z4 := HO5.out.c4
          have zf4 := HO5.out.f 4
          go_wp2
          obtain ⟨hs, hw⟩ := HO5.out.set (.bool true) (.bool false) (.int .i64 0) (.int .i64 0) (.int .i64 1)
          have hft := HFT.out.within hw (.inl (by omega))
          have hwf := within_newR (lo := B) (hi := B + 1) HW5.out hw (by omega)
          generalize ((((wg.setCell ⟨w.heap.size + 1, 0, none⟩ (.bool true)).setCell ⟨w.heap.size + 1, 1, none⟩ (.bool false)).setCell ⟨w.heap.size + 1, 2, none⟩ (.int .i64 0)).setCell ⟨w.heap.size + 1, 3, none⟩ (.int .i64 0)).setCell ⟨w.heap.size + 1, 4, none⟩ (.int .i64 1) = wf at hs hw hft hwf ⊢
          have e0 := hs.c0
          have e1 := hs.c1
          have e2 := hs.c2
          have e3 := hs.c3
          have e4 := hs.c4
          refine bodyPost_ret (v := .agg #[.bool true, .bool false, .int .i64 0, .int .i64 0, .int .i64 1]) (by simp [results, go_sem, e0, e1, e2, e3, e4]) rfl ?_
          exact ⟨congrArg Ending.returned HFV.out, ⟨_, hft, fun k h => by simp [h], by rw [← HKE.out]; simp⟩, hwf⟩
    · have hdn : doneL zs = false := by
        cases h : doneL zs with
        | false => rfl
        | true => exact absurd (HVF.out h) hc0
      have hneI : ¬ ((choL qs zs).length : Int) = 0 := by have := List.length_pos_iff.2 hc0; omega
      rw [hdn]
      have hbq : (((choL qs zs).length : Int) == 0) = false := by simpa using hneI
      clear hdn HVF HEND
      have hL5 := HL5.out
      clear HL5
      have HCH0 := Lib.hid hc0
      clear hc0
      go_wp2_with fail
      go_loopw [10] (fun i wr => ∃ (k : Nat) (T1 : Nat → Bool), k ≤ (choL qs zs).length ∧ i = .int .i64 (k : Int) ∧ Hid (FTab wr B M zs.length qs T1) ∧ Hid (∀ j, T j = true → T1 j = true) ∧ Hid (∀ (j : Nat) (h : j < (choL qs zs).length), j < k → ∀ y, T1 (keyS M (afters zs (M : Int) (choL qs zs)[j] y)) = true) ∧ Hid (FiveR wr b9 (.bool true) (.bool (accTo (raceB M qs zs) (choL qs zs) k).safe) (.int .i64 (accTo (raceB M qs zs) (choL qs zs) k).long) (.int .i64 (accTo (raceB M qs zs) (choL qs zs) k).short) (.int .i64 (accTo (raceB M qs zs) (choL qs zs) k).many) 75) ∧ Hid (BF11 w.heap.size B Q lo2 hi2 qs A c lo hi zs M C lo3 b9 (choL qs zs) w wr)) (fun i _ => (choL qs zs).length - (intOf i).toNat)
      case atStart => exact ⟨0, T, Nat.zero_le _, rfl, HF, Lib.hid (fun _ h => h), Lib.hid (fun j h hlt => absurd hlt (by omega)), H9, HBF⟩
      case round =>
        clear H9 HBF HF
        obtain ⟨k, T1, hk, rfl, HF, HT1, HPV, H9, HBF⟩ := hrel
        rename World => w5
        by_cases hlt : k < (choL qs zs).length
        · have hltI : (k : Int) < ((choL qs zs).length : Int) := by omega
          obtain ⟨b3, o3, hCe, _, _, hcx⟩ := HBF.out.ci.ints.at_ hlt
          subst hCe
          obtain ⟨q, hqe⟩ : ∃ q, (choL qs zs)[k] = q := ⟨_, rfl⟩
          rw [hqe] at hcx
          have HCX := Lib.hid (CelR.mk hcx)
          have hqm : q ∈ choL qs zs := by rw [← hqe]; exact List.getElem_mem _
          have HFq := Lib.hid (HFR.out q hqm)
          have HRq := Lib.hid (fun y => HRC.out q hqm y)
          have HAq := Lib.hid (fun y W h => HAF.out q y W h)
          have HDq := Lib.hid (fun y g c1 W h => HDA.out q y g c1 W h)
          have HWq := Lib.hid (fun y h => HDW.out q y h)
          have HNq := Lib.hid (fun y => HNR.out q y)
          have HSq := Lib.hid (HSH.out.after q)
          have HST := Lib.hid (acc_step (k := k) (raceL M qs (afters zs (M : Int) q false)) (raceL M qs (afters zs (M : Int) q true)) ((getD_at0 hlt).trans hqe) rfl)
          have hab := HAB.out k hk
          have HQE := Lib.hid hqe
          clear hqe hqm hcx
          generalize (accTo (raceB M qs zs) (choL qs zs) k) = a at H9 HST hab
          obtain ⟨as0, al0, ash0, am0⟩ := a
          simp only at H9 HST hab
          go_wp2_with fail
          go_region_held3 (fun w' => w'.cell? ⟨w.heap.size, 0, none⟩ = some (.slice A zs.length c) ∧ w'.cell? ⟨w.heap.size, 1, none⟩ = some (.int .i64 (M : Int)) ∧ w'.cell? ⟨b3, o3 + k, none⟩ = some (.int .i64 q))
            (first | exact ⟨(HBF.out.below (Below.refl _ w5).drew).ht.c0, (HBF.out.below (Below.refl _ w5).drew).ht.c1, (HCX.out.step (Below.refl _ w5).drew).c⟩ | exact ⟨HBF_1.out.ht.c0, HBF_1.out.ht.c1, HCX_1.out.c⟩)
            ((go_at_call 82; (with_reducible refine (HFq.out w5.drew (HBF.out.below (Below.refl _ w5).drew).si).mono ?_); rintro e v1 ⟨Bf, cf, rfl, hr, hb⟩; have HZ1 := Lib.hid (below_trans (Below.refl _ w5).drew hb); have HFB := Lib.hid hr; have HBF_1 := Lib.hid (HBF.out.below HZ1.out); have HCX_1 := Lib.hid (HCX.out.step HZ1.out); have HF_1 := Lib.hid (HF.out.step HZ1.out); have H9_1 := Lib.hid (H9.out.step HZ1.out); clear hb hr))
          have hfz : b9 < w5.heap.size := H9.out.lt
          clear HBF HCX HF H9 HZ1 HFq HCX_1
          obtain ⟨gf, hgf, hgf1, hgf2, _, _⟩ := HFB.out.own.at_ (k := 0) (by simp)
          subst hgf
          have hgfl : b9 < gf := Nat.lt_of_lt_of_le hfz hgf1
          have HFB2 : Hid (BRes v1 gf (gf + 1) (some ⟨gf, 0, none⟩) [false, true]) := Lib.hid (bres_tight HFB.out)
          clear HFB hgf1 hgf2
          go_wp2_with fail
          go_loopw [12, 13] (fun s j wr => ∃ (J : Nat) (T2 : Nat → Bool), J ≤ 2 ∧ j = .int .i64 (J : Int) ∧ s = .bool (accIn ⟨as0, al0, ash0, am0⟩ (raceL M qs (afters zs (M : Int) q false)) (raceL M qs (afters zs (M : Int) q true)) J).safe ∧ Hid (FTab wr B M zs.length qs T2) ∧ Hid (∀ j, T1 j = true → T2 j = true) ∧ Hid (∀ y : Bool, (if y then 2 else 1) ≤ J → T2 (keyS M (afters zs (M : Int) q y)) = true) ∧ Hid (FiveR wr b9 (.bool true) (.bool as0) (.int .i64 (accIn ⟨as0, al0, ash0, am0⟩ (raceL M qs (afters zs (M : Int) q false)) (raceL M qs (afters zs (M : Int) q true)) J).long) (.int .i64 (accIn ⟨as0, al0, ash0, am0⟩ (raceL M qs (afters zs (M : Int) q false)) (raceL M qs (afters zs (M : Int) q true)) J).short) (.int .i64 (accIn ⟨as0, al0, ash0, am0⟩ (raceL M qs (afters zs (M : Int) q false)) (raceL M qs (afters zs (M : Int) q true)) J).many) 75) ∧ Hid (BF11 w.heap.size B Q lo2 hi2 qs A c lo hi zs M (some ⟨b3, o3, none⟩) lo3 b9 (choL qs zs) w wr) ∧ Hid (BRes wr gf (gf + 1) (some ⟨gf, 0, none⟩) [false, true])) (fun _ j _ => 2 - (intOf j).toNat)
          case atStart => exact ⟨0, T1, Nat.zero_le _, rfl, rfl, HF_1, Lib.hid (fun _ h => h), Lib.hid (fun y h => absurd h (by cases y <;> simp)), H9_1, HBF_1, HFB2⟩
          case round =>
            clear HF_1 H9_1 HBF_1 HFB2
            obtain ⟨J, T2, hJ, rfl, rfl, HF, HT2, HRD, H9, HBF, HFB⟩ := hrel
            rename World => w6
            by_cases hJ2 : J < 2
            · have hJI : (J : Int) < 2 := by omega
              obtain ⟨gf', hge, _, _, _, hcf⟩ := HFB.out.own.at_ (k := J) (by simpa using hJ2)
              injection hge with hge
              injection hge with hge
              subst hge
              have HCF := Lib.hid (CelR.mk hcf)
              obtain ⟨yv, hyv⟩ : ∃ y, y = ([false, true] : List Bool)[J]'(by simpa using hJ2) := ⟨_, rfl⟩
              have HYJ : Hid ((if yv then 2 else 1) = J + 1) := Lib.hid (by rcases (show J = 0 ∨ J = 1 by omega) with rfl | rfl <;> (subst hyv; rfl))
              have HAI : Hid (accIn ⟨as0, al0, ash0, am0⟩ (raceL M qs (afters zs (M : Int) q false)) (raceL M qs (afters zs (M : Int) q true)) (J + 1) = accStep (accIn ⟨as0, al0, ash0, am0⟩ (raceL M qs (afters zs (M : Int) q false)) (raceL M qs (afters zs (M : Int) q true)) J) (raceL M qs (afters zs (M : Int) q yv))) := Lib.hid (by rcases (show J = 0 ∨ J = 1 by omega) with rfl | rfl <;> (subst hyv; rfl))
              have hn0 := HNq.out false
              have hn1 := HNq.out true
              have HMB : Hid (0 ≤ (accIn ⟨as0, al0, ash0, am0⟩ (raceL M qs (afters zs (M : Int) q false)) (raceL M qs (afters zs (M : Int) q true)) J).many ∧ (accIn ⟨as0, al0, ash0, am0⟩ (raceL M qs (afters zs (M : Int) q false)) (raceL M qs (afters zs (M : Int) q true)) J).many ≤ 200000000000) := Lib.hid (by rcases (show J = 0 ∨ J = 1 by omega) with rfl | rfl <;> (simp only [accIn, accStep]; omega))
              have HCFF : Hid (∀ W, BRes W gf (gf + 1) (some ⟨gf, 0, none⟩) [false, true] → W.cell? ⟨gf, J, none⟩ = some (.bool yv)) := Lib.hid (fun W h => by obtain ⟨g2, e2, _, _, _, h2⟩ := h.own.at_ (k := J) (by simpa using hJ2); injection e2 with e2; injection e2 with e2; subst e2; rw [hyv]; exact h2)
              rw [← hyv] at hcf HCF
              clear hn0 hn1 hyv
              have hmb := HMB.out
              generalize hai : accIn ⟨as0, al0, ash0, am0⟩ (raceL M qs (afters zs (M : Int) q false)) (raceL M qs (afters zs (M : Int) q true)) J = ai at H9 HAI hmb ⊢
              clear HMB hai
              obtain ⟨si, li, shi, mi⟩ := ai
              simp only at H9 hmb
              have HCX2 := Lib.hid (CelR.at HBF.out.ci hlt)
              rw [HQE.out] at HCX2
              have HRy := Lib.hid (HRq.out yv)
              have HAy := Lib.hid (fun W h => HAq.out yv W h)
              have HDy := Lib.hid (fun g c1 W h => HDq.out yv g c1 W h)
              have HWy := Lib.hid (HWq.out yv)
              have hny := HNq.out yv
              clear hcf
              go_upto_region 16 with (fail)
              have hw6 : gf + 1 ≤ w6.heap.size := HFB.out.top
              have hci6 := HBF.out.ci.top
              refine wp_region_noPanic ?_
              refine wp_region_inv5 (by kernel_rfl) (by kernel_rfl) (fun D A' W => ∃ v14 v59 v60 v61 v62 v63 v64 v65 v66 v67 v68, A' = { tmps := #[Value.agg #[Value.slice A zs.length c, Value.int IntKind.i64 (M : Int)], Value.slice Q qs.length cq, Value.slice (some ⟨B, 0, none⟩) top ct, Value.pointer (some ⟨w.heap.size, 0, none⟩), undef, undef, Value.pointer (some ⟨w.heap.size + 1, 0, none⟩), Value.int IntKind.i64 (κ : Int), Value.slice (some ⟨b3, o3, none⟩) (choL qs zs).length cc, Value.pointer (some ⟨b9, 0, none⟩), Value.int IntKind.i64 (k : Int), Value.slice (some ⟨gf, 0, none⟩) 2 cf, Value.bool si, Value.int IntKind.i64 (J : Int), v14, u15, Value.agg #[Value.slice A zs.length c, Value.int IntKind.i64 (M : Int)], Value.int IntKind.i64 (κ : Int), Value.agg #[Value.slice A zs.length c, Value.int IntKind.i64 (M : Int)], Value.slice Q qs.length cq, Value.slice (some ⟨b3, o3, none⟩) (choL qs zs).length cc, Value.slice (some ⟨B, 0, none⟩) top ct, Value.int IntKind.i64 (κ : Int), Value.pointer (some ⟨B, κ * 5, none⟩), Value.pointer (some ⟨B, κ * 5, none⟩), Value.bool false, undef, undef, undef, undef, Value.agg #[Value.bool true, Value.bool false, Value.int IntKind.i64 0, Value.int IntKind.i64 (-1), Value.int IntKind.i64 0], Value.agg #[Value.slice A zs.length c, Value.int IntKind.i64 (M : Int)], Value.bool false, Value.bool false, Value.slice (some ⟨b3, o3, none⟩) (choL qs zs).length cc, Value.int IntKind.i64 ((choL qs zs).length : Int), Value.bool false, Value.bool false, undef, undef, undef, Value.int IntKind.i64 (k : Int), Value.slice (some ⟨b3, o3, none⟩) (choL qs zs).length cc, Value.int IntKind.i64 ((choL qs zs).length : Int), Value.bool true, u45, u46, Value.agg #[Value.slice A zs.length c, Value.int IntKind.i64 (M : Int)], Value.slice (some ⟨b3, o3, none⟩) (choL qs zs).length cc, Value.int IntKind.i64 (k : Int), Value.pointer (some ⟨b3, o3 + k, none⟩), Value.int IntKind.i64 q, Value.slice (some ⟨gf, 0, none⟩) 2 cf, Value.int IntKind.i64 (J : Int), Value.slice (some ⟨gf, 0, none⟩) 2 cf, Value.int IntKind.i64 2, Value.bool true, u57, u58, v59, v60, v61, v62, v63, v64, v65, v66, v67, v68, u69, u70, u71, u72, u73, u74, u75, u76, u77, u78, u79, u80, u81, u82, u83, u84, u85, u86, u87, u88, u89, u90, u91, u92, u93, u94, u95, u96, u97, u98, u99, u100, u101, u102, u103, u104, u105, u106, u107, u108, u109, u110, u111, u112, u113, u114, u115, u116, undef, undef, undef, undef, undef], defers := [] } ∧ FInv16 w.heap.size B b9 gf Q lo2 hi2 qs A c lo hi zs M top b3 o3 lo3 cc cf k J q yv T2 as0 li shi mi w w6 D v14 v59 v60 v61 v62 v63 v64 v65 v66 v67 v68 W) ?h0 ?hs ?hd
              case h0 => exact ⟨u14, u59, u60, u61, u62, u63, u64, u65, u66, u67, u68, rfl, ⟨HBF.out.below (Below.refl _ _).drew, HF.out.step (Below.refl _ _).drew, H9.out.step (Below.refl _ _).drew, HFB.out.step (Below.refl _ _).drew, (Below.refl _ _).drew, nofun, nofun, nofun, nofun, nofun, nofun, nofun, nofun, nofun, nofun, nofun, nofun⟩⟩
              case hs =>
                rintro D _ W ⟨v14, v59, v60, v61, v62, v63, v64, v65, v66, v67, v68, rfl, hI⟩ i o ho hD hA K hK
                have hi' : i < 12 := (Array.getElem?_eq_some_iff.1 ho).1
                have HI := Lib.hid hI
                have HK := Lib.hid hK
                clear hI hK HBF HF H9 HFB HCF HCX2 HRy HDy HWy hny HST HAI HRD HT2 HPV HT1 HEQ HRq HAq HDq HWq HNq HYJ hab hmb
                obtain rfl | rfl | rfl | rfl | rfl | rfl | rfl | rfl | rfl | rfl | rfl | rfl : i = 0 ∨ i = 1 ∨ i = 2 ∨ i = 3 ∨ i = 4 ∨ i = 5 ∨ i = 6 ∨ i = 7 ∨ i = 8 ∨ i = 9 ∨ i = 10 ∨ i = 11 := by omega
                all_goals (obtain rfl := Option.some.inj ho; clear ho hi'; simp [Region.binds] at hA)
                · have x0 := HI.out.bw.ht.c0
                  have x1 := HI.out.bw.ht.c1
                  go_simp
                  exact HK.out _ _ ⟨_, _, _, _, _, _, _, _, _, _, _, rfl, ⟨(by simpa using HI.out.bw), (by simpa using HI.out.hf), (by simpa using HI.out.h9), (by simpa using HI.out.fb), (by simpa using HI.out.bl), (fun _ => rfl), (by simpa using HI.out.s60), (by simpa using HI.out.s61), (by simpa using HI.out.s62), (by simpa using HI.out.s63), (by simpa using HI.out.s64), (by simpa using HI.out.s65), (by simpa using HI.out.s66), (by simpa using HI.out.s67), (by simpa using HI.out.s68), (by simpa using HI.out.s14), (fun h => by have h2 := HI.out.o11 (by simpa using h); simp [h2.1, h2.2])⟩⟩
                · go_simp
                  exact HK.out _ _ ⟨_, _, _, _, _, _, _, _, _, _, _, rfl, ⟨(by simpa using HI.out.bw), (by simpa using HI.out.hf), (by simpa using HI.out.h9), (by simpa using HI.out.fb), (by simpa using HI.out.bl), (by simpa using HI.out.s59), (fun _ => rfl), (by simpa using HI.out.s61), (by simpa using HI.out.s62), (by simpa using HI.out.s63), (by simpa using HI.out.s64), (by simpa using HI.out.s65), (by simpa using HI.out.s66), (by simpa using HI.out.s67), (by simpa using HI.out.s68), (by simpa using HI.out.s14), (fun h => by have h2 := HI.out.o11 (by simpa using h); simp [h2.1, h2.2])⟩⟩
                · go_simp
                  exact HK.out _ _ ⟨_, _, _, _, _, _, _, _, _, _, _, rfl, ⟨(by simpa using HI.out.bw), (by simpa using HI.out.hf), (by simpa using HI.out.h9), (by simpa using HI.out.fb), (by simpa using HI.out.bl), (by simpa using HI.out.s59), (by simpa using HI.out.s60), (fun _ => rfl), (by simpa using HI.out.s62), (by simpa using HI.out.s63), (by simpa using HI.out.s64), (by simpa using HI.out.s65), (by simpa using HI.out.s66), (by simpa using HI.out.s67), (by simpa using HI.out.s68), (by simpa using HI.out.s14), (fun h => by have h2 := HI.out.o11 (by simpa using h); simp [h2.1, h2.2])⟩⟩
                · obtain rfl := HI.out.s60 (by simp_all)
                  obtain rfl := HI.out.s61 (by simp_all)
                  go_simp
                  exact HK.out _ _ ⟨_, _, _, _, _, _, _, _, _, _, _, rfl, ⟨(by simpa using HI.out.bw), (by simpa using HI.out.hf), (by simpa using HI.out.h9), (by simpa using HI.out.fb), (by simpa using HI.out.bl), (by simpa using HI.out.s59), (fun _ => rfl), (fun _ => rfl), (fun _ => rfl), (by simpa using HI.out.s63), (by simpa using HI.out.s64), (by simpa using HI.out.s65), (by simpa using HI.out.s66), (by simpa using HI.out.s67), (by simpa using HI.out.s68), (by simpa using HI.out.s14), (fun h => by have h2 := HI.out.o11 (by simpa using h); simp [h2.1, h2.2])⟩⟩
                · obtain rfl := HI.out.s62 (by simp_all)
                  have hc := (CelR.at HI.out.bw.ci hlt).c
                  rw [HQE.out] at hc
                  go_simp
                  exact HK.out _ _ ⟨_, _, _, _, _, _, _, _, _, _, _, rfl, ⟨(by simpa using HI.out.bw), (by simpa using HI.out.hf), (by simpa using HI.out.h9), (by simpa using HI.out.fb), (by simpa using HI.out.bl), (by simpa using HI.out.s59), (by simpa using HI.out.s60), (by simpa using HI.out.s61), (fun _ => rfl), (fun _ => rfl), (by simpa using HI.out.s64), (by simpa using HI.out.s65), (by simpa using HI.out.s66), (by simpa using HI.out.s67), (by simpa using HI.out.s68), (by simpa using HI.out.s14), (fun h => by have h2 := HI.out.o11 (by simpa using h); simp [h2.1, h2.2])⟩⟩
                · go_simp
                  exact HK.out _ _ ⟨_, _, _, _, _, _, _, _, _, _, _, rfl, ⟨(by simpa using HI.out.bw), (by simpa using HI.out.hf), (by simpa using HI.out.h9), (by simpa using HI.out.fb), (by simpa using HI.out.bl), (by simpa using HI.out.s59), (by simpa using HI.out.s60), (by simpa using HI.out.s61), (by simpa using HI.out.s62), (by simpa using HI.out.s63), (fun _ => rfl), (by simpa using HI.out.s65), (by simpa using HI.out.s66), (by simpa using HI.out.s67), (by simpa using HI.out.s68), (by simpa using HI.out.s14), (fun h => by have h2 := HI.out.o11 (by simpa using h); simp [h2.1, h2.2])⟩⟩
                · go_simp
                  exact HK.out _ _ ⟨_, _, _, _, _, _, _, _, _, _, _, rfl, ⟨(by simpa using HI.out.bw), (by simpa using HI.out.hf), (by simpa using HI.out.h9), (by simpa using HI.out.fb), (by simpa using HI.out.bl), (by simpa using HI.out.s59), (by simpa using HI.out.s60), (by simpa using HI.out.s61), (by simpa using HI.out.s62), (by simpa using HI.out.s63), (by simpa using HI.out.s64), (fun _ => rfl), (by simpa using HI.out.s66), (by simpa using HI.out.s67), (by simpa using HI.out.s68), (by simpa using HI.out.s14), (fun h => by have h2 := HI.out.o11 (by simpa using h); simp [h2.1, h2.2])⟩⟩
                · obtain rfl := HI.out.s64 (by simp_all)
                  obtain rfl := HI.out.s65 (by simp_all)
                  go_simp
                  exact HK.out _ _ ⟨_, _, _, _, _, _, _, _, _, _, _, rfl, ⟨(by simpa using HI.out.bw), (by simpa using HI.out.hf), (by simpa using HI.out.h9), (by simpa using HI.out.fb), (by simpa using HI.out.bl), (by simpa using HI.out.s59), (by simpa using HI.out.s60), (by simpa using HI.out.s61), (by simpa using HI.out.s62), (by simpa using HI.out.s63), (fun _ => rfl), (fun _ => rfl), (fun _ => rfl), (by simpa using HI.out.s67), (by simpa using HI.out.s68), (by simpa using HI.out.s14), (fun h => by have h2 := HI.out.o11 (by simpa using h); simp [h2.1, h2.2])⟩⟩
                · obtain rfl := HI.out.s66 (by simp_all)
                  have hc := HCFF.out W HI.out.fb
                  go_simp
                  exact HK.out _ _ ⟨_, _, _, _, _, _, _, _, _, _, _, rfl, ⟨(by simpa using HI.out.bw), (by simpa using HI.out.hf), (by simpa using HI.out.h9), (by simpa using HI.out.fb), (by simpa using HI.out.bl), (by simpa using HI.out.s59), (by simpa using HI.out.s60), (by simpa using HI.out.s61), (by simpa using HI.out.s62), (by simpa using HI.out.s63), (by simpa using HI.out.s64), (by simpa using HI.out.s65), (fun _ => rfl), (fun _ => rfl), (by simpa using HI.out.s68), (by simpa using HI.out.s14), (fun h => by have h2 := HI.out.o11 (by simpa using h); simp [h2.1, h2.2])⟩⟩
                · obtain rfl := HI.out.s59 (by simp_all)
                  obtain rfl := HI.out.s63 (by simp_all)
                  obtain rfl := HI.out.s67 (by simp_all)
                  have h11 := notDR (fun h => (HI.out.o11 h).1) hD
                  go_simp
                  refine (HAy.out W HI.out.bw.si).mono ?_
                  rintro e W' ⟨g, c', rfl, hg, ho, hb'⟩
                  exact HK.out _ _ ⟨_, _, _, _, _, _, _, _, _, _, _, rfl, ⟨(HI.out.bw.below hb'), (HI.out.hf.step hb'), (HI.out.h9.step hb'), (HI.out.fb.step hb'), (HI.out.bl.trans (hb'.mono HI.out.bl.size)), (fun _ => rfl), (by simpa using HI.out.s60), (by simpa using HI.out.s61), (by simpa using HI.out.s62), (fun _ => rfl), (by simpa using HI.out.s64), (by simpa using HI.out.s65), (by simpa using HI.out.s66), (fun _ => rfl), (fun _ => ⟨g, c', rfl, Nat.le_trans HI.out.bl.size hg, ho⟩), (fun h => by obtain ⟨b, x, y, e, hb1, ht, hx⟩ := HI.out.s14 (by simpa using h); exact ⟨b, x, y, e, hb1, ht.step hb', fun h => by simp [h11] at h⟩), (fun h => by have h2 := HI.out.o11 (by simpa using h); simp [h2.1, h2.2])⟩⟩
                · have h11 := notDR (fun h => (HI.out.o11 h).2) hD
                  have hb' : Below W.heap.size W (W.alloc (.cells #[.slice none 0 0, .int .i64 0] 26)) := (Below.refl _ _).alloc (Nat.le_refl _) _
                  go_simp
                  exact HK.out _ _ ⟨_, _, _, _, _, _, _, _, _, _, _, rfl, ⟨(HI.out.bw.below hb'), (HI.out.hf.step hb'), (HI.out.h9.step hb'), (HI.out.fb.step hb'), (HI.out.bl.trans (hb'.mono HI.out.bl.size)), (by simpa using HI.out.s59), (by simpa using HI.out.s60), (by simpa using HI.out.s61), (by simpa using HI.out.s62), (by simpa using HI.out.s63), (by simpa using HI.out.s64), (by simpa using HI.out.s65), (by simpa using HI.out.s66), (by simpa using HI.out.s67), (fun h => by obtain ⟨g, c', e, hg, ho⟩ := HI.out.s68 (by simpa using h); exact ⟨g, c', e, hg, own_same ho (hb'.block _ (own_lt ho))⟩), (fun _ => ⟨W.heap.size, .slice none 0 0, .int .i64 0, rfl, HI.out.bl.size, Two.new W _ _ _ _ rfl, fun h => by simp [h11] at h⟩), (fun h => by have h2 := HI.out.o11 (by simpa using h); simp [h2.1, h2.2])⟩⟩
                · have hA' : D 10 = true := by simp_all
                  have hB' : D 9 = true := by simp_all
                  obtain ⟨b, x, y, rfl, hb1, ht, _⟩ := HI.out.s14 hA'
                  obtain ⟨g, c', rfl, hg, ho⟩ := HI.out.s68 hB'
                  have c0 := ht.c0
                  have c1 := ht.c1
                  have f0 := ht.f0
                  have f1 := ht.f1
                  obtain ⟨hs2, hw2⟩ := stored2 ht.row (.slice (some ⟨g, 0, none⟩) zs.length c') (.int .i64 (M : Int))
                  have hs2 := Lib.hid hs2
                  have hw2 := Lib.hid hw2
                  go_simp
                  exact HK.out _ _ ⟨_, _, _, _, _, _, _, _, _, _, _, rfl, ⟨(HI.out.bw.new rfl hqt hst (by omega) (by omega) hw2.out), (HI.out.hf.within hw2.out (.inl (by omega))), (HI.out.h9.within hw2.out (.inl (by omega))), (HI.out.fb.within hw2.out (.inl (by omega))), (HI.out.bl.trans (hw2.out.below hb1 HI.out.bl.size)), (by simpa using HI.out.s59), (by simpa using HI.out.s60), (by simpa using HI.out.s61), (by simpa using HI.out.s62), (by simpa using HI.out.s63), (by simpa using HI.out.s64), (by simpa using HI.out.s65), (by simpa using HI.out.s66), (by simpa using HI.out.s67), (fun _ => ⟨g, c', rfl, hg, own_same ho (hw2.out.block g (own_lt ho) (by have := own_two_neR ho ht; omega))⟩), (fun _ => ⟨b, _, _, rfl, hb1, ⟨hs2.out⟩, fun _ => rfl⟩), (fun _ => by simp [hA', hB'])⟩⟩
              case hd =>
                rintro D _ W ⟨v14, v59, v60, v61, v62, v63, v64, v65, v66, v67, v68, rfl, hI⟩ hall
                obtain ⟨b14, x14, y14, rfl, hb14, ht14, h11⟩ := hI.s14 (hall 10 (by decide))
                obtain ⟨g, c1, rfl, hg, hog⟩ := hI.s68 (hall 9 (by decide))
                obtain ⟨rfl, rfl⟩ : x14 = .slice (some ⟨g, 0, none⟩) zs.length c1 ∧ y14 = .int .i64 (M : Int) := by
                  have ee := h11 (hall 11 (by decide))
                  simp at ee
                  exact ⟨ee.1.symm, ee.2.symm⟩
                obtain rfl := hI.s59 (hall 0 (by decide))
                obtain rfl := hI.s60 (hall 1 (by decide))
                obtain rfl := hI.s61 (hall 2 (by decide))
                obtain rfl := hI.s62 (hall 3 (by decide))
                obtain rfl := hI.s63 (hall 4 (by decide))
                obtain rfl := hI.s64 (hall 5 (by decide))
                obtain rfl := hI.s65 (hall 6 (by decide))
                obtain rfl := hI.s66 (hall 7 (by decide))
                obtain rfl := hI.s67 (hall 8 (by decide))
                have H14 := Lib.hid ht14
                have HG := Lib.hid (own_insG hog)
                replace HBF := Lib.hid hI.bw
                replace HF := Lib.hid hI.hf
                replace H9 := Lib.hid hI.h9
                replace HFB := Lib.hid hI.fb
                have hgB : b9 < g := by omega
                have hb14b : b9 < b14 := by omega
                clear hI hall ht14 h11 hog HCF HCX2
                refine NoPanic.normal ?_
                have k0 := H14.out.c0
                have k1 := H14.out.c1
                have HRz := Lib.hid (HRy.out (some ⟨g, 0, none⟩) c1 g (g + 1) Q cq lo2 hi2 ct W B T2 HF.out HG.out (by omega) HBF.out.qi hd2)
                rw [afters_len, ← HTP.out] at HRz
                go_wp2_with fail
                with_reducible refine HRz.out.mono ?_
                rintro e w7 ⟨rfl, ⟨T3, hF3, hT3, hK3⟩, hw7⟩
                replace HF := Lib.hid hF3
                have HT3 := Lib.hid hT3
                have HK3 := Lib.hid hK3
                clear hF3 hT3 hK3 HRz HRy k0 k1
                replace HBF := Lib.hid (HBF.out.win hBw h3w hd2 hd hw7)
                replace H9 := Lib.hid (H9.out.within hw7 (.inr (by omega)))
                replace HFB := Lib.hid (HFB.out.within hw7 (.inr (by omega)))
                replace H14 := Lib.hid (H14.out.within hw7 (.inr (by omega)))
                replace HG := Lib.hid (HG.out.within hw7 (.inr (by omega)))
                clear hw7
                generalize hre : raceL M qs (afters zs (M : Int) q yv) = r at HAI hny HWy ⊢
                clear hre
                unfold fV
                go_upto_region 18 with (fail)
                have H15 := Lib.hid (FiveR.new w7 (.bool true) (.bool r.wins) (.int .i64 (r.long : Int)) (.int .i64 (r.short : Int)) (.int .i64 (r.many : Int)) 75 w7.heap.size rfl)
                have hb := (Below.refl w7.heap.size w7).alloc (Nat.le_refl _) (.cells #[.bool true, .bool r.wins, .int .i64 (r.long : Int), .int .i64 (r.short : Int), .int .i64 (r.many : Int)] 75)
                have h915 : b9 < w7.heap.size := H9.out.lt
                replace HBF := Lib.hid (HBF.out.below hb)
                replace HF := Lib.hid (HF.out.step hb)
                replace H9 := Lib.hid (H9.out.step hb)
                replace HFB := Lib.hid (HFB.out.step hb)
                replace H14 := Lib.hid (H14.out.step hb)
                replace HG := Lib.hid (HG.out.step hb)
                clear hb
                generalize w7.heap.size = b15 at H15 h915 ⊢
                generalize w7.alloc (.cells #[.bool true, .bool r.wins, .int .i64 (r.long : Int), .int .i64 (r.short : Int), .int .i64 (r.many : Int)] 75) = w8 at HBF HF H9 HFB H14 HG H15 ⊢
                have W1 : IntKind.i64.wrap ((r.long : Int) + 1) = (r.long : Int) + 1 := IntWalk.i64_in _ (by omega)
                have W2 : IntKind.i64.wrap ((r.short : Int) + 1) = (r.short : Int) + 1 := IntWalk.i64_in _ (by omega)
                have W3 : IntKind.i64.wrap (mi + (r.many : Int)) = mi + (r.many : Int) := IntWalk.i64_in _ (by omega)
                have HMO : Hid (∀ W, Calls Try.prog 114 #[.int .i64 li, .int .i64 ((r.long : Int) + 1)] W fun e w' => e = .returned (.int .i64 (max li ((r.long : Int) + 1))) ∧ w' = W) := Lib.hid (fun W => by
                  have h := l1Most_any li ((r.long : Int) + 1) W
                  rwa [show (if (r.long : Int) + 1 ≤ li then li else (r.long : Int) + 1) = max li ((r.long : Int) + 1) from by split <;> omega] at h)
                have HRDn : Hid (∀ y : Bool, (if y then 2 else 1) ≤ J + 1 → T3 (keyS M (afters zs (M : Int) q y)) = true) := Lib.hid (fun y h => by
                  by_cases hy : y = yv
                  · subst hy; exact HK3.out
                  · refine HT3.out _ (HRD.out y ?_)
                    have := HYJ.out
                    cases y <;> cases yv <;> simp_all <;> omega)
                have HT13 := Lib.hid (fun j h => HT3.out j (HT2.out j h))
                clear HRD HT3 HK3 HYJ HT2
                have hwn := HWy.out
                cases si with
                | false =>
                  have HSF : Hid (Value.bool false = Value.bool (accStep ⟨false, li, shi, mi⟩ r).safe) := Lib.hid rfl
                  go_upto_region 19 with (fail)
                  have x2 := H9.out.c2
                  have x3 := H9.out.c3
                  have x4 := H9.out.c4
                  have xf2 := H9.out.f 2
                  have y2 := H15.out.c2
                  have y3 := H15.out.c3
                  have y4 := H15.out.c4
                  go_upto_region 20 with (go_at_call 114; (with_reducible refine (HMO.out _).mono ?_); rintro e wX ⟨rfl, hw⟩; have hw := hw.symm; subst hw)
                  obtain ⟨hs2, hw2⟩ := H9.out.set2 (.int .i64 (max li ((r.long : Int) + 1)))
                  have HBF2 := Lib.hid (HBF.out.new rfl hqt hst hb9 (Nat.le_refl _) hw2)
                  have HF2 := Lib.hid (HF.out.within hw2 (.inl (by omega)))
                  have HFB2 := Lib.hid (HFB.out.within hw2 (.inr (by omega)))
                  have H152 := Lib.hid (H15.out.within hw2 (.inr (by omega)))
                  have H92 := Lib.hid hs2
                  clear hs2 hw2 x2 x3 x4 xf2 y2 y3 y4 HBF HF HFB H15 H9 HMO H14 HG HDy
                  generalize w8.setCell ⟨b9, 2, none⟩ (.int .i64 (max li ((r.long : Int) + 1))) = wa at HBF2 HF2 HFB2 H152 H92 ⊢
                  have x3 := H92.out.c3
                  have x4 := H92.out.c4
                  have xf3 := H92.out.f 3
                  have xf4 := H92.out.f 4
                  have y3 := H152.out.c3
                  have y4 := H152.out.c4
                  by_cases hsh : shi < 0
                  · have HSE : Hid ((accStep ⟨false, li, shi, mi⟩ r).short = (r.short : Int) + 1) := Lib.hid (if_pos (.inl hsh))
                    have hsh2 : ¬ (0 : Int) ≤ shi := by omega
                    go_upto_region 22 with (fail)
                    obtain ⟨hs5, hw5⟩ := H92.out.set3 (.int .i64 ((r.short : Int) + 1))
                    have HBF3 := Lib.hid (HBF2.out.new rfl hqt hst hb9 (Nat.le_refl _) hw5)
                    have HF3 := Lib.hid (HF2.out.within hw5 (.inl (by omega)))
                    have HFB3 := Lib.hid (HFB2.out.within hw5 (.inr (by omega)))
                    have H153 := Lib.hid (H152.out.within hw5 (.inr (by omega)))
                    have H93 := Lib.hid hs5
                    clear hs5 hw5 x3 x4 xf3 xf4 y3 y4 HBF2 HF2 HFB2 H152 H92
                    generalize wa.setCell ⟨b9, 3, none⟩ (.int .i64 ((r.short : Int) + 1)) = wb at HBF3 HF3 HFB3 H153 H93 ⊢
                    have x4 := H93.out.c4
                    have xf4 := H93.out.f 4
                    have y4 := H153.out.c4
                    go_wp2
                    obtain ⟨hs6, hw6'⟩ := H93.out.set4 (.int .i64 (mi + (r.many : Int)))
                    have HBF4 := Lib.hid (HBF3.out.new rfl hqt hst hb9 (Nat.le_refl _) hw6')
                    have HF4 := Lib.hid (HF3.out.within hw6' (.inl (by omega)))
                    have HFB4 := Lib.hid (HFB3.out.within hw6' (.inr (by omega)))
                    have H94 := Lib.hid hs6
                    clear hs6 hw6' HBF3 HF3 HFB3 H93
                    generalize wb.setCell ⟨b9, 4, none⟩ (.int .i64 (mi + (r.many : Int))) = wc at HBF4 HF4 HFB4 H94 ⊢
                    go_roundw
                    case rel => exact ⟨J + 1, T3, by omega, by go_num, by rw [HAI.out]; exact HSF.out, HF4, HT13, HRDn, by rw [HAI.out, HSE.out]; exact H94, HBF4, HFB4⟩
                    case measure => simp [intOf]; omega
                  · by_cases hs3 : (r.short : Int) + 1 < shi
                    · have HSE : Hid ((accStep ⟨false, li, shi, mi⟩ r).short = (r.short : Int) + 1) := Lib.hid (if_pos (.inr hs3))
                      go_upto_region 22 with (fail)
                      obtain ⟨hs5, hw5⟩ := H92.out.set3 (.int .i64 ((r.short : Int) + 1))
                      have HBF3 := Lib.hid (HBF2.out.new rfl hqt hst hb9 (Nat.le_refl _) hw5)
                      have HF3 := Lib.hid (HF2.out.within hw5 (.inl (by omega)))
                      have HFB3 := Lib.hid (HFB2.out.within hw5 (.inr (by omega)))
                      have H153 := Lib.hid (H152.out.within hw5 (.inr (by omega)))
                      have H93 := Lib.hid hs5
                      clear hs5 hw5 x3 x4 xf3 xf4 y3 y4 HBF2 HF2 HFB2 H152 H92
                      generalize wa.setCell ⟨b9, 3, none⟩ (.int .i64 ((r.short : Int) + 1)) = wb at HBF3 HF3 HFB3 H153 H93 ⊢
                      have x4 := H93.out.c4
                      have xf4 := H93.out.f 4
                      have y4 := H153.out.c4
                      go_wp2
                      obtain ⟨hs6, hw6'⟩ := H93.out.set4 (.int .i64 (mi + (r.many : Int)))
                      have HBF4 := Lib.hid (HBF3.out.new rfl hqt hst hb9 (Nat.le_refl _) hw6')
                      have HF4 := Lib.hid (HF3.out.within hw6' (.inl (by omega)))
                      have HFB4 := Lib.hid (HFB3.out.within hw6' (.inr (by omega)))
                      have H94 := Lib.hid hs6
                      clear hs6 hw6' HBF3 HF3 HFB3 H93
                      generalize wb.setCell ⟨b9, 4, none⟩ (.int .i64 (mi + (r.many : Int))) = wc at HBF4 HF4 HFB4 H94 ⊢
                      go_roundw
                      case rel => exact ⟨J + 1, T3, by omega, by go_num, by rw [HAI.out]; exact HSF.out, HF4, HT13, HRDn, by rw [HAI.out, HSE.out]; exact H94, HBF4, HFB4⟩
                      case measure => simp [intOf]; omega
                    · have HSE : Hid ((accStep ⟨false, li, shi, mi⟩ r).short = shi) := Lib.hid (if_neg (by rintro (h | h); exact hsh h; exact hs3 h))
                      go_upto_region 22 with (fail)
                      go_wp2
                      obtain ⟨hs6, hw6'⟩ := H92.out.set4 (.int .i64 (mi + (r.many : Int)))
                      have HBF4 := Lib.hid (HBF2.out.new rfl hqt hst hb9 (Nat.le_refl _) hw6')
                      have HF4 := Lib.hid (HF2.out.within hw6' (.inl (by omega)))
                      have HFB4 := Lib.hid (HFB2.out.within hw6' (.inr (by omega)))
                      have H94 := Lib.hid hs6
                      clear hs6 hw6' HBF2 HF2 HFB2 H92
                      generalize wa.setCell ⟨b9, 4, none⟩ (.int .i64 (mi + (r.many : Int))) = wc at HBF4 HF4 HFB4 H94 ⊢
                      go_roundw
                      case rel => exact ⟨J + 1, T3, by omega, by go_num, by rw [HAI.out]; exact HSF.out, HF4, HT13, HRDn, by rw [HAI.out, HSE.out]; exact H94, HBF4, HFB4⟩
                      case measure => simp [intOf]; omega
                | true =>
                  have k0 := H14.out.c0
                  have k1 := H14.out.c1
                  go_wp2_with fail
                  with_reducible refine (HDy.out g c1 w8 HG.out).mono ?_
                  rintro e w9 ⟨rfl, hb⟩
                  replace HBF := Lib.hid (HBF.out.below hb)
                  replace HF := Lib.hid (HF.out.step hb)
                  replace H9 := Lib.hid (H9.out.step hb)
                  replace HFB := Lib.hid (HFB.out.step hb)
                  replace H14 := Lib.hid (H14.out.step hb)
                  replace HG := Lib.hid (HG.out.step hb)
                  replace H15 := Lib.hid (H15.out.step hb)
                  clear hb k0 k1
                  have y1 := H15.out.c1
                  generalize doneL (afters zs (M : Int) q yv) = dn at hwn ⊢
                  cases dn with
                  | true =>
                    have hwf : r.wins = false := hwn rfl
                    have HSF : Hid (Value.bool true = Value.bool (accStep ⟨true, li, shi, mi⟩ r).safe) := Lib.hid (by simp [accStep, hwf])
                    clear hwf hwn
                    go_upto_region 19 with (fail)
                    clear y1
                    have x2 := H9.out.c2
                    have x3 := H9.out.c3
                    have x4 := H9.out.c4
                    have xf2 := H9.out.f 2
                    have y2 := H15.out.c2
                    have y3 := H15.out.c3
                    have y4 := H15.out.c4
                    go_upto_region 20 with (go_at_call 114; (with_reducible refine (HMO.out _).mono ?_); rintro e wX ⟨rfl, hw⟩; have hw := hw.symm; subst hw)
                    obtain ⟨hs2, hw2⟩ := H9.out.set2 (.int .i64 (max li ((r.long : Int) + 1)))
                    have HBF2 := Lib.hid (HBF.out.new rfl hqt hst hb9 (Nat.le_refl _) hw2)
                    have HF2 := Lib.hid (HF.out.within hw2 (.inl (by omega)))
                    have HFB2 := Lib.hid (HFB.out.within hw2 (.inr (by omega)))
                    have H152 := Lib.hid (H15.out.within hw2 (.inr (by omega)))
                    have H92 := Lib.hid hs2
                    clear hs2 hw2 x2 x3 x4 xf2 y2 y3 y4 HBF HF HFB H15 H9 HMO H14 HG HDy
                    generalize w9.setCell ⟨b9, 2, none⟩ (.int .i64 (max li ((r.long : Int) + 1))) = wa at HBF2 HF2 HFB2 H152 H92 ⊢
                    have x3 := H92.out.c3
                    have x4 := H92.out.c4
                    have xf3 := H92.out.f 3
                    have xf4 := H92.out.f 4
                    have y3 := H152.out.c3
                    have y4 := H152.out.c4
                    by_cases hsh : shi < 0
                    · have HSE : Hid ((accStep ⟨true, li, shi, mi⟩ r).short = (r.short : Int) + 1) := Lib.hid (if_pos (.inl hsh))
                      have hsh2 : ¬ (0 : Int) ≤ shi := by omega
                      go_upto_region 22 with (fail)
                      obtain ⟨hs5, hw5⟩ := H92.out.set3 (.int .i64 ((r.short : Int) + 1))
                      have HBF3 := Lib.hid (HBF2.out.new rfl hqt hst hb9 (Nat.le_refl _) hw5)
                      have HF3 := Lib.hid (HF2.out.within hw5 (.inl (by omega)))
                      have HFB3 := Lib.hid (HFB2.out.within hw5 (.inr (by omega)))
                      have H153 := Lib.hid (H152.out.within hw5 (.inr (by omega)))
                      have H93 := Lib.hid hs5
                      clear hs5 hw5 x3 x4 xf3 xf4 y3 y4 HBF2 HF2 HFB2 H152 H92
                      generalize wa.setCell ⟨b9, 3, none⟩ (.int .i64 ((r.short : Int) + 1)) = wb at HBF3 HF3 HFB3 H153 H93 ⊢
                      have x4 := H93.out.c4
                      have xf4 := H93.out.f 4
                      have y4 := H153.out.c4
                      go_wp2
                      obtain ⟨hs6, hw6'⟩ := H93.out.set4 (.int .i64 (mi + (r.many : Int)))
                      have HBF4 := Lib.hid (HBF3.out.new rfl hqt hst hb9 (Nat.le_refl _) hw6')
                      have HF4 := Lib.hid (HF3.out.within hw6' (.inl (by omega)))
                      have HFB4 := Lib.hid (HFB3.out.within hw6' (.inr (by omega)))
                      have H94 := Lib.hid hs6
                      clear hs6 hw6' HBF3 HF3 HFB3 H93
                      generalize wb.setCell ⟨b9, 4, none⟩ (.int .i64 (mi + (r.many : Int))) = wc at HBF4 HF4 HFB4 H94 ⊢
                      go_roundw
                      case rel => exact ⟨J + 1, T3, by omega, by go_num, by rw [HAI.out]; exact HSF.out, HF4, HT13, HRDn, by rw [HAI.out, HSE.out]; exact H94, HBF4, HFB4⟩
                      case measure => simp [intOf]; omega
                    · by_cases hs3 : (r.short : Int) + 1 < shi
                      · have HSE : Hid ((accStep ⟨true, li, shi, mi⟩ r).short = (r.short : Int) + 1) := Lib.hid (if_pos (.inr hs3))
                        go_upto_region 22 with (fail)
                        obtain ⟨hs5, hw5⟩ := H92.out.set3 (.int .i64 ((r.short : Int) + 1))
                        have HBF3 := Lib.hid (HBF2.out.new rfl hqt hst hb9 (Nat.le_refl _) hw5)
                        have HF3 := Lib.hid (HF2.out.within hw5 (.inl (by omega)))
                        have HFB3 := Lib.hid (HFB2.out.within hw5 (.inr (by omega)))
                        have H153 := Lib.hid (H152.out.within hw5 (.inr (by omega)))
                        have H93 := Lib.hid hs5
                        clear hs5 hw5 x3 x4 xf3 xf4 y3 y4 HBF2 HF2 HFB2 H152 H92
                        generalize wa.setCell ⟨b9, 3, none⟩ (.int .i64 ((r.short : Int) + 1)) = wb at HBF3 HF3 HFB3 H153 H93 ⊢
                        have x4 := H93.out.c4
                        have xf4 := H93.out.f 4
                        have y4 := H153.out.c4
                        go_wp2
                        obtain ⟨hs6, hw6'⟩ := H93.out.set4 (.int .i64 (mi + (r.many : Int)))
                        have HBF4 := Lib.hid (HBF3.out.new rfl hqt hst hb9 (Nat.le_refl _) hw6')
                        have HF4 := Lib.hid (HF3.out.within hw6' (.inl (by omega)))
                        have HFB4 := Lib.hid (HFB3.out.within hw6' (.inr (by omega)))
                        have H94 := Lib.hid hs6
                        clear hs6 hw6' HBF3 HF3 HFB3 H93
                        generalize wb.setCell ⟨b9, 4, none⟩ (.int .i64 (mi + (r.many : Int))) = wc at HBF4 HF4 HFB4 H94 ⊢
                        go_roundw
                        case rel => exact ⟨J + 1, T3, by omega, by go_num, by rw [HAI.out]; exact HSF.out, HF4, HT13, HRDn, by rw [HAI.out, HSE.out]; exact H94, HBF4, HFB4⟩
                        case measure => simp [intOf]; omega
                      · have HSE : Hid ((accStep ⟨true, li, shi, mi⟩ r).short = shi) := Lib.hid (if_neg (by rintro (h | h); exact hsh h; exact hs3 h))
                        go_upto_region 22 with (fail)
                        go_wp2
                        obtain ⟨hs6, hw6'⟩ := H92.out.set4 (.int .i64 (mi + (r.many : Int)))
                        have HBF4 := Lib.hid (HBF2.out.new rfl hqt hst hb9 (Nat.le_refl _) hw6')
                        have HF4 := Lib.hid (HF2.out.within hw6' (.inl (by omega)))
                        have HFB4 := Lib.hid (HFB2.out.within hw6' (.inr (by omega)))
                        have H94 := Lib.hid hs6
                        clear hs6 hw6' HBF2 HF2 HFB2 H92
                        generalize wa.setCell ⟨b9, 4, none⟩ (.int .i64 (mi + (r.many : Int))) = wc at HBF4 HF4 HFB4 H94 ⊢
                        go_roundw
                        case rel => exact ⟨J + 1, T3, by omega, by go_num, by rw [HAI.out]; exact HSF.out, HF4, HT13, HRDn, by rw [HAI.out, HSE.out]; exact H94, HBF4, HFB4⟩
                        case measure => simp [intOf]; omega
                  | false =>
                    have HSF : Hid (Value.bool (!r.wins) = Value.bool (accStep ⟨true, li, shi, mi⟩ r).safe) := Lib.hid (by simp [accStep])
                    clear hwn
                    go_upto_region 19 with (fail)
                    clear y1
                    have x2 := H9.out.c2
                    have x3 := H9.out.c3
                    have x4 := H9.out.c4
                    have xf2 := H9.out.f 2
                    have y2 := H15.out.c2
                    have y3 := H15.out.c3
                    have y4 := H15.out.c4
                    go_upto_region 20 with (go_at_call 114; (with_reducible refine (HMO.out _).mono ?_); rintro e wX ⟨rfl, hw⟩; have hw := hw.symm; subst hw)
                    obtain ⟨hs2, hw2⟩ := H9.out.set2 (.int .i64 (max li ((r.long : Int) + 1)))
                    have HBF2 := Lib.hid (HBF.out.new rfl hqt hst hb9 (Nat.le_refl _) hw2)
                    have HF2 := Lib.hid (HF.out.within hw2 (.inl (by omega)))
                    have HFB2 := Lib.hid (HFB.out.within hw2 (.inr (by omega)))
                    have H152 := Lib.hid (H15.out.within hw2 (.inr (by omega)))
                    have H92 := Lib.hid hs2
                    clear hs2 hw2 x2 x3 x4 xf2 y2 y3 y4 HBF HF HFB H15 H9 HMO H14 HG HDy
                    generalize w9.setCell ⟨b9, 2, none⟩ (.int .i64 (max li ((r.long : Int) + 1))) = wa at HBF2 HF2 HFB2 H152 H92 ⊢
                    have x3 := H92.out.c3
                    have x4 := H92.out.c4
                    have xf3 := H92.out.f 3
                    have xf4 := H92.out.f 4
                    have y3 := H152.out.c3
                    have y4 := H152.out.c4
                    by_cases hsh : shi < 0
                    · have HSE : Hid ((accStep ⟨true, li, shi, mi⟩ r).short = (r.short : Int) + 1) := Lib.hid (if_pos (.inl hsh))
                      have hsh2 : ¬ (0 : Int) ≤ shi := by omega
                      go_upto_region 22 with (fail)
                      obtain ⟨hs5, hw5⟩ := H92.out.set3 (.int .i64 ((r.short : Int) + 1))
                      have HBF3 := Lib.hid (HBF2.out.new rfl hqt hst hb9 (Nat.le_refl _) hw5)
                      have HF3 := Lib.hid (HF2.out.within hw5 (.inl (by omega)))
                      have HFB3 := Lib.hid (HFB2.out.within hw5 (.inr (by omega)))
                      have H153 := Lib.hid (H152.out.within hw5 (.inr (by omega)))
                      have H93 := Lib.hid hs5
                      clear hs5 hw5 x3 x4 xf3 xf4 y3 y4 HBF2 HF2 HFB2 H152 H92
                      generalize wa.setCell ⟨b9, 3, none⟩ (.int .i64 ((r.short : Int) + 1)) = wb at HBF3 HF3 HFB3 H153 H93 ⊢
                      have x4 := H93.out.c4
                      have xf4 := H93.out.f 4
                      have y4 := H153.out.c4
                      go_wp2
                      obtain ⟨hs6, hw6'⟩ := H93.out.set4 (.int .i64 (mi + (r.many : Int)))
                      have HBF4 := Lib.hid (HBF3.out.new rfl hqt hst hb9 (Nat.le_refl _) hw6')
                      have HF4 := Lib.hid (HF3.out.within hw6' (.inl (by omega)))
                      have HFB4 := Lib.hid (HFB3.out.within hw6' (.inr (by omega)))
                      have H94 := Lib.hid hs6
                      clear hs6 hw6' HBF3 HF3 HFB3 H93
                      generalize wb.setCell ⟨b9, 4, none⟩ (.int .i64 (mi + (r.many : Int))) = wc at HBF4 HF4 HFB4 H94 ⊢
                      go_roundw
                      case rel => exact ⟨J + 1, T3, by omega, by go_num, by rw [HAI.out]; exact HSF.out, HF4, HT13, HRDn, by rw [HAI.out, HSE.out]; exact H94, HBF4, HFB4⟩
                      case measure => simp [intOf]; omega
                    · by_cases hs3 : (r.short : Int) + 1 < shi
                      · have HSE : Hid ((accStep ⟨true, li, shi, mi⟩ r).short = (r.short : Int) + 1) := Lib.hid (if_pos (.inr hs3))
                        go_upto_region 22 with (fail)
                        obtain ⟨hs5, hw5⟩ := H92.out.set3 (.int .i64 ((r.short : Int) + 1))
                        have HBF3 := Lib.hid (HBF2.out.new rfl hqt hst hb9 (Nat.le_refl _) hw5)
                        have HF3 := Lib.hid (HF2.out.within hw5 (.inl (by omega)))
                        have HFB3 := Lib.hid (HFB2.out.within hw5 (.inr (by omega)))
                        have H153 := Lib.hid (H152.out.within hw5 (.inr (by omega)))
                        have H93 := Lib.hid hs5
                        clear hs5 hw5 x3 x4 xf3 xf4 y3 y4 HBF2 HF2 HFB2 H152 H92
                        generalize wa.setCell ⟨b9, 3, none⟩ (.int .i64 ((r.short : Int) + 1)) = wb at HBF3 HF3 HFB3 H153 H93 ⊢
                        have x4 := H93.out.c4
                        have xf4 := H93.out.f 4
                        have y4 := H153.out.c4
                        go_wp2
                        obtain ⟨hs6, hw6'⟩ := H93.out.set4 (.int .i64 (mi + (r.many : Int)))
                        have HBF4 := Lib.hid (HBF3.out.new rfl hqt hst hb9 (Nat.le_refl _) hw6')
                        have HF4 := Lib.hid (HF3.out.within hw6' (.inl (by omega)))
                        have HFB4 := Lib.hid (HFB3.out.within hw6' (.inr (by omega)))
                        have H94 := Lib.hid hs6
                        clear hs6 hw6' HBF3 HF3 HFB3 H93
                        generalize wb.setCell ⟨b9, 4, none⟩ (.int .i64 (mi + (r.many : Int))) = wc at HBF4 HF4 HFB4 H94 ⊢
                        go_roundw
                        case rel => exact ⟨J + 1, T3, by omega, by go_num, by rw [HAI.out]; exact HSF.out, HF4, HT13, HRDn, by rw [HAI.out, HSE.out]; exact H94, HBF4, HFB4⟩
                        case measure => simp [intOf]; omega
                      · have HSE : Hid ((accStep ⟨true, li, shi, mi⟩ r).short = shi) := Lib.hid (if_neg (by rintro (h | h); exact hsh h; exact hs3 h))
                        go_upto_region 22 with (fail)
                        go_wp2
                        obtain ⟨hs6, hw6'⟩ := H92.out.set4 (.int .i64 (mi + (r.many : Int)))
                        have HBF4 := Lib.hid (HBF2.out.new rfl hqt hst hb9 (Nat.le_refl _) hw6')
                        have HF4 := Lib.hid (HF2.out.within hw6' (.inl (by omega)))
                        have HFB4 := Lib.hid (HFB2.out.within hw6' (.inr (by omega)))
                        have H94 := Lib.hid hs6
                        clear hs6 hw6' HBF2 HF2 HFB2 H92
                        generalize wa.setCell ⟨b9, 4, none⟩ (.int .i64 (mi + (r.many : Int))) = wc at HBF4 HF4 HFB4 H94 ⊢
                        go_roundw
                        case rel => exact ⟨J + 1, T3, by omega, by go_num, by rw [HAI.out]; exact HSF.out, HF4, HT13, HRDn, by rw [HAI.out, HSE.out]; exact H94, HBF4, HFB4⟩
                        case measure => simp [intOf]; omega
            · obtain rfl : J = 2 := by omega
              have hJI : ¬ ((2 : Nat) : Int) < 2 := by omega
              have HSTx := HST
              generalize accIn ⟨as0, al0, ash0, am0⟩ (raceL M qs (afters zs (M : Int) q false)) (raceL M qs (afters zs (M : Int) q true)) 2 = ai at H9 HST ⊢
              clear HSTx
              obtain ⟨si, li, shi, mi⟩ := ai
              simp only at H9 HST
              have x1 := H9.out.c1
              have xf1 := H9.out.f 1
              obtain ⟨hs1, hw1⟩ := H9.out.set1 (.bool (as0 || si))
              have HBF2 := Lib.hid (HBF.out.new rfl hqt hst hb9 (Nat.le_refl _) hw1)
              have HF2 := Lib.hid (HF.out.within hw1 (.inl (by omega)))
              have H92 := Lib.hid hs1
              clear hs1 hw1 HBF HF H9 HFB
              have HPV2 : Hid (∀ (j : Nat) (h : j < (choL qs zs).length), j < k + 1 → ∀ y, T2 (keyS M (afters zs (M : Int) (choL qs zs)[j] y)) = true) := Lib.hid (fun j h hj y => by
                by_cases e : j = k
                · subst e; rw [HQE.out]; exact HRD.out y (by cases y <;> simp)
                · exact HT2.out _ (HPV.out j h (by omega) y))
              have HTT := Lib.hid (fun j h => HT2.out j (HT1.out j h))
              clear HPV HT1 HT2 HRD HRq HAq HDq HWq HNq HEQ HRC HAF HDA HDW HNR HFR HAB
              cases as0
              · simp only [Bool.false_or] at H92 HST HBF2 HF2
                go_wp2
                generalize w6.setCell ⟨b9, 1, none⟩ (.bool si) = wd at HBF2 HF2 H92 ⊢
                go_roundw
                case rel => exact ⟨k + 1, T2, by omega, by go_num, HF2, HTT, HPV2, by rw [HST.out]; exact H92, HBF2⟩
                case measure => simp [intOf]; omega
              · simp only [Bool.true_or] at H92 HST HBF2 HF2
                go_wp2
                generalize w6.setCell ⟨b9, 1, none⟩ (.bool true) = wd at HBF2 HF2 H92 ⊢
                go_roundw
                case rel => exact ⟨k + 1, T2, by omega, by go_num, HF2, HTT, HPV2, by rw [HST.out]; exact H92, HBF2⟩
                case measure => simp [intOf]; omega
        · obtain rfl : k = (choL qs zs).length := by omega
          have hltI : ¬ ((choL qs zs).length : Int) < ((choL qs zs).length : Int) := by omega
          obtain ⟨r, hr⟩ : ∃ r, raceL M qs zs = r := ⟨_, rfl⟩
          have HRr := Lib.hid hr
          have HAL : Hid (accTo (raceB M qs zs) (choL qs zs) (choL qs zs).length = ⟨r.wins, r.long, r.short, r.many⟩) := Lib.hid (by
            have h1 := HEQ.out
            rw [hr] at h1
            obtain ⟨l, hl⟩ : ∃ l, (choL qs zs).length = l + 1 := ⟨(choL qs zs).length - 1, by have := List.length_pos_iff.2 HCH0.out; omega⟩
            rw [hl] at h1 ⊢
            rw [h1]; rfl)
          rw [HAL.out] at H9
          simp only at H9
          have HCL : Hid (∀ q ∈ choL qs zs, ∀ y, T1 (keyS M (afters zs (M : Int) q y)) = true) := Lib.hid (fun q hqm y => by obtain ⟨j, hj, rfl⟩ := List.getElem_of_mem hqm; exact HPV.out j hj hj y)
          clear hr HAL HEQ HPV HRC HAF HDA HDW HNR HFR HAB HCH0 hneI
          have HPT : Hid (FTab (((((w5.setCell ⟨B, κ * 5, none⟩ (.bool true)).setCell ⟨B, κ * 5 + 1, none⟩ (.bool r.wins)).setCell ⟨B, κ * 5 + 2, none⟩ (.int .i64 (r.long : Int))).setCell ⟨B, κ * 5 + 3, none⟩ (.int .i64 (r.short : Int))).setCell ⟨B, κ * 5 + 4, none⟩ (.int .i64 (r.many : Int))) B M zs.length qs (fun j => T1 j || decide (j = κ)) ∧ Within B (B + 1) w5 (((((w5.setCell ⟨B, κ * 5, none⟩ (.bool true)).setCell ⟨B, κ * 5 + 1, none⟩ (.bool r.wins)).setCell ⟨B, κ * 5 + 2, none⟩ (.int .i64 (r.long : Int))).setCell ⟨B, κ * 5 + 3, none⟩ (.int .i64 (r.short : Int))).setCell ⟨B, κ * 5 + 4, none⟩ (.int .i64 (r.many : Int)))) := Lib.hid (by have h := HF.out.put HSH.out rfl HCL.out; rw [HRr.out, ← HKE.out] at h; exact h)
          have HFV : Hid (Value.agg #[.bool true, .bool r.wins, .int .i64 (r.long : Int), .int .i64 (r.short : Int), .int .i64 (r.many : Int)] = fV (raceL M qs zs)) := Lib.hid (by rw [HRr.out]; rfl)
          have h5 := HF.out.at5 HSH.out rfl
          rw [← HKE.out] at h5
          have g0 := h5.c0
          have gf0 := HF.out.free (κ * 5)
          have n0 := H9.out.c0
          have g1 := h5.c1
          have gf1 := HF.out.free (κ * 5 + 1)
          have n1 := H9.out.c1
          have g2 := h5.c2
          have gf2 := HF.out.free (κ * 5 + 2)
          have n2 := H9.out.c2
          have g3 := h5.c3
          have gf3 := HF.out.free (κ * 5 + 3)
          have n3 := H9.out.c3
          have g4 := h5.c4
          have gf4 := HF.out.free (κ * 5 + 4)
          have n4 := H9.out.c4
          clear h5
          have hlt9 := H9.out.lt
          go_upto_region 25 with (fail)
          have HO5 := Lib.hid (HBF.out.ho.within HPT.out.2 (.inr (by omega)))
          have H95 := Lib.hid (H9.out.within HPT.out.2 (.inr (by omega)))
          have HW5 := Lib.hid (HBF.out.wi.trans HPT.out.2)
          have HFT := Lib.hid HPT.out.1
          clear g0 gf0 n0 g1 gf1 n1 g2 gf2 n2 g3 gf3 n3 g4 gf4 n4 HPT HBF HF H9
          generalize ((((w5.setCell ⟨B, κ * 5, none⟩ (.bool true)).setCell ⟨B, κ * 5 + 1, none⟩ (.bool r.wins)).setCell ⟨B, κ * 5 + 2, none⟩ (.int .i64 (r.long : Int))).setCell ⟨B, κ * 5 + 3, none⟩ (.int .i64 (r.short : Int))).setCell ⟨B, κ * 5 + 4, none⟩ (.int .i64 (r.many : Int)) = wg at HO5 H95 HW5 HFT ⊢
          have n0 := H95.out.c0
          have z0 := HO5.out.c0
          have zf0 := HO5.out.f 0
          have n1 := H95.out.c1
          have z1 := HO5.out.c1
          have zf1 := HO5.out.f 1
          have n2 := H95.out.c2
          have z2 := HO5.out.c2
          have zf2 := HO5.out.f 2
          have n3 := H95.out.c3
          have z3 := HO5.out.c3
          have zf3 := HO5.out.f 3
          have n4 := H95.out.c4
          have z4 := HO5.out.c4
          have zf4 := HO5.out.f 4
          go_wp2
          obtain ⟨hs, hw⟩ := HO5.out.set (.bool true) (.bool r.wins) (.int .i64 (r.long : Int)) (.int .i64 (r.short : Int)) (.int .i64 (r.many : Int))
          have hft := HFT.out.within hw (.inl (by omega))
          have hwf := within_newR (lo := B) (hi := B + 1) HW5.out hw (by omega)
          generalize ((((wg.setCell ⟨w.heap.size + 1, 0, none⟩ (.bool true)).setCell ⟨w.heap.size + 1, 1, none⟩ (.bool r.wins)).setCell ⟨w.heap.size + 1, 2, none⟩ (.int .i64 (r.long : Int))).setCell ⟨w.heap.size + 1, 3, none⟩ (.int .i64 (r.short : Int))).setCell ⟨w.heap.size + 1, 4, none⟩ (.int .i64 (r.many : Int)) = wf at hs hw hft hwf ⊢
          have e0 := hs.c0
          have e1 := hs.c1
          have e2 := hs.c2
          have e3 := hs.c3
          have e4 := hs.c4
          refine bodyPost_ret (v := .agg #[.bool true, .bool r.wins, .int .i64 (r.long : Int), .int .i64 (r.short : Int), .int .i64 (r.many : Int)]) (by simp [results, go_sem, e0, e1, e2, e3, e4]) rfl ?_
          exact ⟨congrArg Ending.returned HFV.out, ⟨_, hft, fun k h => by simp [HT1.out k h], by rw [← HKE.out]; simp⟩, hwf⟩
theorem l11Fill_less (qs : List Int) (n : Nat) (hq : ∀ q ∈ qs, qOK n q = true) (hq5 : qs.length ≤ 5) : ∀ m, FLess m qs n
  | 0 => fun M zs hs hn h => absurd h (by omega)
  | m + 1 => l11Fill_step m qs n (l11Fill_less qs n hq hq5 m) hq hq5
theorem l11Fill_any (M : Nat) (qs zs : List Int) (hs : Short M zs) (hq : ∀ q ∈ qs, qOK zs.length q = true) (hq5 : qs.length ≤ 5) : FillC M zs.length qs zs :=
  l11Fill_less qs zs.length hq hq5 (massL M zs + 1) M zs hs rfl (Nat.lt_succ_self _)
end Go.Proofs.Ytopgccficjkenaa
