/- l11Winning; WinningQuestions: both. -/
import Derived.Test.YtopgccficjkenaaL11W
import Derived.Deep.AppendLies
import Derived.Deep.RegionHeld3
namespace Go.Proofs.Ytopgccficjkenaa
open Go.RowKit Go.ChangeShapes Go.WideShapes Go.Maps
set_option linter.unusedVariables false


set_option maxRecDepth 100000 in
set_option maxHeartbeats 16000000 in
theorem l11Winning_any (A : Option Addr) (c lo hi : Nat) (zs : List Int) (M B ct : Nat) (Q : Option Addr) (cq lo2 hi2 : Nat) (qs : List Int) (T : Nat → Bool) (w : World) (hS : Ins w lo hi A zs) (hQ : Ins w lo2 hi2 Q qs) (hT : FTab w B M zs.length qs T) (hs : Short M zs) (hq5 : qs.length ≤ 5) (hTk : T (keyS M zs) = true) :
    Calls Try.prog 69 #[.agg #[.slice A zs.length c, .int .i64 (M : Int)], .slice Q qs.length cq, .slice (some ⟨B, 0, none⟩) ((M + 2) ^ zs.length) ct] w fun e w' => ∃ F c', e = .returned (.slice F (winL M qs zs).length c') ∧ (winL M qs zs).length ≤ c' ∧ Res w' w.heap.size w'.heap.size F (winL M qs zs) ∧ Below w.heap.size w w' := by
  obtain ⟨i0, hi0, hz0, hz1, hz2⟩ := info_parts infoI3
  have hBw := hT.lt
  have hst := hS.top
  have hl5 := hs.len
  have HT := Lib.hid (Two.new w (.slice A zs.length c) (.int .i64 (M : Int)) 26 w.heap.size rfl)
  have HB := Lib.hid ((Below.refl w.heap.size w).alloc (Nat.le_refl _) (.cells #[.slice A zs.length c, .int .i64 (M : Int)] 26))
  have HQ := Lib.hid (hQ.step HB.out)
  have HS := Lib.hid (hS.step HB.out)
  have HF := Lib.hid (hT.step HB.out)
  have HCH := Lib.hid (fun W h1 h2 => l11Choices_any A c lo hi zs (M : Int) Q cq lo2 hi2 qs W h1 h2 (by omega) (by omega))
  have HLO := Lib.hid (fun q hqm W h1 h2 => l11Losing_any A c lo hi zs M B ct qs q T W h1 h2 hs hqm hTk)
  have hL5 : (choL qs zs).length ≤ 5 := Nat.le_trans (List.length_filter_le _ _) hq5
  obtain ⟨top, htp⟩ : ∃ t, t = (M + 2) ^ zs.length := ⟨_, rfl⟩
  rw [← htp] at HLO ⊢
  clear htp
  clear hS hQ hT hs hTk
  go_enter Try.func69, Try.ntmps69
  go_upto_region 1 with (fail)
  generalize w.alloc (.cells #[.slice A zs.length c, .int .i64 (M : Int)] 26) = w0 at HT HB HQ HS HF ⊢
  have hlt0 := HT.out.lt
  have O0 := Lib.hid (O0_any w0 w0.heap.size (Nat.le_refl _))
  have hb := (Below.refl w0.heap.size w0).alloc (Nat.le_refl _) (.cells #[] 3)
  have hzw : w0.heap.size < (w0.alloc (.cells #[] 3)).heap.size := by simp
  have t0 := HT.out.c0
  have t1 := HT.out.c1
  go_wp2_with fail
  replace HT := Lib.hid (HT.out.step hb)
  replace HQ := Lib.hid (HQ.out.step hb)
  replace HS := Lib.hid (HS.out.step hb)
  replace HF := Lib.hid (HF.out.step hb)
  replace HB := Lib.hid (below_trans HB.out hb)
  clear hb t0 t1
  generalize hbs : w0.heap.size = base at O0 hlt0 hzw ⊢
  clear hbs
  generalize w0.alloc (.cells #[] 3) = w2 at O0 HT HQ HS HF HB hzw ⊢
  with_reducible refine (HCH.out w2 HS.out HQ.out).mono ?_
  rintro e w3 ⟨C, c3, rfl, _, hr, hb⟩
  have HSW : Hid (SW11 w.heap.size B A c lo hi zs M qs T C w2.heap.size w3.heap.size w w3) := Lib.hid ⟨HT.out.step hb, HS.out.step hb, HF.out.step hb, hr.ins, below_trans HB.out hb⟩
  have HCT0 : Hid (∀ a, C = some a → w2.heap.size ≤ a.block ∧ a.block < w3.heap.size) := Lib.hid (fun a ha => by
    rcases hr.own with ⟨e, _⟩ | ⟨g, cur, e, h1, h2, _⟩
    · rw [e] at ha; cases ha
    · rw [e] at ha; injection ha with ha; subst ha; exact ⟨h1, h2⟩)
  have HCB := Lib.hid (fun a ha => Nat.lt_of_lt_of_le hzw (HCT0.out a ha).1)
  replace O0 := Lib.hid (own_belowR O0.out hb)
  have hszb := hb.size
  clear hb hr HT HQ HS HF HB HCH
  obtain ⟨L3, hL3⟩ : ∃ s, s = w3.heap.size := ⟨_, rfl⟩
  have hL3' : L3 ≤ w3.heap.size := by omega
  rw [← hL3] at HCT0 HSW
  have hbL3 : base < L3 := by omega
  clear hL3
  generalize w2.heap.size = L2 at HSW HCT0 hzw
  go_wp2_with fail
  go_loopw [7, 9] (fun out i wr => ∃ (k : Nat), k ≤ (choL qs zs).length ∧ i = .int .i64 (k : Int) ∧ Hid (wr.ownsRow base 3 1 out (winTo M qs zs k).length ((winTo M qs zs k).map (Value.int .i64))) ∧ Hid (∀ a, C = some a → out.ownBlock ≠ some a.block) ∧ L3 ≤ wr.heap.size ∧ Hid (SW11 w.heap.size B A c lo hi zs M qs T C L2 L3 w wr)) (fun _ i _ => (choL qs zs).length - (intOf i).toNat)
  case atStart => exact ⟨0, Nat.zero_le _, rfl, O0, Lib.hid (fun a ha e => by have e2 : base = a.block := (by injection e); have := HCB.out a ha; omega), hL3', HSW⟩
  case round =>
    clear O0 HSW hL3'
    obtain ⟨k, hk, rfl, HO, HNE, hL3', HSW⟩ := hrel
    rename World => w4
    by_cases hlt : k < (choL qs zs).length
    · have hltI : (k : Int) < ((choL qs zs).length : Int) := by omega
      obtain ⟨b3, o3, hCe, _, _, hc⟩ := HSW.out.ci.ints.at_ hlt
      subst hCe
      obtain ⟨q, hqe⟩ : ∃ q, (choL qs zs)[k] = q := ⟨_, rfl⟩
      rw [hqe] at hc
      have HCX := Lib.hid (CelR.mk hc)
      clear hc
      have hqm : q ∈ choL qs zs := by rw [← hqe]; exact List.getElem_mem _
      obtain ⟨rb, hr⟩ : ∃ r, (raceB M qs zs q).wins = r := ⟨_, rfl⟩
      have HST := Lib.hid (winTo_step (b := rb) hlt (by rw [hqe, hr]))
      rw [hqe] at HST
      have hfl := winTo_len M qs zs k
      have HLq := Lib.hid (fun W h1 h2 => HLO.out q hqm W h1 h2)
      have hll : (((loseL M qs zs q).length : Int) == 0) = rb := by rw [lose_len]; exact hr
      clear hr hqm hqe
      generalize winTo M qs zs k = fr at HO HST hfl
      generalize loseL M qs zs q = ll at HLq hll
      go_wp2_with fail
      go_region_held3 (fun w' => w'.cell? ⟨w.heap.size, 0, none⟩ = some (.slice A zs.length c) ∧ w'.cell? ⟨w.heap.size, 1, none⟩ = some (.int .i64 (M : Int)) ∧ w'.cell? ⟨b3, o3 + k, none⟩ = some (.int .i64 q))
        (first | exact ⟨(HSW.out.step (Below.refl _ w4).drew).ht.c0, (HSW.out.step (Below.refl _ w4).drew).ht.c1, (HCX.out.step (Below.refl _ w4).drew).c⟩ | exact ⟨HSW_1.out.ht.c0, HSW_1.out.ht.c1, HCX_1.out.c⟩)
        ((go_at_call 81; (with_reducible refine (HLq.out w4.drew (HSW.out.step (Below.refl _ w4).drew).si (HSW.out.step (Below.refl _ w4).drew).ft).mono ?_); rintro e w5 ⟨F, cF, rfl, _, _, hb⟩; have HZ1 := Lib.hid (below_trans (Below.refl _ w4).drew hb); have HSW_1 := Lib.hid (HSW.out.step HZ1.out); have HCX_1 := Lib.hid (HCX.out.step HZ1.out); clear hb))
      all_goals
        have hsz5 := HZ1.out.size
        have HO5 := Lib.hid (own_belowR HO.out HZ1.out)
        have hcx := HCX_1.out.c
        have HCT := Lib.hid (fun a ha => Nat.lt_of_lt_of_le (HCT0.out a ha).2 (Nat.le_trans hL3' hsz5))
        have hbw5 : base ≤ w5.heap.size := by omega
        clear HO HSW HCX HCX_1 HZ1 HLq
        cases rb with
        | true =>
          go_wp2_with (at_builtin; refine wpList_append_lies _ rfl (.tmp 29) (.tmp 34) 24 rfl base 3 i0 (.int .i64 0) 1 8 Try.underlying24 hi0 hz0 hz1 hz2 rfl (by decide) _ fr.length (fr.map (Value.int .i64)) rfl (HO5.out.alloc _) ⟨w5.heap.size, 0, none⟩ 1 1 [.int .i64 q] rfl rfl (cell_one_new _ _ _) (by simp [Value.oneCell']) (by decide) (by unfold maxLen; omega) (by omega) (by simp; omega) _ rfl ?_; intro ga ca wa hown ha hblk hlta)
          have hbo := (Below.refl w5.heap.size w5).alloc (Nat.le_refl _) (.cells #[.int .i64 q] 3)
          have HSW2 := Lib.hid ((HSW_1.out.step hbo).grown (HO5.out.alloc _) ha HNE.out (by omega) (by omega) (by omega) (by omega))
          have HO2 := Lib.hid (own_snocI hown rfl)
          have HNE2 : Hid (∀ a, (some ⟨b3, o3, none⟩ : Option Addr) = some a → (Value.slice (some ⟨ga, 0, none⟩) (fr.length + 1) ca).ownBlock ≠ some a.block) := Lib.hid (fun a hCa e => by
            have e2 : ga = a.block := by injection e
            rcases hblk with h | h
            · exact HNE.out a hCa (by rw [← e2]; exact h)
            · have := HCT.out a hCa; simp at h; omega)
          have hL3a : L3 ≤ wa.heap.size := Nat.le_trans (Nat.le_trans hL3' hsz5) (Nat.le_trans hbo.size ha.size)
          clear hown ha hblk hlta hbo HO5 HSW_1 HNE hcx
          go_wp2
          go_roundw
          case rel => exact ⟨k + 1, by omega, by go_num, Lib.hid (by rw [HST.out]; exact HO2.out), HNE2, hL3a, HSW2⟩
          case measure => simp [intOf]; omega
        | false =>
          have HSTe : Hid (winTo M qs zs (k + 1) = fr) := Lib.hid (HST.out.trans (by simp))
          clear hcx
          go_wp2
          go_roundw
          case rel => exact ⟨k + 1, by omega, by go_num, Lib.hid (by rw [HSTe.out]; exact HO5.out), HNE, Nat.le_trans hL3' hsz5, HSW_1⟩
          case measure => simp [intOf]; omega
    · obtain rfl : k = (choL qs zs).length := by omega
      have hltI : ¬ ((choL qs zs).length : Int) < ((choL qs zs).length : Int) := by omega
      rw [winTo_full] at HO
      obtain ⟨F, c', rfl, hcap, hr⟩ := own_res HO.out rfl
      have HX := Lib.hid (show Res w4 w.heap.size w4.heap.size F (winL M qs zs) from ⟨hr.own.wide (by omega) (Nat.le_refl _), Nat.le_refl _⟩)
      have HB := Lib.hid HSW.out.bl
      have HCap := Lib.hid hcap
      clear hr hcap HO HNE HSW
      go_wp2
      go_ret
      first | exact ⟨_, _, rfl, HCap.out, HX.out, HB.out⟩ | exact ⟨_, ⟨_, rfl⟩, HCap.out, HX.out, HB.out⟩ | exact ⟨⟨_, rfl⟩, HCap.out, HX.out, HB.out⟩ | exact ⟨rfl, HCap.out, HX.out, HB.out⟩ | exact ⟨HCap.out, HX.out, HB.out⟩
set_option maxRecDepth 100000 in
set_option maxHeartbeats 8000000 in
theorem winningAt_nil (A : Option Addr) (c lo hi : Nat) (zs : List Int) (m : Int) (w : World) (hS : Ins w lo hi A zs) :
    Calls Try.prog 68 #[.agg #[.slice none 0 0, .map none], .agg #[.slice A zs.length c, .int .i64 m]] w fun e w' => ∃ F c', e = .returned (.slice F 0 c') ∧ Res w' w.heap.size w'.heap.size F [] ∧ Below w.heap.size w w' := by
  have HR := Lib.hid (Two.new w (.slice none 0 0) (.map none) 81 w.heap.size rfl)
  have HB := Lib.hid ((Below.refl w.heap.size w).alloc (Nat.le_refl _) (.cells #[.slice none 0 0, .map none] 81))
  have HT := Lib.hid (Two.new (w.alloc (.cells #[.slice none 0 0, .map none] 81)) (.slice A zs.length c) (.int .i64 m) 26 (w.heap.size + 1) (by simp))
  replace HR := Lib.hid (HR.out.step ((Below.refl _ _).alloc (Nat.le_refl _) (.cells #[.slice A zs.length c, .int .i64 m] 26)))
  replace HB := Lib.hid (HB.out.alloc HB.out.size (.cells #[.slice A zs.length c, .int .i64 m] 26))
  have HS := Lib.hid (hS.step HB.out)
  have HCH := Lib.hid (fun W h2 => choicesAt_any none 0 0 0 [] (.map none) A c lo hi zs m W ⟨Ints.nil, Nat.zero_le _⟩ h2 (by simp) (.inl rfl))
  have hnil : choL [] zs = [] := rfl
  rw [hnil] at HCH
  simp only [List.length_nil] at HCH
  clear hnil hS
  go_enter Try.func68, Try.ntmps68
  go_upto_region 1 with (fail)
  generalize (w.alloc (.cells #[.slice none 0 0, .map none] 81)).alloc (.cells #[.slice A zs.length c, .int .i64 m] 26) = w0 at HR HT HB HS ⊢
  go_upto_region 2 with (fail)
  have hsz := HB.out.size
  have HX := Lib.hid (empty_res w0 w.heap.size hsz)
  have hb := (Below.refl w0.heap.size w0).alloc (Nat.le_refl _) (.cells #[] 3)
  replace HR := Lib.hid (HR.out.step hb)
  replace HT := Lib.hid (HT.out.step hb)
  replace HS := Lib.hid (HS.out.step hb)
  replace HB := Lib.hid (below_trans HB.out hb)
  clear hb
  generalize w0.heap.size = g0 at HX ⊢
  generalize w0.alloc (.cells #[] 3) = w2 at HX HR HT HS HB ⊢
  have x0 := HR.out.c0
  have x1 := HR.out.c1
  have t0 := HT.out.c0
  have t1 := HT.out.c1
  go_wp2_with fail
  with_reducible refine (HCH.out w2 HS.out).mono ?_
  rintro e w3 ⟨C, c3, rfl, _, hr, hb⟩
  replace HX := Lib.hid (HX.out.step hb)
  replace HB := Lib.hid (below_trans HB.out hb)
  clear hb hr HR HT HS x0 x1 t0 t1 HCH
  go_wp2_with fail
  go_loopw [5, 13] (fun x i wr => x = .slice (some ⟨g0, 0, none⟩) 0 0 ∧ i = .int .i64 0 ∧ wr = w3) (fun _ _ _ => 0)
  case atStart => exact ⟨rfl, rfl, rfl⟩
  case round =>
    obtain ⟨rfl, rfl, rfl⟩ := hrel
    rename World => w3
    have HX2 := Lib.hid (show Res w3 w.heap.size w3.heap.size (some ⟨g0, 0, none⟩) [] from ⟨HX.out.own.wide (Nat.le_refl _) HX.out.top, Nat.le_refl _⟩)
    go_wp2
    go_ret
    first | exact ⟨_, _, rfl, HX2.out, HB.out⟩ | exact ⟨_, ⟨_, rfl⟩, HX2.out, HB.out⟩ | exact ⟨⟨_, rfl⟩, HX2.out, HB.out⟩ | exact ⟨rfl, HX2.out, HB.out⟩ | exact ⟨_, rfl, HX2.out, HB.out⟩ | exact ⟨HX2.out, HB.out⟩
set_option maxRecDepth 100000 in
set_option maxHeartbeats 8000000 in
theorem winningQuestions_impl_no (A : Option Addr) (c lo hi : Nat) (zs : List Int) (m : Int) (Q : Option Addr) (cq lo2 hi2 : Nat) (qs : List Int) (w : World) (hS : Ins w lo hi A zs) (hQ : Ins w lo2 hi2 Q qs) (hl : zs.length ≤ 1048576) (hn : qs.length ≤ 1048576) (hg : (beginB zs m && choB zs.length qs) = false) :
    Calls Try.prog 19 #[.agg #[.slice A zs.length c, .int .i64 m], .slice Q qs.length cq] w fun e w' => ∃ F c', e = .returned (.tuple #[.slice F (([] : List Int)).length c', .bool false]) ∧ Res w' w.heap.size w'.heap.size F ([]) ∧ Below w.heap.size w w' := by
  have HT := Lib.hid (Two.new w (.slice A zs.length c) (.int .i64 m) 26 w.heap.size rfl)
  have HB := Lib.hid ((Below.refl w.heap.size w).alloc (Nat.le_refl _) (.cells #[.slice A zs.length c, .int .i64 m] 26))
  have HQ := Lib.hid (hQ.step HB.out)
  have HS := Lib.hid (hS.step HB.out)
  have hqt := hQ.top
  have hst := hS.top
  have HRF := Lib.hid (fun W h1 h2 => raceFrom_no A c lo hi zs m Q cq lo2 hi2 qs W h1 h2 hl hn hg)
  have HWA := Lib.hid (fun W h => winningAt_nil A c lo hi zs m W h)
  clear hS hQ hg
  go_enter Try.func19, Try.ntmps19
  go_wp2_with fail
  generalize w.alloc (.cells #[.slice A zs.length c, .int .i64 m] 26) = w0 at HT HB HQ HS ⊢
  have t0 := HT.out.c0
  have t1 := HT.out.c1
  go_wp2_with fail
  with_reducible refine (HRF.out w0 HS.out HQ.out).mono ?_
  rintro e w1 ⟨rfl, hb⟩
  replace HT := Lib.hid (HT.out.step hb)
  replace HQ := Lib.hid (HQ.out.step hb)
  replace HS := Lib.hid (HS.out.step hb)
  replace HB := Lib.hid (below_trans HB.out hb)
  clear hb t0 t1 HRF
  go_upto_region 2 with (fail)
  have HN := Lib.hid (Two.new w1 (.slice none 0 0) (.map none) 81 w1.heap.size rfl)
  have hb := (Below.refl w1.heap.size w1).alloc (Nat.le_refl _) (.cells #[.slice none 0 0, .map none] 81)
  replace HT := Lib.hid (HT.out.step hb)
  replace HQ := Lib.hid (HQ.out.step hb)
  replace HS := Lib.hid (HS.out.step hb)
  replace HB := Lib.hid (below_trans HB.out hb)
  clear hb
  generalize w1.heap.size = b8 at HN ⊢
  generalize w1.alloc (.cells #[.slice none 0 0, .map none] 81) = w2 at HT HQ HS HB HN ⊢
  have t0 := HT.out.c0
  have t1 := HT.out.c1
  have n0 := HN.out.c0
  have n1 := HN.out.c1
  go_wp2_with fail
  with_reducible refine (HWA.out w2 HS.out).mono ?_
  rintro e w4 ⟨F, c', rfl, hr, hb⟩
  have hsz := HB.out.size
  have HX := Lib.hid (show Res w4 w.heap.size w4.heap.size F [] from ⟨hr.own.wide hsz (Nat.le_refl _), Nat.le_refl _⟩)
  replace HB := Lib.hid (below_trans HB.out hb)
  clear hr hb t0 t1 n0 n1
  go_wp2
  go_ret2
  first | exact ⟨_, _, rfl, HX.out, HB.out⟩ | exact ⟨_, ⟨_, rfl⟩, HX.out, HB.out⟩ | exact ⟨⟨_, rfl⟩, HX.out, HB.out⟩ | exact ⟨rfl, HX.out, HB.out⟩ | exact ⟨HX.out, HB.out⟩
set_option maxRecDepth 100000 in
set_option maxHeartbeats 16000000 in
theorem winningQuestions_spec_no (A : Option Addr) (c lo hi : Nat) (zs : List Int) (m : Int) (Q : Option Addr) (cq lo2 hi2 : Nat) (qs : List Int) (w : World) (hS : Ins w lo hi A zs) (hQ : Ins w lo2 hi2 Q qs) (hl : zs.length ≤ 1048576) (hn : qs.length ≤ 1048576) (hg : (beginB zs m && choB zs.length qs) = false) :
    Calls Try.prog 20 #[.agg #[.slice A zs.length c, .int .i64 m], .slice Q qs.length cq] w fun e w' => ∃ F c', e = .returned (.tuple #[.slice F (([] : List Int)).length c', .bool false]) ∧ Res w' w.heap.size w'.heap.size F ([]) ∧ Below w.heap.size w w' := by
  have HT := Lib.hid (Two.new w (.slice A zs.length c) (.int .i64 m) 26 w.heap.size rfl)
  have HB := Lib.hid ((Below.refl w.heap.size w).alloc (Nat.le_refl _) (.cells #[.slice A zs.length c, .int .i64 m] 26))
  have HQ := Lib.hid (hQ.step HB.out)
  have HS := Lib.hid (hS.step HB.out)
  have HG := Lib.hid (fun W h1 h2 => l11Good_any A c lo hi zs m Q cq lo2 hi2 qs W h1 h2 hl hn)
  rw [hg] at HG
  clear hS hQ hg
  go_enter Try.func20, Try.ntmps20
  go_wp2_with fail
  generalize w.alloc (.cells #[.slice A zs.length c, .int .i64 m] 26) = w0 at HT HB HQ HS ⊢
  have t0 := HT.out.c0
  have t1 := HT.out.c1
  go_wp2_with fail
  with_reducible refine (HG.out w0 HS.out HQ.out).mono ?_
  rintro e w1 ⟨rfl, hb⟩
  replace HT := Lib.hid (HT.out.step hb)
  replace HQ := Lib.hid (HQ.out.step hb)
  replace HS := Lib.hid (HS.out.step hb)
  replace HB := Lib.hid (below_trans HB.out hb)
  clear hb t0 t1 HG
  go_wp2
  have hsz := HB.out.size
  have HX := Lib.hid (empty_res w1 w.heap.size hsz)
  replace HB := Lib.hid (HB.out.alloc hsz (.cells #[] 3))
  go_ret2
  first | exact ⟨_, _, rfl, HX.out, HB.out⟩ | exact ⟨_, ⟨_, rfl⟩, HX.out, HB.out⟩ | exact ⟨⟨_, rfl⟩, HX.out, HB.out⟩ | exact ⟨rfl, HX.out, HB.out⟩ | exact ⟨HX.out, HB.out⟩
set_option maxRecDepth 100000 in
set_option maxHeartbeats 8000000 in
theorem winningQuestions_impl_yes (A : Option Addr) (c lo hi : Nat) (zs : List Int) (m : Int) (Q : Option Addr) (cq lo2 hi2 : Nat) (qs : List Int) (w : World) (hS : Ins w lo hi A zs) (hQ : Ins w lo2 hi2 Q qs) (hl : zs.length ≤ 1048576) (hn : qs.length ≤ 1048576) (hg : (beginB zs m && choB zs.length qs) = true) :
    Calls Try.prog 19 #[.agg #[.slice A zs.length c, .int .i64 m], .slice Q qs.length cq] w fun e w' => ∃ F c', e = .returned (.tuple #[.slice F (winL m.toNat qs zs).length c', .bool true]) ∧ Res w' w.heap.size w'.heap.size F (winL m.toNat qs zs) ∧ Below w.heap.size w w' := by
  have hg' := hg
  rw [Bool.and_eq_true] at hg'
  obtain ⟨M, rfl, hs, hd0⟩ := begin_short hg'.1
  rw [Int.toNat_natCast]
  have HT := Lib.hid (Two.new w (.slice A zs.length c) (.int .i64 (M : Int)) 26 w.heap.size rfl)
  have HB := Lib.hid ((Below.refl w.heap.size w).alloc (Nat.le_refl _) (.cells #[.slice A zs.length c, .int .i64 (M : Int)] 26))
  have HQ := Lib.hid (hQ.step HB.out)
  have HS := Lib.hid (hS.step HB.out)
  have hqt := hQ.top
  have hst := hS.top
  have HRF := Lib.hid (fun W h1 h2 => raceFrom_yes A c lo hi zs (M : Int) Q cq lo2 hi2 qs W h1 h2 hl hn hg)
  have HWA := Lib.hid (fun g W h1 h2 h3 h4 h5 => winningAt_any M qs zs hs (choB_ok hg'.2) (choB_len hg'.2).2 Q cq lo2 hi2 A c lo hi W g h1 h2 h3 h4 h5)
  clear hs hd0 hg'
  clear hS hQ hg
  go_enter Try.func19, Try.ntmps19
  go_wp2_with fail
  generalize w.alloc (.cells #[.slice A zs.length c, .int .i64 (M : Int)] 26) = w0 at HT HB HQ HS ⊢
  have t0 := HT.out.c0
  have t1 := HT.out.c1
  go_wp2_with fail
  with_reducible refine (HRF.out w0 HS.out HQ.out).mono ?_
  rintro e w1 ⟨g, rfl, hg, hm, hb⟩
  have HM := Lib.hid hm
  have hsz0 := HB.out.size
  replace HT := Lib.hid (HT.out.step hb)
  replace HQ := Lib.hid (HQ.out.step hb)
  replace HS := Lib.hid (HS.out.step hb)
  replace HB := Lib.hid (below_trans HB.out hb)
  clear hb t0 t1 HRF hm
  go_upto_region 2 with (fail)
  have HN := Lib.hid (Two.new w1 (.slice Q qs.length cq) (.map (some g)) 81 w1.heap.size rfl)
  have hb := (Below.refl w1.heap.size w1).alloc (Nat.le_refl _) (.cells #[.slice Q qs.length cq, .map (some g)] 81)
  replace HT := Lib.hid (HT.out.step hb)
  replace HQ := Lib.hid (HQ.out.step hb)
  replace HS := Lib.hid (HS.out.step hb)
  replace HM := Lib.hid (HM.out.step hb)
  replace HB := Lib.hid (below_trans HB.out hb)
  clear hb
  generalize w1.heap.size = b8 at HN ⊢
  generalize w1.alloc (.cells #[.slice Q qs.length cq, .map (some g)] 81) = w2 at HT HQ HS HB HN HM ⊢
  have t0 := HT.out.c0
  have t1 := HT.out.c1
  have n0 := HN.out.c0
  have n1 := HN.out.c1
  go_wp2_with fail
  with_reducible refine (HWA.out g w2 HM.out HQ.out (.inl (by omega)) HS.out (.inl (by omega))).mono ?_
  rintro e w4 ⟨F, c', rfl, _, hr, _, hw⟩
  have hsz := HB.out.size
  have HX := Lib.hid (show Res w4 w.heap.size w4.heap.size F (winL M qs zs) from ⟨hr.own.wide hsz (Nat.le_refl _), Nat.le_refl _⟩)
  replace HB := Lib.hid (HB.out.trans (hw.below (by omega) HB.out.size))
  clear hr hw t0 t1 n0 n1
  go_wp2
  go_ret2
  first | exact ⟨_, _, rfl, HX.out, HB.out⟩ | exact ⟨_, ⟨_, rfl⟩, HX.out, HB.out⟩ | exact ⟨⟨_, rfl⟩, HX.out, HB.out⟩ | exact ⟨rfl, HX.out, HB.out⟩ | exact ⟨HX.out, HB.out⟩
set_option maxRecDepth 100000 in
set_option maxHeartbeats 16000000 in
theorem winningQuestions_spec_yes (A : Option Addr) (c lo hi : Nat) (zs : List Int) (m : Int) (Q : Option Addr) (cq lo2 hi2 : Nat) (qs : List Int) (w : World) (hS : Ins w lo hi A zs) (hQ : Ins w lo2 hi2 Q qs) (hl : zs.length ≤ 1048576) (hn : qs.length ≤ 1048576) (hg : (beginB zs m && choB zs.length qs) = true) :
    Calls Try.prog 20 #[.agg #[.slice A zs.length c, .int .i64 m], .slice Q qs.length cq] w fun e w' => ∃ F c', e = .returned (.tuple #[.slice F (winL m.toNat qs zs).length c', .bool true]) ∧ Res w' w.heap.size w'.heap.size F (winL m.toNat qs zs) ∧ Below w.heap.size w w' := by
  have hg' := hg
  rw [Bool.and_eq_true] at hg'
  obtain ⟨M, rfl, hs, hd0⟩ := begin_short hg'.1
  have hl5 := hs.len
  rw [Int.toNat_natCast]
  have HT := Lib.hid (Two.new w (.slice A zs.length c) (.int .i64 (M : Int)) 26 w.heap.size rfl)
  have HB := Lib.hid ((Below.refl w.heap.size w).alloc (Nat.le_refl _) (.cells #[.slice A zs.length c, .int .i64 (M : Int)] 26))
  have HQ := Lib.hid (hQ.step HB.out)
  have HS := Lib.hid (hS.step HB.out)
  have HG := Lib.hid (fun W h1 h2 => l11Good_any A c lo hi zs (M : Int) Q cq lo2 hi2 qs W h1 h2 hl hn)
  rw [hg] at HG
  have HFc := Lib.hid (fun W h1 h2 => l11Facts_any A c lo hi zs M Q cq lo2 hi2 qs W h1 h2 hs (choB_ok hg'.2) (choB_len hg'.2).2)
  have HWI := Lib.hid (fun B ct T W h1 h2 h3 h4 => l11Winning_any A c lo hi zs M B ct Q cq lo2 hi2 qs T W h1 h2 h3 hs (choB_len hg'.2).2 h4)
  clear hs hd0 hg'
  clear hS hQ hg
  go_enter Try.func20, Try.ntmps20
  go_wp2_with fail
  generalize w.alloc (.cells #[.slice A zs.length c, .int .i64 (M : Int)] 26) = w0 at HT HB HQ HS ⊢
  have t0 := HT.out.c0
  have t1 := HT.out.c1
  go_wp2_with fail
  with_reducible refine (HG.out w0 HS.out HQ.out).mono ?_
  rintro e w1 ⟨rfl, hb⟩
  replace HT := Lib.hid (HT.out.step hb)
  replace HQ := Lib.hid (HQ.out.step hb)
  replace HS := Lib.hid (HS.out.step hb)
  replace HB := Lib.hid (below_trans HB.out hb)
  clear hb t0 t1 HG
  obtain ⟨top, htp⟩ : ∃ t, t = (M + 2) ^ zs.length := ⟨_, rfl⟩
  rw [← htp] at HFc HWI
  clear htp
  go_wp2_with fail
  go_region_held3 (fun w' => w'.cell? ⟨w.heap.size, 0, none⟩ = some (.slice A zs.length c) ∧ w'.cell? ⟨w.heap.size, 1, none⟩ = some (.int .i64 (M : Int)))
    (first | exact ⟨(HT.out.step (Below.refl _ w1).drew).c0, (HT.out.step (Below.refl _ w1).drew).c1⟩ | exact ⟨HT_1.out.c0, HT_1.out.c1⟩ | exact ⟨HT_2.out.c0, HT_2.out.c1⟩)
    (first
     | (go_at_call 69; (with_reducible refine (HWI.out g top T v1 (HS.out.step HZ1.out) (HQ.out.step HZ1.out) HFT.out HTK.out).mono ?_); rintro e v2 ⟨F, c', rfl, _, hr, hb⟩; have HZ2 := Lib.hid (below_trans HZ1.out hb); have hz1 := HZ1.out.size; have HT_2 := Lib.hid (HT.out.step HZ2.out); have HRR := Lib.hid hr; clear hb hr)
     | (go_at_call 65; (with_reducible refine (HFc.out w1.drew (HS.out.step (Below.refl _ w1).drew) (HQ.out.step (Below.refl _ w1).drew)).mono ?_); rintro e v1 ⟨g, T, rfl, hg, hf, htk, hb⟩; have HZ1 := Lib.hid (below_trans (Below.refl _ w1).drew hb); have HT_1 := Lib.hid (HT.out.step HZ1.out); have HFT := Lib.hid hf; have HTK := Lib.hid htk; clear hb hf htk))
  all_goals
    have hsz := HB.out.size
    have HX := Lib.hid (show Res v2 w.heap.size v2.heap.size F (winL M qs zs) from ⟨HRR.out.own.wide (by omega) (Nat.le_refl _), Nat.le_refl _⟩)
    replace HB := Lib.hid (below_trans HB.out HZ2.out)
    go_wp2
    go_ret2
    first | exact ⟨_, _, rfl, HX.out, HB.out⟩ | exact ⟨_, ⟨_, rfl⟩, HX.out, HB.out⟩ | exact ⟨⟨_, rfl⟩, HX.out, HB.out⟩ | exact ⟨rfl, HX.out, HB.out⟩ | exact ⟨HX.out, HB.out⟩
theorem winningQuestions_both (zs : List Int) (m : Int) (h : zs.length ≤ 1048576) (qs : List Int) (h2 : qs.length ≤ 1048576) : ∃ (r0 : List Int) (r1 : Bool), r0.length ≤ 1048576 ∧
    (∀ (w : World) (B : Option Addr) (c lo hi : Nat) (B2 : Option Addr) (c2 lo2 hi2 : Nat), Ins w lo hi B zs → Ins w lo2 hi2 B2 qs → Calls Try.prog 19 #[.agg #[.slice B zs.length c, .int .i64 m], .slice B2 qs.length c2] w fun e w' => ∃ B c', e = .returned (.tuple #[.slice B r0.length c', .bool r1]) ∧ Res w' w.heap.size w'.heap.size B r0 ∧ Below w.heap.size w w') ∧
    (∀ (w : World) (B : Option Addr) (c lo hi : Nat) (B2 : Option Addr) (c2 lo2 hi2 : Nat), Ins w lo hi B zs → Ins w lo2 hi2 B2 qs → Calls Try.prog 20 #[.agg #[.slice B zs.length c, .int .i64 m], .slice B2 qs.length c2] w fun e w' => ∃ B c', e = .returned (.tuple #[.slice B r0.length c', .bool r1]) ∧ Res w' w.heap.size w'.heap.size B r0 ∧ Below w.heap.size w w') := by
  cases hg : (beginB zs m && choB zs.length qs) with
  | false => exact ⟨[], false, by simp, fun w B c lo hi B2 c2 lo2 hi2 hS hS2 => winningQuestions_impl_no B c lo hi zs m B2 c2 lo2 hi2 qs w hS hS2 h h2 hg, fun w B c lo hi B2 c2 lo2 hi2 hS hS2 => winningQuestions_spec_no B c lo hi zs m B2 c2 lo2 hi2 qs w hS hS2 h h2 hg⟩
  | true => exact ⟨winL m.toNat qs zs, true, Nat.le_trans (List.length_filter_le _ _) (Nat.le_trans (List.length_filter_le _ _) h2), fun w B c lo hi B2 c2 lo2 hi2 hS hS2 => winningQuestions_impl_yes B c lo hi zs m B2 c2 lo2 hi2 qs w hS hS2 h h2 hg, fun w B c lo hi B2 c2 lo2 hi2 hS hS2 => winningQuestions_spec_yes B c lo hi zs m B2 c2 lo2 hi2 qs w hS hS2 h h2 hg⟩

end Go.Proofs.Ytopgccficjkenaa
