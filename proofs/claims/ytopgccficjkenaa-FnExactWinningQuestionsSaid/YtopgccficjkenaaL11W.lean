/- Winning questions: both. -/
import Derived.Test.YtopgccficjkenaaL11Z
import Derived.Deep.AppendLies
import Derived.Deep.RegionHeld3
import Derived.Deep.DeepMust
namespace Go.Proofs.Ytopgccficjkenaa
open Go.RowKit Go.ChangeShapes Go.WideShapes Go.Maps
set_option linter.unusedVariables false


theorem ins_grown11 {lo hi base k : Nat} {C : Option Addr} {l : List Int} {W W' : World} {v : Value} {e : TypeId} {xs : List Value} (h : Ins W lo hi C l) (hr : W.ownsRow base e 1 v k xs) (hg : W.grownBy W' v.ownBlock) (hne : ∀ a, C = some a → v.ownBlock ≠ some a.block) : Ins W' lo hi C l := by
  have hw1 := within_grown hr hg
  refine ⟨fun h0 => ?_, Nat.le_trans h.top hw1.size⟩
  obtain ⟨b, o, he, h1, h2, hc⟩ := h.ints h0
  have hb : W'.heap[b]? = W.heap[b]? := hg.block b (Nat.lt_of_lt_of_le h2 h.top) (fun e => hne _ he e.symm)
  exact ⟨b, o, he, h1, h2, fun j x hx => (World.cell?_of_block hb).trans (hc j x hx)⟩
/-- What stands still while winning questions are gathered. -/
structure VW11 (n B : Nat) (Q : Option Addr) (cq lo2 hi2 : Nat) (qs : List Int) (A : Option Addr) (c lo hi : Nat) (zs : List Int) (M : Nat) (C : Option Addr) (lo3 hi3 : Nat) (w W : World) : Prop where
  hr : Two W n (.slice Q qs.length cq) (.map (some B)) 81
  ht : Two W (n + 1) (.slice A zs.length c) (.int .i64 (M : Int)) 26
  pm : OMapM W B qs
  qi : Ins W lo2 hi2 Q qs
  si : Ins W lo hi A zs
  ci : Ins W lo3 hi3 C (choL qs zs)
  wi : Within B (B + 1) w W
section
variable {n B base k : Nat} {Q : Option Addr} {cq lo2 hi2 : Nat} {qs : List Int} {A : Option Addr} {c lo hi : Nat} {zs : List Int} {M : Nat} {C : Option Addr} {lo3 hi3 : Nat} {w W W' : World} {v : Value} {e : TypeId} {xs : List Value}
theorem VW11.step (h : VW11 n B Q cq lo2 hi2 qs A c lo hi zs M C lo3 hi3 w W) (hb : Below W.heap.size W W') : VW11 n B Q cq lo2 hi2 qs A c lo hi zs M C lo3 hi3 w W' :=
  ⟨h.hr.step hb, h.ht.step hb, h.pm.step hb, h.qi.step hb, h.si.step hb, h.ci.step hb, within_belowR h.wi hb⟩
theorem VW11.win (h : VW11 n B Q cq lo2 hi2 qs A c lo hi zs M C lo3 hi3 w W) (hB : B < n) (h3 : B < lo3) (hd2 : hi2 ≤ B ∨ B < lo2) (hd : hi ≤ B ∨ B < lo) (hw : Within B (B + 1) W W') (pm : OMapM W' B qs) : VW11 n B Q cq lo2 hi2 qs A c lo hi zs M C lo3 hi3 w W' :=
  ⟨h.hr.within hw (.inr (by omega)), h.ht.within hw (.inr (by omega)), pm, h.qi.within hw (by omega), h.si.within hw (by omega), h.ci.within hw (.inr h3), h.wi.trans hw⟩
theorem VW11.grown (h : VW11 n B Q cq lo2 hi2 qs A c lo hi zs M C lo3 hi3 w W) (hr : W.ownsRow base e 1 v k xs) (hg : W.grownBy W' v.ownBlock) (hne : ∀ a, C = some a → v.ownBlock ≠ some a.block) (hB : B < base) (hn : n + 1 < base) (h2 : hi2 ≤ base) (hh : hi ≤ base) (hw : w.heap.size ≤ base) : VW11 n B Q cq lo2 hi2 qs A c lo hi zs M C lo3 hi3 w W' := by
  have hw1 := within_grown hr hg
  exact ⟨h.hr.within hw1 (.inl (by omega)), h.ht.within hw1 (.inl hn), h.pm.within hw1 (.inl hB), h.qi.within hw1 (.inl h2), h.si.within hw1 (.inl hh), ins_grown11 h.ci hr hg hne, grownWithinR h.wi hr hg hw⟩
end
/-- The same for the specification. -/
structure SW11 (n B : Nat) (A : Option Addr) (c lo hi : Nat) (zs : List Int) (M : Nat) (qs : List Int) (T : Nat → Bool) (C : Option Addr) (lo3 hi3 : Nat) (w W : World) : Prop where
  ht : Two W n (.slice A zs.length c) (.int .i64 (M : Int)) 26
  si : Ins W lo hi A zs
  ft : FTab W B M zs.length qs T
  ci : Ins W lo3 hi3 C (choL qs zs)
  bl : Below w.heap.size w W
section
variable {n B base k : Nat} {A : Option Addr} {c lo hi : Nat} {zs : List Int} {M : Nat} {qs : List Int} {T : Nat → Bool} {C : Option Addr} {lo3 hi3 : Nat} {w W W' : World} {v : Value} {e : TypeId} {xs : List Value}
theorem SW11.step (h : SW11 n B A c lo hi zs M qs T C lo3 hi3 w W) (hb : Below W.heap.size W W') : SW11 n B A c lo hi zs M qs T C lo3 hi3 w W' :=
  ⟨h.ht.step hb, h.si.step hb, h.ft.step hb, h.ci.step hb, below_trans h.bl hb⟩
theorem SW11.grown (h : SW11 n B A c lo hi zs M qs T C lo3 hi3 w W) (hr : W.ownsRow base e 1 v k xs) (hg : W.grownBy W' v.ownBlock) (hne : ∀ a, C = some a → v.ownBlock ≠ some a.block) (hB : B < base) (hn : n < base) (hh : hi ≤ base) (hw : w.heap.size ≤ base) : SW11 n B A c lo hi zs M qs T C lo3 hi3 w W' := by
  have hw1 := within_grown hr hg
  exact ⟨h.ht.within hw1 (.inl hn), h.si.within hw1 (.inl hh), h.ft.within hw1 (.inl hB), ins_grown11 h.ci hr hg hne, h.bl.trans (hw1.below hw h.bl.size)⟩
end
def winTo (M : Nat) (qs zs : List Int) (k : Nat) : List Int := ((choL qs zs).take k).filter fun q => (raceB M qs zs q).wins
theorem winTo_step {M : Nat} {qs zs : List Int} {k : Nat} {b : Bool} (hk : k < (choL qs zs).length) (hc : (raceB M qs zs (choL qs zs)[k]).wins = b) : winTo M qs zs (k + 1) = winTo M qs zs k ++ (if b then [(choL qs zs)[k]] else []) := by
  unfold winTo
  rw [List.take_succ_eq_append_getElem hk, List.filter_append]
  cases b <;> simp [hc]
theorem winTo_len (M : Nat) (qs zs : List Int) (k : Nat) : (winTo M qs zs k).length ≤ (choL qs zs).length := Nat.le_trans (List.length_filter_le _ _) (List.length_take_le' _ _)
theorem winTo_full (M : Nat) (qs zs : List Int) : winTo M qs zs (choL qs zs).length = winL M qs zs := by unfold winTo winL; rw [List.take_length]
theorem lose_len {M : Nat} {qs zs : List Int} {q : Int} : (((loseL M qs zs q).length : Int) == 0) = (raceB M qs zs q).wins := by
  have h := lose_nil (M := M) (qs := qs) (zs := zs) (q := q)
  cases hw : (raceB M qs zs q).wins with
  | true => rw [hw] at h; simp [h.2 rfl]
  | false =>
    rw [hw] at h
    have : loseL M qs zs q ≠ [] := fun e => absurd (h.1 e) (by simp)
    simpa using this

set_option maxRecDepth 100000 in
set_option maxHeartbeats 16000000 in
theorem winningAt_any (M : Nat) (qs zs : List Int) (hs : Short M zs) (hq : ∀ q ∈ qs, qOK zs.length q = true) (hq5 : qs.length ≤ 5) (Q : Option Addr) (cq lo2 hi2 : Nat) (A : Option Addr) (c lo hi : Nat) (w : World) (B : Nat) (hM : OMapM w B qs) (hQ : Ins w lo2 hi2 Q qs) (hd2 : hi2 ≤ B ∨ B < lo2) (hS : Ins w lo hi A zs) (hd : hi ≤ B ∨ B < lo) :
    Calls Try.prog 68 #[.agg #[.slice Q qs.length cq, .map (some B)], .agg #[.slice A zs.length c, .int .i64 (M : Int)]] w fun e w' => ∃ F c', e = .returned (.slice F (winL M qs zs).length c') ∧ (winL M qs zs).length ≤ c' ∧ Res w' w.heap.size w'.heap.size F (winL M qs zs) ∧ OMapM w' B qs ∧ Within B (B + 1) w w' := by
  obtain ⟨i0, hi0, hz0, hz1, hz2⟩ := info_parts infoI3
  have hBw := hM.lt
  have hqt := hQ.top
  have hst := hS.top
  have HR := Lib.hid (Two.new w (.slice Q qs.length cq) (.map (some B)) 81 w.heap.size rfl)
  have HB := Lib.hid ((Below.refl w.heap.size w).alloc (Nat.le_refl _) (.cells #[.slice Q qs.length cq, .map (some B)] 81))
  have HT := Lib.hid (Two.new (w.alloc (.cells #[.slice Q qs.length cq, .map (some B)] 81)) (.slice A zs.length c) (.int .i64 (M : Int)) 26 (w.heap.size + 1) (by simp))
  replace HR := Lib.hid (HR.out.step ((Below.refl _ _).alloc (Nat.le_refl _) (.cells #[.slice A zs.length c, .int .i64 (M : Int)] 26)))
  replace HB := Lib.hid (HB.out.alloc HB.out.size (.cells #[.slice A zs.length c, .int .i64 (M : Int)] 26))
  have HM := Lib.hid (hM.step HB.out)
  have HQ := Lib.hid (hQ.step HB.out)
  have HS := Lib.hid (hS.step HB.out)
  have HCH := Lib.hid (fun W h1 h2 => choicesAt_any Q cq lo2 hi2 qs (.map (some B)) A c lo hi zs (M : Int) W h1 h2 (by omega) (.inr ⟨hs.valid, hq⟩))
  have HBY : Hid (∀ q ∈ choL qs zs, ∀ (W : World), OMapM W B qs → Ins W lo2 hi2 Q qs → Ins W lo hi A zs → Calls Try.prog 101 #[.agg #[.slice Q qs.length cq, .map (some B)], .agg #[.slice A zs.length c, .int .i64 (M : Int)], .int .i64 q] W fun e w' => e = .returned (oV (raceB M qs zs q)) ∧ OMapM w' B qs ∧ Within B (B + 1) W w') := Lib.hid (fun q hqm W h1 h2 h3 =>
    outlookBy_any M qs zs q hs (hq q (mem_choL.1 hqm).1) hq5 (fun y => outlookAt_any M qs _ (hs.after q y) (by rw [afters_len]; exact hq) hq5) Q cq lo2 hi2 A c lo hi W B h1 h2 hd2 h3 hd)
  have hL5 : (choL qs zs).length ≤ 5 := Nat.le_trans (List.length_filter_le _ _) hq5
  clear hM hQ hS hs hq
  go_enter Try.func68, Try.ntmps68
  go_upto_region 1 with (fail)
  generalize (w.alloc (.cells #[.slice Q qs.length cq, .map (some B)] 81)).alloc (.cells #[.slice A zs.length c, .int .i64 (M : Int)] 26) = w0 at HR HT HB HM HQ HS ⊢
  have hlt0 := HT.out.lt
  go_upto_region 2 with (fail)
  have O0 := Lib.hid (O0_any w0 w0.heap.size (Nat.le_refl _))
  have hb := (Below.refl w0.heap.size w0).alloc (Nat.le_refl _) (.cells #[] 3)
  have hzw : w0.heap.size < (w0.alloc (.cells #[] 3)).heap.size := by simp
  replace HR := Lib.hid (HR.out.step hb)
  replace HT := Lib.hid (HT.out.step hb)
  replace HM := Lib.hid (HM.out.step hb)
  replace HQ := Lib.hid (HQ.out.step hb)
  replace HS := Lib.hid (HS.out.step hb)
  replace HB := Lib.hid (below_trans HB.out hb)
  clear hb
  generalize hbs : w0.heap.size = base at O0 hlt0 hzw ⊢
  clear hbs
  generalize w0.alloc (.cells #[] 3) = w2 at O0 HR HT HM HQ HS HB hzw ⊢
  have x0 := HR.out.c0
  have x1 := HR.out.c1
  have t0 := HT.out.c0
  have t1 := HT.out.c1
  go_wp2_with fail
  with_reducible refine (HCH.out w2 HQ.out HS.out).mono ?_
  rintro e w3 ⟨C, c3, rfl, _, hr, hb⟩
  have hszb := hb.size
  have HVW : Hid (VW11 w.heap.size B Q cq lo2 hi2 qs A c lo hi zs M C w2.heap.size w3.heap.size w w3) := Lib.hid ⟨HR.out.step hb, HT.out.step hb, HM.out.step hb, HQ.out.step hb, HS.out.step hb, hr.ins, Within.of_below (below_trans HB.out hb)⟩
  have HCT0 : Hid (∀ a, C = some a → w2.heap.size ≤ a.block ∧ a.block < w3.heap.size) := Lib.hid (fun a ha => by
    rcases hr.own with ⟨e, _⟩ | ⟨g, cur, e, h1, h2, _⟩
    · rw [e] at ha; cases ha
    · rw [e] at ha; injection ha with ha; subst ha; exact ⟨h1, h2⟩)
  have HCB := Lib.hid (fun a ha => Nat.lt_of_lt_of_le hzw (HCT0.out a ha).1)
  replace O0 := Lib.hid (own_belowR O0.out hb)
  clear hb hr HR HT HM HQ HS HB HCH x0 x1 t0 t1
  have h3B : B < w2.heap.size := by omega
  obtain ⟨L3, hL3⟩ : ∃ s, s = w3.heap.size := ⟨_, rfl⟩
  have hL3' : L3 ≤ w3.heap.size := by omega
  rw [← hL3] at HCT0 HVW
  clear hL3
  generalize w2.heap.size = L2 at HVW HCT0 h3B hzw
  have hbL : base < L2 := hzw
  go_wp2_with fail
  go_loopw [5, 13] (fun out i wr => ∃ (k : Nat), k ≤ (choL qs zs).length ∧ i = .int .i64 (k : Int) ∧ Hid (wr.ownsRow base 3 1 out (winTo M qs zs k).length ((winTo M qs zs k).map (Value.int .i64))) ∧ Hid (∀ a, C = some a → out.ownBlock ≠ some a.block) ∧ L3 ≤ wr.heap.size ∧ Hid (VW11 w.heap.size B Q cq lo2 hi2 qs A c lo hi zs M C L2 L3 w wr)) (fun _ i _ => (choL qs zs).length - (intOf i).toNat)
  case atStart => exact ⟨0, Nat.zero_le _, rfl, O0, Lib.hid (fun a ha e => by have e2 : base = a.block := (by injection e); have := HCB.out a ha; omega), hL3', HVW⟩
  case round =>
    clear O0 HVW hL3'
    obtain ⟨k, hk, rfl, HO, HNE, hL3', HVW⟩ := hrel
    rename World => w4
    have HCT := Lib.hid (fun a ha => Nat.lt_of_lt_of_le (HCT0.out a ha).2 hL3')
    by_cases hlt : k < (choL qs zs).length
    · have hltI : (k : Int) < ((choL qs zs).length : Int) := by omega
      obtain ⟨b3, o3, hCe, hb3, _, hc⟩ := HVW.out.ci.ints.at_ hlt
      have hb3s : b3 < w4.heap.size := HCT.out _ hCe
      subst hCe
      obtain ⟨q, hqe⟩ : ∃ q, (choL qs zs)[k] = q := ⟨_, rfl⟩
      rw [hqe] at hc
      have hqm : q ∈ choL qs zs := by rw [← hqe]; exact List.getElem_mem _
      obtain ⟨r, hr⟩ : ∃ r, raceB M qs zs q = r := ⟨_, rfl⟩
      have HST := Lib.hid (winTo_step (b := r.wins) hlt (by rw [hqe, hr]))
      rw [hqe] at HST
      have hfl := winTo_len M qs zs k
      have HBy := Lib.hid (fun W h1 h2 h3 => HBY.out q hqm W h1 h2 h3)
      rw [hr] at HBy
      clear hr hqm hqe
      generalize winTo M qs zs k = fr at HO HST hfl
      have x0 := HVW.out.hr.c0
      have x1 := HVW.out.hr.c1
      have t0 := HVW.out.ht.c0
      have t1 := HVW.out.ht.c1
      go_wp2_with fail
      with_reducible refine (HBy.out w4 HVW.out.pm HVW.out.qi HVW.out.si).mono ?_
      rintro e w5 ⟨rfl, hpm, hw⟩
      have hsz5 := hw.size
      replace HVW := Lib.hid (HVW.out.win hBw h3B hd2 hd hw hpm)
      replace HO := Lib.hid (ownsRow_within6 HO.out hw (by omega))
      replace HCT := Lib.hid (fun a ha => Nat.lt_of_lt_of_le (HCT.out a ha) hsz5)
      clear hw hpm hc x0 x1 t0 t1 HBy
      unfold oV
      obtain ⟨rw', rl, rs, rm⟩ := r
      simp only at HST ⊢
      have hfd := fun W => run_field11 (.bool rw') (.int .i64 (rl : Int)) (.int .i64 (rs : Int)) (.int .i64 (rm : Int)) W
      have hbw5 : base ≤ w5.heap.size := by omega
      cases rw' with
      | true =>
        go_wp2_with (at_builtin; refine wpList_append_lies _ rfl (.tmp 22) (.tmp 24) 24 rfl base 3 i0 (.int .i64 0) 1 8 Try.underlying24 hi0 hz0 hz1 hz2 rfl (by decide) _ fr.length (fr.map (Value.int .i64)) rfl (HO.out.alloc _) ⟨w5.heap.size, 0, none⟩ 1 1 [.int .i64 q] rfl rfl (cell_one_new _ _ _) (by simp [Value.oneCell']) (by decide) (by unfold maxLen; omega) (by omega) (by simp; omega) _ rfl ?_; intro ga ca wa hown ha hblk hlta)
        have hbo := (Below.refl w5.heap.size w5).alloc (Nat.le_refl _) (.cells #[.int .i64 q] 3)
        have HVW2 := Lib.hid ((HVW.out.step hbo).grown (HO.out.alloc _) ha HNE.out (by omega) (by omega) (by omega) (by omega) (by omega))
        have HO2 := Lib.hid (own_snocI hown rfl)
        have HNE2 : Hid (∀ a, (some ⟨b3, o3, none⟩ : Option Addr) = some a → (Value.slice (some ⟨ga, 0, none⟩) (fr.length + 1) ca).ownBlock ≠ some a.block) := Lib.hid (fun a hCa e => by
          have e2 : ga = a.block := by injection e
          rcases hblk with h | h
          · exact HNE.out a hCa (by rw [← e2]; exact h)
          · have := HCT.out a hCa; simp at h; omega)
        have hL3a : L3 ≤ wa.heap.size := Nat.le_trans (Nat.le_trans hL3' hsz5) (Nat.le_trans hbo.size ha.size)
        clear hown ha hblk hlta hbo HO HVW HNE
        go_wp2
        go_roundw
        case rel => exact ⟨k + 1, by omega, by go_num, Lib.hid (by rw [HST.out]; exact HO2.out), HNE2, hL3a, HVW2⟩
        case measure => simp [intOf]; omega
      | false =>
        have HSTe : Hid (winTo M qs zs (k + 1) = fr) := Lib.hid (HST.out.trans (by simp))
        go_wp2
        go_roundw
        case rel => exact ⟨k + 1, by omega, by go_num, Lib.hid (by rw [HSTe.out]; exact HO.out), HNE, Nat.le_trans hL3' hsz5, HVW⟩
        case measure => simp [intOf]; omega
    · obtain rfl : k = (choL qs zs).length := by omega
      have hltI : ¬ ((choL qs zs).length : Int) < ((choL qs zs).length : Int) := by omega
      rw [winTo_full] at HO
      obtain ⟨F, c', rfl, hcap, hr⟩ := own_res HO.out rfl
      have HX := Lib.hid (show Res w4 w.heap.size w4.heap.size F (winL M qs zs) from ⟨hr.own.wide (by omega) (Nat.le_refl _), Nat.le_refl _⟩)
      have HWi := Lib.hid HVW.out.wi
      have HPm := Lib.hid HVW.out.pm
      have HCap := Lib.hid hcap
      clear hr hcap HO HNE HVW
      go_wp2
      go_ret
      first | exact ⟨_, _, rfl, HCap.out, HX.out, HPm.out, HWi.out⟩ | exact ⟨_, ⟨_, rfl⟩, HCap.out, HX.out, HPm.out, HWi.out⟩ | exact ⟨⟨_, rfl⟩, HCap.out, HX.out, HPm.out, HWi.out⟩ | exact ⟨rfl, HCap.out, HX.out, HPm.out, HWi.out⟩ | exact ⟨HCap.out, HX.out, HPm.out, HWi.out⟩
end Go.Proofs.Ytopgccficjkenaa
