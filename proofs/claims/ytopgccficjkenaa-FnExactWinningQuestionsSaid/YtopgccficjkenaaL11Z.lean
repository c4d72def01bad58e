/- losingTo; LosingAnswers: both. -/
import Derived.Test.YtopgccficjkenaaL11Y
import Derived.Test.YtopgccficjkenaaL11G
import Derived.Test.YtopgccficjkenaaL11V
import Derived.Deep.AppendLies
import Derived.Deep.DeepMust
namespace Go.Proofs.Ytopgccficjkenaa
open Go.RowKit Go.ChangeShapes Go.WideShapes Go.Maps
set_option linter.unusedVariables false


theorem grownWithinR {lo hi : Nat} {w0 W W' : World} {base n : Nat} {v : Value} {e : TypeId} {xs : List Value} (h : Within lo hi w0 W) (hr : W.ownsRow base e 1 v n xs) (hg : W.grownBy W' v.ownBlock) (hb : w0.heap.size ≤ base) : Within lo hi w0 W' := by
  have hw := within_grown hr hg
  exact ⟨hw.os.trans h.os, hw.tape.trans h.tape, hw.output.trans h.output, Nat.le_trans h.size hw.size, fun i hi hd => (hw.block i (Nat.lt_of_lt_of_le hi h.size) (.inl (by omega))).trans (h.block i hi hd)⟩
/-- What stands still while losing answers are gathered. -/
structure ZW11 (n B gl : Nat) (Q : Option Addr) (cq lo2 hi2 : Nat) (qs : List Int) (A : Option Addr) (c lo hi : Nat) (zs : List Int) (M : Nat) (w W : World) : Prop where
  hr : Two W n (.slice Q qs.length cq) (.map (some B)) 81
  ht : Two W (n + 1) (.slice A zs.length c) (.int .i64 (M : Int)) 26
  pm : OMapM W B qs
  qi : Ins W lo2 hi2 Q qs
  si : Ins W lo hi A zs
  l0 : CelR W ⟨gl, 0, none⟩ (.bool false)
  l1 : CelR W ⟨gl, 1, none⟩ (.bool true)
  wi : Within B (B + 1) w W
section
variable {n B gl base k : Nat} {Q : Option Addr} {cq lo2 hi2 : Nat} {qs : List Int} {A : Option Addr} {c lo hi : Nat} {zs : List Int} {M : Nat} {w W W' : World} {v : Value} {e : TypeId} {xs : List Value}
theorem ZW11.step (h : ZW11 n B gl Q cq lo2 hi2 qs A c lo hi zs M w W) (hb : Below W.heap.size W W') : ZW11 n B gl Q cq lo2 hi2 qs A c lo hi zs M w W' :=
  ⟨h.hr.step hb, h.ht.step hb, h.pm.step hb, h.qi.step hb, h.si.step hb, h.l0.step hb, h.l1.step hb, within_belowR h.wi hb⟩
theorem ZW11.win (h : ZW11 n B gl Q cq lo2 hi2 qs A c lo hi zs M w W) (hB : B < n) (hg : B < gl) (hd2 : hi2 ≤ B ∨ B < lo2) (hd : hi ≤ B ∨ B < lo) (hw : Within B (B + 1) W W') (pm : OMapM W' B qs) : ZW11 n B gl Q cq lo2 hi2 qs A c lo hi zs M w W' :=
  ⟨h.hr.within hw (.inr (by omega)), h.ht.within hw (.inr (by omega)), pm, h.qi.within hw (by omega), h.si.within hw (by omega), h.l0.within hw (.inr hg), h.l1.within hw (.inr hg), h.wi.trans hw⟩
theorem ZW11.grown (h : ZW11 n B gl Q cq lo2 hi2 qs A c lo hi zs M w W) (hr : W.ownsRow base e 1 v k xs) (hg : W.grownBy W' v.ownBlock) (hne : v.ownBlock ≠ some gl) (hB : B < base) (hn : n + 1 < base) (h2 : hi2 ≤ base) (hh : hi ≤ base) (hw : w.heap.size ≤ base) : ZW11 n B gl Q cq lo2 hi2 qs A c lo hi zs M w W' := by
  have hw1 := within_grown hr hg
  have hgl : W'.heap[gl]? = W.heap[gl]? := hg.block gl (lt_of_cellI h.l0.c) (fun e => hne e.symm)
  exact ⟨h.hr.within hw1 (.inl (by omega)), h.ht.within hw1 (.inl hn), h.pm.within hw1 (.inl hB), h.qi.within hw1 (.inl h2), h.si.within hw1 (.inl hh), ⟨(World.cell?_of_block hgl).trans h.l0.c⟩, ⟨(World.cell?_of_block hgl).trans h.l1.c⟩, grownWithinR h.wi hr hg hw⟩
end

theorem run_field11 (x y z u : Value) (w : World) : (Instr.field 70 (.agg #[x, y, z, u]) 0).run Try.prog w = .ok x w := by
  kernel_rfl

set_option maxRecDepth 100000 in
set_option maxHeartbeats 16000000 in
theorem losingTo_any (M : Nat) (qs zs : List Int) (q : Int) (hs : Short M zs) (hqk : qOK zs.length q = true) (hC : ∀ y, OutC M qs (afters zs M q y)) (Q : Option Addr) (cq lo2 hi2 : Nat) (A : Option Addr) (c lo hi : Nat) (w : World) (B : Nat) (hM : OMapM w B qs) (hQ : Ins w lo2 hi2 Q qs) (hd2 : hi2 ≤ B ∨ B < lo2) (hS : Ins w lo hi A zs) (hd : hi ≤ B ∨ B < lo) :
    Calls Try.prog 77 #[.agg #[.slice Q qs.length cq, .map (some B)], .agg #[.slice A zs.length c, .int .i64 (M : Int)], .int .i64 q] w fun e w' => ∃ F c', e = .returned (.slice F (loseL M qs zs q).length c') ∧ (loseL M qs zs q).length ≤ c' ∧ BRes w' w.heap.size w'.heap.size F (loseL M qs zs q) ∧ OMapM w' B qs ∧ Within B (B + 1) w w' := by
  obtain ⟨i0, hi0, hz0, hz1, hz2⟩ := info_parts infoB8
  have hBw := hM.lt
  have hqt := hQ.top
  have hst := hS.top
  have HR := Lib.hid (Two.new w (.slice Q qs.length cq) (.map (some B)) 81 w.heap.size rfl)
  have HB := Lib.hid ((Below.refl w.heap.size w).alloc (Nat.le_refl _) (.cells #[.slice Q qs.length cq, .map (some B)] 81))
  have HT := Lib.hid (Two.new (w.alloc (.cells #[.slice Q qs.length cq, .map (some B)] 81)) (.slice A zs.length c) (.int .i64 (M : Int)) 26 (w.heap.size + 1) (by simp))
  replace HR := Lib.hid (HR.out.step ((Below.refl _ _).alloc (Nat.le_refl _) (.cells #[.slice A zs.length c, .int .i64 (M : Int)] 26)))
  replace HB := Lib.hid (HB.out.alloc HB.out.size (.cells #[.slice A zs.length c, .int .i64 (M : Int)] 26))
  have HM := Lib.hid (hM.step HB.out)
  have HQ := Lib.hid (hQ.step HB.out)
  have HS := Lib.hid (hS.step HB.out)
  have HBE := Lib.hid (fun y W h1 h2 h3 => outlookBehind_any M qs zs q y hs hqk (hC y) Q cq lo2 hi2 A c lo hi W B h1 h2 hd2 h3)
  clear hM hQ hS hs hqk hC
  go_enter Try.func77, Try.ntmps77
  go_upto_region 1 with (fail)
  generalize (w.alloc (.cells #[.slice Q qs.length cq, .map (some B)] 81)).alloc (.cells #[.slice A zs.length c, .int .i64 (M : Int)] 26) = w0 at HR HT HB HM HQ HS ⊢
  have hlt0 := HT.out.lt
  go_upto_region 2 with (fail)
  have O0 := Lib.hid (B0_any11 w0 w0.heap.size (Nat.le_refl _))
  have hb := (Below.refl w0.heap.size w0).alloc (Nat.le_refl _) (.cells #[] 4)
  have hzw : w0.heap.size < (w0.alloc (.cells #[] 4)).heap.size := by simp
  replace HR := Lib.hid (HR.out.step hb)
  replace HT := Lib.hid (HT.out.step hb)
  replace HM := Lib.hid (HM.out.step hb)
  replace HQ := Lib.hid (HQ.out.step hb)
  replace HS := Lib.hid (HS.out.step hb)
  replace HB := Lib.hid (below_trans HB.out hb)
  clear hb
  generalize hbs : w0.heap.size = base at O0 hlt0 hzw ⊢
  clear hbs
  generalize w0.alloc (.cells #[] 4) = w2 at O0 HR HT HM HQ HS HB hzw ⊢
  have hb := (Below.refl w2.heap.size w2).alloc (Nat.le_refl _) (.cells #[.bool false, .bool true] 4)
  have HL : Hid (Two (w2.alloc (.cells #[.bool false, .bool true] 4)) w2.heap.size (.bool false) (.bool true) 4) := Lib.hid (Two.new w2 _ _ _ _ rfl)
  have HZW : Hid (ZW11 w.heap.size B w2.heap.size Q cq lo2 hi2 qs A c lo hi zs M w (w2.alloc (.cells #[.bool false, .bool true] 4))) := Lib.hid ⟨HR.out.step hb, HT.out.step hb, HM.out.step hb, HQ.out.step hb, HS.out.step hb, ⟨HL.out.c0⟩, ⟨HL.out.c1⟩, Within.of_below (below_trans HB.out hb)⟩
  replace O0 := Lib.hid (own_belowR O0.out hb)
  clear hb HR HT HM HQ HS HB HL
  obtain ⟨gl, hgl⟩ : ∃ g, g = w2.heap.size := ⟨_, rfl⟩
  rw [← hgl] at HZW hzw
  go_wp2_with fail
  rw [← hgl]
  generalize w2.alloc (.cells #[.bool false, .bool true] 4) = w3 at O0 HZW ⊢
  clear hgl
  go_loopw [7, 13] (fun out i wr => ∃ (k : Nat), k ≤ 2 ∧ i = .int .i64 (k : Int) ∧ Hid (wr.ownsRow base 4 1 out (loseTo M qs zs q k).length ((loseTo M qs zs q k).map Value.bool)) ∧ Hid (out.ownBlock ≠ some gl) ∧ Hid (ZW11 w.heap.size B gl Q cq lo2 hi2 qs A c lo hi zs M w wr)) (fun _ i _ => 2 - (intOf i).toNat)
  case atStart => exact ⟨0, by omega, rfl, O0, Lib.hid (fun e => by have e2 : base = gl := (by injection e); omega), HZW⟩
  case round =>
    clear O0 HZW
    obtain ⟨k, hk, rfl, HO, HNE, HZW⟩ := hrel
    rename World => w4
    by_cases hlt : k < 2
    · have hltI : (k : Int) < 2 := by omega
      obtain ⟨y, hy, hcy⟩ : ∃ y, ([false, true] : List Bool)[k]? = some y ∧ w4.cell? ⟨gl, k, none⟩ = some (.bool y) := by
        rcases (show k = 0 ∨ k = 1 by omega) with rfl | rfl
        · exact ⟨false, rfl, HZW.out.l0.c⟩
        · exact ⟨true, rfl, HZW.out.l1.c⟩
      obtain ⟨r, hr⟩ : ∃ r, raceL M qs (afters zs (M : Int) q y) = r := ⟨_, rfl⟩
      have HST := Lib.hid (loseTo_step (b := r.wins) hy (by rw [hr]))
      have hfl := loseTo_len M qs zs q k
      have HBy := Lib.hid (fun W h1 h2 h3 => HBE.out y W h1 h2 h3)
      rw [hr] at HBy
      clear hy hr
      generalize loseTo M qs zs q k = fr at HO HST hfl
      have x0 := HZW.out.hr.c0
      have x1 := HZW.out.hr.c1
      have t0 := HZW.out.ht.c0
      have t1 := HZW.out.ht.c1
      go_wp2_with fail
      with_reducible refine (HBy.out w4 HZW.out.pm HZW.out.qi HZW.out.si).mono ?_
      rintro e w5 ⟨rfl, hpm, hw⟩
      have hsz5 := hw.size
      replace HZW := Lib.hid (HZW.out.win hBw (by omega) hd2 hd hw hpm)
      replace HO := Lib.hid (ownsRow_within6 HO.out hw (by omega))
      have hglt : gl < w5.heap.size := lt_of_cellI HZW.out.l0.c
      clear hw hpm hcy x0 x1 t0 t1 HBy
      unfold oV
      obtain ⟨rw', rl, rs, rm⟩ := r
      simp only at HST ⊢
      have hfd := fun W => run_field11 (.bool rw') (.int .i64 (rl : Int)) (.int .i64 (rs : Int)) (.int .i64 (rm : Int)) W
      cases rw' with
      | true =>
        go_wp2_with (at_builtin; go_must (refine wpList_append_lies _ rfl (.tmp 23) (.tmp 25) 36 rfl base 4 i0 (.bool false) 1 1 Try.underlying36 hi0 hz0 hz1 hz2 rfl (by decide) _ fr.length (fr.map Value.bool) rfl (HO.out.alloc _) ⟨w5.heap.size, 0, none⟩ 1 1 [.bool y] rfl rfl (cell_one_new _ _ _) (by simp [Value.oneCell']) (by decide) (by unfold maxLen; omega) (by omega) (by simp; omega) _ rfl ?_; intro ga ca wa hown ha hblk hlta))
        have hbo := (Below.refl w5.heap.size w5).alloc (Nat.le_refl _) (.cells #[.bool y] 4)
        have HZW2 := Lib.hid ((HZW.out.step hbo).grown (HO.out.alloc _) ha HNE.out (by omega) (by omega) (by omega) (by omega) (by omega))
        have HO2 := Lib.hid (bool_snoc11 hown rfl)
        have HNE2 : Hid ((Value.slice (some ⟨ga, 0, none⟩) (fr.length + 1) ca).ownBlock ≠ some gl) := Lib.hid (fun e => by
          have e2 : ga = gl := by injection e
          subst e2
          rcases hblk with h | h
          · exact HNE.out h
          · simp at h; omega)
        clear hown ha hblk hlta hbo HO HZW HNE
        go_wp2
        go_roundw
        case rel => exact ⟨k + 1, by omega, by go_num, Lib.hid (by rw [HST.out]; exact HO2.out), HNE2, HZW2⟩
        case measure => simp [intOf]; omega
      | false =>
        have HSTe : Hid (loseTo M qs zs q (k + 1) = fr) := Lib.hid (HST.out.trans (by simp))
        go_wp2
        go_roundw
        case rel => exact ⟨k + 1, by omega, by go_num, Lib.hid (by rw [HSTe.out]; exact HO.out), HNE, HZW⟩
        case measure => simp [intOf]; omega
    · obtain rfl : k = 2 := by omega
      have hltI : ¬ ((2 : Nat) : Int) < 2 := by omega
      have HFL : Hid (loseTo M qs zs q 2 = loseL M qs zs q) := Lib.hid rfl
      rw [HFL.out] at HO
      obtain ⟨F, c', rfl, hcap, hr⟩ := own_resB11 HO.out rfl
      have HX := Lib.hid (bres_wide hr (show w.heap.size ≤ base by omega))
      have HWi := Lib.hid HZW.out.wi
      have HPm := Lib.hid HZW.out.pm
      have HCap := Lib.hid hcap
      clear hr hcap HO HNE HZW HFL
      go_wp2
      go_ret
      first | exact ⟨_, _, rfl, HCap.out, HX.out, HPm.out, HWi.out⟩ | exact ⟨_, ⟨_, rfl⟩, HCap.out, HX.out, HPm.out, HWi.out⟩ | exact ⟨⟨_, rfl⟩, HCap.out, HX.out, HPm.out, HWi.out⟩ | exact ⟨rfl, HCap.out, HX.out, HPm.out, HWi.out⟩ | exact ⟨HCap.out, HX.out, HPm.out, HWi.out⟩
end Go.Proofs.Ytopgccficjkenaa
