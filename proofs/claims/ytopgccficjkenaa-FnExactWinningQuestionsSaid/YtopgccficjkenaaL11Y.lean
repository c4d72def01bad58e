/- The specification: answers with which the other one wins (l11Losing). -/
import Derived.Test.YtopgccficjkenaaL11F
import Derived.Test.YtopgccficjkenaaL11M
import Derived.Test.YtopgccficjkenaaL6R
import Derived.Deep.RegionHeld3
import Derived.Deep.AppendLies
import Derived.Deep.DeepMust
namespace Go.Proofs.Ytopgccficjkenaa
open Go.RowKit Go.ChangeShapes Go.WideShapes Go.Maps
set_option linter.unusedVariables false


/-- What stands still while losing answers are gathered. -/
structure LW11 (n B gf : Nat) (A : Option Addr) (c lo hi : Nat) (zs : List Int) (M : Nat) (qs : List Int) (T : Nat → Bool) (w W : World) : Prop where
  ht : Two W n (.slice A zs.length c) (.int .i64 (M : Int)) 26
  si : Ins W lo hi A zs
  ft : FTab W B M zs.length qs T
  l0 : CelR W ⟨gf, 0, none⟩ (.bool false)
  l1 : CelR W ⟨gf, 1, none⟩ (.bool true)
  bl : Below w.heap.size w W
section
variable {n B gf base k : Nat} {A : Option Addr} {c lo hi : Nat} {zs : List Int} {M : Nat} {qs : List Int} {T : Nat → Bool} {w W W' : World} {v : Value} {e : TypeId} {xs : List Value}
theorem LW11.step (h : LW11 n B gf A c lo hi zs M qs T w W) (hb : Below W.heap.size W W') : LW11 n B gf A c lo hi zs M qs T w W' :=
  ⟨h.ht.step hb, h.si.step hb, h.ft.step hb, h.l0.step hb, h.l1.step hb, below_trans h.bl hb⟩
theorem LW11.new {b : Nat} (h : LW11 n B gf A c lo hi zs M qs T w W) (hB : B < b) (hn : n < b) (hh : hi ≤ b) (hg : gf < b) (hw : Within b (b + 1) W W') (hs : w.heap.size ≤ b) : LW11 n B gf A c lo hi zs M qs T w W' :=
  ⟨h.ht.within hw (.inl hn), h.si.within hw (.inl hh), h.ft.within hw (.inl hB), h.l0.within hw (.inl hg), h.l1.within hw (.inl hg), h.bl.trans (hw.below hs h.bl.size)⟩
theorem LW11.grown (h : LW11 n B gf A c lo hi zs M qs T w W) (hr : W.ownsRow base e 1 v k xs) (hg : W.grownBy W' v.ownBlock) (hne : v.ownBlock ≠ some gf) (hB : B < base) (hn : n < base) (hh : hi ≤ base) (hw : w.heap.size ≤ base) : LW11 n B gf A c lo hi zs M qs T w W' := by
  have hw1 := within_grown hr hg
  have hgl : W'.heap[gf]? = W.heap[gf]? := hg.block gf (lt_of_cellI h.l0.c) (fun e => hne e.symm)
  exact ⟨h.ht.within hw1 (.inl hn), h.si.within hw1 (.inl hh), h.ft.within hw1 (.inl hB), ⟨(World.cell?_of_block hgl).trans h.l0.c⟩, ⟨(World.cell?_of_block hgl).trans h.l1.c⟩, h.bl.trans (hw1.below hw h.bl.size)⟩
end
def loseTo (M : Nat) (qs zs : List Int) (q : Int) (k : Nat) : List Bool := ([false, true].take k).filter fun y => (raceL M qs (afters zs M q y)).wins
theorem loseTo_step {M : Nat} {qs zs : List Int} {q : Int} {k : Nat} {y b : Bool} (h : ([false, true] : List Bool)[k]? = some y) (hc : (raceL M qs (afters zs M q y)).wins = b) : loseTo M qs zs q (k + 1) = loseTo M qs zs q k ++ (if b then [y] else []) := by
  have hk : k < ([false, true] : List Bool).length := by
    rcases Nat.lt_or_ge k ([false, true] : List Bool).length with h' | h'
    · exact h'
    · rw [List.getElem?_eq_none h'] at h; cases h
  unfold loseTo
  rw [List.take_succ_eq_append_getElem hk, List.filter_append]
  rw [List.getElem?_eq_getElem hk] at h
  injection h with h
  rw [h]
  cases b <;> simp [hc]
theorem loseTo_len (M : Nat) (qs zs : List Int) (q : Int) (k : Nat) : (loseTo M qs zs q k).length ≤ 2 := Nat.le_trans (List.length_filter_le _ _) (Nat.le_trans (List.length_take_le' _ _) (by simp))

theorem row_neR {w : World} {b g gf : Nat} {bs : List Bool} (h : w.ownsRow b 4 1 (.slice (some ⟨g, 0, none⟩) 0 0) 0 []) (hf : BRes w gf (gf + 1) (some ⟨gf, 0, none⟩) bs) (hb : 0 < bs.length) : g ≠ gf := by
  rintro rfl
  rcases h.2 with ⟨e, _⟩ | ⟨g', cap, cur, e, _, hg, _, _, hs, _⟩
  · cases e
  · injection e with e _ e3
    injection e with e
    injection e with e
    subst e e3
    rcases hf.own with ⟨e, _⟩ | ⟨g2, cur2, e, _, _, hr, h2, _⟩
    · cases e
    · injection e with e
      injection e with e
      subst e
      have := hg.symm.trans hr
      injection this with this
      injection this with this
      subst this
      omega
structure YInv5 (n gf : Nat) (A : Option Addr) (c : Nat) (zs : List Int) (M cf k : Nat) (q : Int) (y : Bool) (w4 : World) (D : Nat → Bool) (v10 v21 v22 v23 v24 v25 v26 v27 : Value) (W : World) : Prop where
  bl : Below w4.heap.size w4 W
  s21 : D 0 = true → v21 = .agg #[.slice A zs.length c, .int .i64 (M : Int)]
  s22 : D 1 = true → v22 = .int .i64 q
  s23 : D 2 = true → v23 = .slice (some ⟨gf, 0, none⟩) 2 cf
  s24 : D 3 = true → v24 = .int .i64 (k : Int)
  s25 : D 4 = true → v25 = .pointer (some ⟨gf, k, none⟩)
  s26 : D 5 = true → v26 = .bool y
  s27 : D 6 = true → ∃ g c', v27 = .agg #[.slice (some ⟨g, 0, none⟩) zs.length c', .int .i64 (M : Int)] ∧ w4.heap.size ≤ g ∧ Own W g (g + 1) (some ⟨g, 0, none⟩) (afters zs (M : Int) q y)
  s10 : D 7 = true → ∃ b x z, v10 = .pointer (some ⟨b, 0, none⟩) ∧ w4.heap.size ≤ b ∧ Two W b x z 26 ∧ (D 8 = true → v27 = .agg #[x, z])
  o8 : D 8 = true → D 6 = true ∧ D 7 = true

set_option maxRecDepth 100000 in
set_option maxHeartbeats 16000000 in
theorem l11Losing_any (A : Option Addr) (c lo hi : Nat) (zs : List Int) (M B ct : Nat) (qs : List Int) (q : Int) (T : Nat → Bool) (w : World) (hS : Ins w lo hi A zs) (hT : FTab w B M zs.length qs T) (hs : Short M zs) (hqm : q ∈ choL qs zs) (hTk : T (keyS M zs) = true) :
    Calls Try.prog 81 #[.agg #[.slice A zs.length c, .int .i64 (M : Int)], .int .i64 q, .slice (some ⟨B, 0, none⟩) ((M + 2) ^ zs.length) ct] w fun e w' => ∃ F c', e = .returned (.slice F (loseL M qs zs q).length c') ∧ (loseL M qs zs q).length ≤ c' ∧ BRes w' w.heap.size w'.heap.size F (loseL M qs zs q) ∧ Below w.heap.size w w' := by
  obtain ⟨i0, hi0, hz0, hz1, hz2⟩ := info_parts infoB8
  have hst := hS.top
  have hBw := hT.lt
  have HT := Lib.hid (Two.new w (.slice A zs.length c) (.int .i64 (M : Int)) 26 w.heap.size rfl)
  have HB := Lib.hid ((Below.refl w.heap.size w).alloc (Nat.le_refl _) (.cells #[.slice A zs.length c, .int .i64 (M : Int)] 26))
  have HS0 : Hid ((w.alloc (.cells #[.slice A zs.length c, .int .i64 (M : Int)] 26)).heap.size = w.heap.size + 1) := Lib.hid (by simp)
  have HS := Lib.hid (hS.step HB.out)
  have HF := Lib.hid (hT.step HB.out)
  have HFR : Hid (∀ W, Ins W lo hi A zs → Calls Try.prog 82 #[.agg #[.slice A zs.length c, .int .i64 (M : Int)], .int .i64 q] W fun e w' => ∃ B c', e = .returned (.slice B 2 c') ∧ BRes w' W.heap.size w'.heap.size B [false, true] ∧ Below W.heap.size W w') := Lib.hid (fun W h => (l11Fair_any A c lo hi zs (M : Int) q W h hs.valid).mono (by
    rintro e w' ⟨B, c', h1, _, h2, h3⟩
    rw [fair_both (mem_choL.1 hqm).2] at h1 h2
    exact ⟨B, c', h1, h2, h3⟩))
  have HAF := Lib.hid (fun y W h => l2After_any A c lo hi zs (M : Int) q y W h hs.valid)
  have hl5 := hs.len
  have HDA := Lib.hid (fun y g c1 W h => l6Done_any (some ⟨g, 0, none⟩) c1 g (g + 1) (afters zs (M : Int) q y) (M : Int) W h (by rw [afters_len]; omega))
  have HKA := Lib.hid (fun y g c1 W h => l6Key_any (some ⟨g, 0, none⟩) c1 g (g + 1) (afters zs (M : Int) q y) M W h (hs.after q y))
  simp only [afters_len] at HDA HKA
  have HDW : Hid (∀ y, doneL (afters zs (M : Int) q y) = true → (raceL M qs (afters zs (M : Int) q y)).wins = false) := Lib.hid (fun y h => by rw [race_end (hs.after q y) (List.filter_eq_nil_iff.2 (fun x _ => by simp [vain_few h x]))]; rfl)
  have HRD : Hid (∀ y, T (keyS M (afters zs (M : Int) q y)) = true) := Lib.hid (fun y => hT.closed zs hs rfl hTk q hqm y)
  have HSA := Lib.hid (fun y => hs.after q y)
  have HKT : Hid (∀ y, keyS M (afters zs (M : Int) q y) < (M + 2) ^ zs.length) := Lib.hid (fun y => by have h := keyTo_lt (hs.after q y).fit; rw [afters_len] at h; exact h)
  clear hS hT hs hqm hTk
  go_enter Try.func81, Try.ntmps81
  go_upto_region 1 with (fail)
  generalize w.alloc (.cells #[.slice A zs.length c, .int .i64 (M : Int)] 26) = w0 at HT HB HS HF HS0 ⊢
  have hlt0 := HT.out.lt
  obtain ⟨top, htp⟩ : ∃ t, t = (M + 2) ^ zs.length := ⟨_, rfl⟩
  rw [← htp] at HKT ⊢
  clear htp
  have t0 := HT.out.c0
  have t1 := HT.out.c1
  go_wp2_with fail
  have hb0 := (Below.refl w0.heap.size w0).alloc (Nat.le_refl _) (.cells #[] 4)
  have O0 := Lib.hid (B0_any11 w0 w0.heap.size (Nat.le_refl _))
  replace HT := Lib.hid (HT.out.step hb0)
  replace HS := Lib.hid (HS.out.step hb0)
  replace HF := Lib.hid (HF.out.step hb0)
  replace HB := Lib.hid (below_trans HB.out hb0)
  clear hb0
  have hbase : w.heap.size < w0.heap.size := by have := HS0.out; omega
  clear t0 t1 HS0 hlt0
  have hzw : w0.heap.size < (w0.alloc (.cells #[] 4)).heap.size := by simp
  generalize hbs : w0.heap.size = base at O0 hbase hzw ⊢
  clear hbs
  generalize w0.alloc (.cells #[] 4) = w1 at O0 HT HS HF HB hzw ⊢
  with_reducible refine (HFR.out w1 HS.out).mono ?_
  rintro e w2 ⟨Bf, cf, rfl, hr, hb⟩
  have hfb : BRes w2 w1.heap.size w2.heap.size Bf [false, true] := hr
  obtain ⟨gf, hgf, hgf1, hgf2, _, _⟩ := hfb.own.at_ (k := 0) (by simp)
  subst hgf
  have hfb2 := bres_tight hfb
  have hgbf : base < gf := by omega
  have HO := Lib.hid (own_belowR O0.out hb)
  replace HT := Lib.hid (HT.out.step hb)
  replace HS := Lib.hid (HS.out.step hb)
  replace HF := Lib.hid (HF.out.step hb)
  replace HB := Lib.hid (below_trans HB.out hb)
  clear hb hr O0 hfb HFR
  have HNE : Hid ((Value.slice (some ⟨base, 0, none⟩) 0 0).ownBlock ≠ some gf) := Lib.hid (fun e => by have e2 : base = gf := (by injection e); exact row_neR HO.out hfb2 (by simp) e2)
  have HLW : Hid (LW11 w.heap.size B gf A c lo hi zs M qs T w w2) := Lib.hid (by
    obtain ⟨g1, e1, _, _, _, c0⟩ := hfb2.own.at_ (k := 0) (by simp)
    obtain ⟨g2, e2, _, _, _, c1⟩ := hfb2.own.at_ (k := 1) (by simp)
    injection e1 with e1; injection e1 with e1; subst e1
    injection e2 with e2; injection e2 with e2; subst e2
    exact ⟨HT.out, HS.out, HF.out, ⟨c0⟩, ⟨c1⟩, HB.out⟩)
  clear hfb2 HT HS HF HB
  go_wp2_with fail
  go_loopw [7, 9] (fun out i wr => ∃ (k : Nat), k ≤ 2 ∧ i = .int .i64 (k : Int) ∧ Hid (wr.ownsRow base 4 1 out (loseTo M qs zs q k).length ((loseTo M qs zs q k).map Value.bool)) ∧ Hid (out.ownBlock ≠ some gf) ∧ Hid (LW11 w.heap.size B gf A c lo hi zs M qs T w wr)) (fun _ i _ => 2 - (intOf i).toNat)
  case atStart => exact ⟨0, by omega, rfl, HO, HNE, HLW⟩
  case round =>
    clear HO HNE HLW
    obtain ⟨k, hk, rfl, HO, HNE, HLW⟩ := hrel
    rename World => w4
    by_cases hlt : k < 2
    · have hltI : (k : Int) < 2 := by omega
      obtain ⟨y, hy, hcy⟩ : ∃ y, ([false, true] : List Bool)[k]? = some y ∧ (∀ W, LW11 w.heap.size B gf A c lo hi zs M qs T w W → W.cell? ⟨gf, k, none⟩ = some (.bool y)) := by
        rcases (show k = 0 ∨ k = 1 by omega) with rfl | rfl
        · exact ⟨false, rfl, fun W h => h.l0.c⟩
        · exact ⟨true, rfl, fun W h => h.l1.c⟩
      have HCY := Lib.hid hcy
      clear hcy
      obtain ⟨by_, hby⟩ : ∃ b, (raceL M qs (afters zs (M : Int) q y)).wins = b := ⟨_, rfl⟩
      have HST := Lib.hid (loseTo_step hy hby)
      have hfl := loseTo_len M qs zs q k
      have HDy := Lib.hid (HDW.out y)
      rw [hby] at HDy
      have HBY := Lib.hid hby
      have HAy := Lib.hid (fun W h => HAF.out y W h)
      have HDAy := Lib.hid (fun g c1 W h => HDA.out y g c1 W h)
      have HKAy := Lib.hid (fun g c1 W h => HKA.out y g c1 W h)
      have HKTy := HKT.out y
      have HRy := Lib.hid (HRD.out y)
      have HSy := Lib.hid (HSA.out y)
      clear hy hby HDW HAF HDA HKA HKT HRD HSA
      generalize loseTo M qs zs q k = fr at HO HST hfl
      go_upto_region 5 with (fail)
      skip
      refine wp_region_noPanic ?_
      refine wp_region_inv5 (by kernel_rfl) (by kernel_rfl) (fun D A' W => ∃ v10 v21 v22 v23 v24 v25 v26 v27, A' = { tmps := #[.agg #[.slice A zs.length c, .int .i64 (M : Int)], .int .i64 q, .slice (some ⟨B, 0, none⟩) top ct, .pointer (some ⟨w.heap.size, 0, none⟩), undef, undef, .slice none 0 0, u7, .slice (some ⟨gf, 0, none⟩) 2 cf, .int .i64 (k : Int), v10, .slice (some ⟨base, 0, none⟩) 0 0, .agg #[.slice A zs.length c, .int .i64 (M : Int)], .int .i64 q, .slice (some ⟨gf, 0, none⟩) 2 cf, .int .i64 (k : Int), .slice (some ⟨gf, 0, none⟩) 2 cf, .int .i64 2, .bool true, u19, u20, v21, v22, v23, v24, v25, v26, v27, u28, u29, u30, u31, u32, u33, u34, u35, u36, u37, u38, u39, u40, u41, u42, u43, u44, u45, undef], defers := [] } ∧ YInv5 w.heap.size gf A c zs M cf k q y w4 D v10 v21 v22 v23 v24 v25 v26 v27 W) ?h0 ?hs ?hd
      case h0 => exact ⟨u10, u21, u22, u23, u24, u25, u26, u27, rfl, ⟨(Below.refl _ _).drew, nofun, nofun, nofun, nofun, nofun, nofun, nofun, nofun, nofun⟩⟩
      case hs =>
        rintro D _ W ⟨v10, v21, v22, v23, v24, v25, v26, v27, rfl, hI⟩ i o ho hD hA K hK
        have hi' : i < 9 := (Array.getElem?_eq_some_iff.1 ho).1
        have HI := Lib.hid hI
        have HK := Lib.hid hK
        have HLX := Lib.hid (HLW.out.step hI.bl)
        clear hI hK HLW HO HNE HST HDy HBY HDAy HKAy HRy HSy
        obtain rfl | rfl | rfl | rfl | rfl | rfl | rfl | rfl | rfl : i = 0 ∨ i = 1 ∨ i = 2 ∨ i = 3 ∨ i = 4 ∨ i = 5 ∨ i = 6 ∨ i = 7 ∨ i = 8 := by omega
        all_goals (obtain rfl := Option.some.inj ho; clear ho hi'; simp [Region.binds] at hA)
        · have x0 := HLX.out.ht.c0
          have x1 := HLX.out.ht.c1
          go_simp
          exact HK.out _ _ ⟨_, _, _, _, _, _, _, _, rfl, ⟨(by simpa using HI.out.bl), (fun _ => rfl), (by simpa using HI.out.s22), (by simpa using HI.out.s23), (by simpa using HI.out.s24), (by simpa using HI.out.s25), (by simpa using HI.out.s26), (by simpa using HI.out.s27), (by simpa using HI.out.s10), (fun h => by have h2 := HI.out.o8 (by simpa using h); simp [h2.1, h2.2])⟩⟩
        · go_simp
          exact HK.out _ _ ⟨_, _, _, _, _, _, _, _, rfl, ⟨(by simpa using HI.out.bl), (by simpa using HI.out.s21), (fun _ => rfl), (by simpa using HI.out.s23), (by simpa using HI.out.s24), (by simpa using HI.out.s25), (by simpa using HI.out.s26), (by simpa using HI.out.s27), (by simpa using HI.out.s10), (fun h => by have h2 := HI.out.o8 (by simpa using h); simp [h2.1, h2.2])⟩⟩
        · go_simp
          exact HK.out _ _ ⟨_, _, _, _, _, _, _, _, rfl, ⟨(by simpa using HI.out.bl), (by simpa using HI.out.s21), (by simpa using HI.out.s22), (fun _ => rfl), (by simpa using HI.out.s24), (by simpa using HI.out.s25), (by simpa using HI.out.s26), (by simpa using HI.out.s27), (by simpa using HI.out.s10), (fun h => by have h2 := HI.out.o8 (by simpa using h); simp [h2.1, h2.2])⟩⟩
        · go_simp
          exact HK.out _ _ ⟨_, _, _, _, _, _, _, _, rfl, ⟨(by simpa using HI.out.bl), (by simpa using HI.out.s21), (by simpa using HI.out.s22), (by simpa using HI.out.s23), (fun _ => rfl), (by simpa using HI.out.s25), (by simpa using HI.out.s26), (by simpa using HI.out.s27), (by simpa using HI.out.s10), (fun h => by have h2 := HI.out.o8 (by simpa using h); simp [h2.1, h2.2])⟩⟩
        · obtain rfl := HI.out.s23 (by simp_all)
          obtain rfl := HI.out.s24 (by simp_all)
          go_simp
          exact HK.out _ _ ⟨_, _, _, _, _, _, _, _, rfl, ⟨(by simpa using HI.out.bl), (by simpa using HI.out.s21), (by simpa using HI.out.s22), (fun _ => rfl), (fun _ => rfl), (fun _ => rfl), (by simpa using HI.out.s26), (by simpa using HI.out.s27), (by simpa using HI.out.s10), (fun h => by have h2 := HI.out.o8 (by simpa using h); simp [h2.1, h2.2])⟩⟩
        · obtain rfl := HI.out.s25 (by simp_all)
          have hc := HCY.out W HLX.out
          go_simp
          exact HK.out _ _ ⟨_, _, _, _, _, _, _, _, rfl, ⟨(by simpa using HI.out.bl), (by simpa using HI.out.s21), (by simpa using HI.out.s22), (by simpa using HI.out.s23), (by simpa using HI.out.s24), (fun _ => rfl), (fun _ => rfl), (by simpa using HI.out.s27), (by simpa using HI.out.s10), (fun h => by have h2 := HI.out.o8 (by simpa using h); simp [h2.1, h2.2])⟩⟩
        · obtain rfl := HI.out.s21 (by simp_all)
          obtain rfl := HI.out.s22 (by simp_all)
          obtain rfl := HI.out.s26 (by simp_all)
          have h8 := notDR (fun h => (HI.out.o8 h).1) hD
          go_simp
          refine (HAy.out W HLX.out.si).mono ?_
          rintro e W' ⟨g, c', rfl, hg, ho, hb'⟩
          exact HK.out _ _ ⟨_, _, _, _, _, _, _, _, rfl, ⟨(HI.out.bl.trans (hb'.mono HI.out.bl.size)), (fun _ => rfl), (fun _ => rfl), (by simpa using HI.out.s23), (by simpa using HI.out.s24), (by simpa using HI.out.s25), (fun _ => rfl), (fun _ => ⟨g, c', rfl, Nat.le_trans HI.out.bl.size hg, ho⟩), (fun h => by obtain ⟨b, x, z, e, hb1, ht, hx⟩ := HI.out.s10 (by simpa using h); exact ⟨b, x, z, e, hb1, ht.step hb', fun h => by simp [h8] at h⟩), (fun h => by have h2 := HI.out.o8 (by simpa using h); simp [h2.1, h2.2])⟩⟩
        · have h8 := notDR (fun h => (HI.out.o8 h).2) hD
          have hb' : Below W.heap.size W (W.alloc (.cells #[.slice none 0 0, .int .i64 0] 26)) := (Below.refl _ _).alloc (Nat.le_refl _) _
          go_simp
          exact HK.out _ _ ⟨_, _, _, _, _, _, _, _, rfl, ⟨(HI.out.bl.trans (hb'.mono HI.out.bl.size)), (by simpa using HI.out.s21), (by simpa using HI.out.s22), (by simpa using HI.out.s23), (by simpa using HI.out.s24), (by simpa using HI.out.s25), (by simpa using HI.out.s26), (fun h => by obtain ⟨g, c', e, hg, ho⟩ := HI.out.s27 (by simpa using h); exact ⟨g, c', e, hg, own_same ho (hb'.block _ (own_lt ho))⟩), (fun _ => ⟨W.heap.size, .slice none 0 0, .int .i64 0, rfl, HI.out.bl.size, Two.new W _ _ _ _ rfl, fun h => by simp [h8] at h⟩), (fun h => by have h2 := HI.out.o8 (by simpa using h); simp [h2.1, h2.2])⟩⟩
        · have hA' : D 7 = true := by simp_all
          have hB' : D 6 = true := by simp_all
          obtain ⟨b, x, z, rfl, hb1, ht, _⟩ := HI.out.s10 hA'
          obtain ⟨g, c', rfl, hg, ho⟩ := HI.out.s27 hB'
          have c0 := ht.c0
          have c1 := ht.c1
          have f0 := ht.f0
          have f1 := ht.f1
          obtain ⟨hs2, hw2⟩ := stored2 ht.row (.slice (some ⟨g, 0, none⟩) zs.length c') (.int .i64 (M : Int))
          have hs2 := Lib.hid hs2
          have hw2 := Lib.hid hw2
          go_simp
          exact HK.out _ _ ⟨_, _, _, _, _, _, _, _, rfl, ⟨(HI.out.bl.trans (hw2.out.below hb1 HI.out.bl.size)), (by simpa using HI.out.s21), (by simpa using HI.out.s22), (by simpa using HI.out.s23), (by simpa using HI.out.s24), (by simpa using HI.out.s25), (by simpa using HI.out.s26), (fun _ => ⟨g, c', rfl, hg, own_same ho (hw2.out.block g (own_lt ho) (by have := own_two_neR ho ht; omega))⟩), (fun _ => ⟨b, _, _, rfl, hb1, ⟨hs2.out⟩, fun _ => rfl⟩), (fun _ => by simp [hA', hB'])⟩⟩
      case hd =>
        rintro D _ W ⟨v10, v21, v22, v23, v24, v25, v26, v27, rfl, hI⟩ hall
        obtain ⟨b10, x10, y10, rfl, hb10, ht10, h8⟩ := hI.s10 (hall 7 (by decide))
        obtain ⟨g, c1, rfl, hg, hog⟩ := hI.s27 (hall 6 (by decide))
        obtain ⟨rfl, rfl⟩ : x10 = .slice (some ⟨g, 0, none⟩) zs.length c1 ∧ y10 = .int .i64 (M : Int) := by
          have ee := h8 (hall 8 (by decide))
          simp at ee
          exact ⟨ee.1.symm, ee.2.symm⟩
        obtain rfl := hI.s21 (hall 0 (by decide))
        obtain rfl := hI.s22 (hall 1 (by decide))
        obtain rfl := hI.s23 (hall 2 (by decide))
        obtain rfl := hI.s24 (hall 3 (by decide))
        obtain rfl := hI.s25 (hall 4 (by decide))
        obtain rfl := hI.s26 (hall 5 (by decide))
        have H10 := Lib.hid ht10
        have HG := Lib.hid (own_insG hog)
        replace HLW := Lib.hid (HLW.out.step hI.bl)
        replace HO := Lib.hid (own_belowR HO.out hI.bl)
        clear hI hall ht10 h8 hog HAy
        refine NoPanic.normal ?_
        have k0 := H10.out.c0
        have k1 := H10.out.c1
        go_wp2_with fail
        with_reducible refine (HDAy.out g c1 W HG.out).mono ?_
        rintro e w5 ⟨rfl, hb⟩
        replace H10 := Lib.hid (H10.out.step hb)
        replace HG := Lib.hid (HG.out.step hb)
        replace HLW := Lib.hid (HLW.out.step hb)
        replace HO := Lib.hid (own_belowR HO.out hb)
        clear hb k0 k1 HDAy
        have k0 := H10.out.c0
        have k1 := H10.out.c1
        generalize doneL (afters zs (M : Int) q y) = dn at HDy ⊢
        cases dn with
        | true =>
          obtain rfl : by_ = false := HDy.out rfl
          clear HKAy HRy HSy HDy
          have HSTe : Hid (loseTo M qs zs q (k + 1) = fr) := Lib.hid (HST.out.trans (by simp))
          go_wp2
          go_roundw
          case rel => exact ⟨k + 1, by omega, by go_num, Lib.hid (by rw [HSTe.out]; exact HO.out), HNE, HLW⟩
          case measure => simp [intOf]; omega
        | false =>
          have hkI : (keyS M (afters zs (M : Int) q y) : Int) < (top : Int) := by omega
          obtain ⟨κ, hκ⟩ : ∃ k, k = keyS M (afters zs (M : Int) q y) := ⟨_, rfl⟩
          have HKE := Lib.hid hκ
          rw [← hκ] at HKAy hkI HRy
          clear hκ HKTy HDy
          go_wp2_with fail
          with_reducible refine (HKAy.out g c1 w5 HG.out).mono ?_
          rintro e w6 ⟨rfl, hb⟩
          replace HLW := Lib.hid (HLW.out.step hb)
          replace HO := Lib.hid (own_belowR HO.out hb)
          clear hb k0 k1 H10 HG HKAy
          have h5 := HLW.out.ft.at5 HSy.out (afters_len _ _ _ _)
          rw [← HKE.out, HRy.out, foR_t] at h5
          have k1 := h5.c1
          rw [HBY.out] at k1
          clear h5
          cases by_ with
          | true =>
            have HSTr := HST
            have hcy := HCY.out w6 HLW.out
            have hglt := lt_of_cellI HLW.out.l0.c
            go_wp2_with (at_builtin; go_must (refine wpList_append_lies _ rfl (.tmp 39) (.tmp 44) 36 rfl base 4 i0 (.bool false) 1 1 Try.underlying36 hi0 hz0 hz1 hz2 rfl (by decide) _ fr.length (fr.map Value.bool) rfl (HO.out.alloc _) ⟨w6.heap.size, 0, none⟩ 1 1 [.bool y] rfl rfl (cell_one_new _ _ _) (by simp [Value.oneCell']) (by decide) (by unfold maxLen; omega) (by omega) (by simp; omega) _ rfl ?_; intro ga ca wa hown ha hblk hlta))
            have hbo := (Below.refl w6.heap.size w6).alloc (Nat.le_refl _) (.cells #[.bool y] 4)
            have HLW2 := Lib.hid ((HLW.out.step hbo).grown (HO.out.alloc _) ha HNE.out (by omega) (by omega) (by omega) (by omega))
            have HO2 := Lib.hid (bool_snoc11 hown rfl)
            have HNE2 : Hid ((Value.slice (some ⟨ga, 0, none⟩) (fr.length + 1) ca).ownBlock ≠ some gf) := Lib.hid (fun e => by
              have e2 : ga = gf := by injection e
              subst e2
              rcases hblk with h | h
              · exact HNE.out h
              · simp at h; omega)
            clear hown ha hblk hlta hbo HO HLW HNE hcy HSTr
            go_wp2
            go_roundw
            case rel => exact ⟨k + 1, by omega, by go_num, Lib.hid (by rw [HST.out]; exact HO2.out), HNE2, HLW2⟩
            case measure => simp [intOf]; omega
          | false =>
            have HSTe : Hid (loseTo M qs zs q (k + 1) = fr) := Lib.hid (HST.out.trans (by simp))
            go_wp2
            go_roundw
            case rel => exact ⟨k + 1, by omega, by go_num, Lib.hid (by rw [HSTe.out]; exact HO.out), HNE, HLW⟩
            case measure => simp [intOf]; omega
    · obtain rfl : k = 2 := by omega
      have hltI : ¬ ((2 : Nat) : Int) < 2 := by omega
      have HFL : Hid (loseTo M qs zs q 2 = loseL M qs zs q) := Lib.hid rfl
      rw [HFL.out] at HO
      obtain ⟨F, c', rfl, hcap, hr⟩ := own_resB11 HO.out rfl
      have HX := Lib.hid (bres_wide hr (show w.heap.size ≤ base by omega))
      have HB := Lib.hid HLW.out.bl
      have HCap := Lib.hid hcap
      clear hr hcap HO HNE HLW HFL
      go_wp2
      go_ret
      first | exact ⟨_, _, rfl, HCap.out, HX.out, HB.out⟩ | exact ⟨_, ⟨_, rfl⟩, HCap.out, HX.out, HB.out⟩ | exact ⟨⟨_, rfl⟩, HCap.out, HX.out, HB.out⟩ | exact ⟨rfl, HCap.out, HX.out, HB.out⟩ | exact ⟨HCap.out, HX.out, HB.out⟩
end Go.Proofs.Ytopgccficjkenaa
