/- Rooms and the states that they keep: the specification's. -/
import Derived.Test.YtpjoljaamakagaaL12U
import Derived.Deep.AppendLies
namespace Go.Proofs.Ytpjoljaamakagaa
open Go.RowKit Go.ChangeShapes Go.WideShapes
set_option linter.unusedVariables false
set_option linter.unusedSimpArgs false

theorem ne_rw {w : World} {B n b : Nat} {v : Value} {xs : List Value} {cs : Array Value} {t : TypeId} (h : w.ownsRow B 3 1 v n xs) (hT : Rw w b cs t) (hne : 3 ≠ t) : v.ownBlock ≠ some b := by
  intro e
  rcases h.2 with ⟨rfl, _⟩ | ⟨g, cap, cur, rfl, _, hg, _⟩
  · cases e
  · have e' : g = b := by injection e
    subst e'
    rw [hT.row] at hg
    injection hg with hg
    injection hg with _ ht
    exact absurd ht.symm hne
theorem Rw.grown {w w' : World} {b : Nat} {cs : Array Value} {t : TypeId} {r : Option Nat} (h : Rw w b cs t) (hg : w.grownBy w' r) (hne : r ≠ some b) : Rw w' b cs t := ⟨(hg.block b h.lt (fun e => hne e.symm)).trans h.row⟩
theorem grown_setR {w : World} {b i : Nat} (u : Value) : w.grownBy (w.setCell ⟨b, i, none⟩ u) (some b) :=
  ⟨rfl, rfl, rfl, by simp [World.setCell], fun k hk hne => Below.heap_setCell w ⟨b, i, none⟩ u k (fun e => hne (by rw [show k = b from e]))⟩
theorem lz_snoc (p : Nat → Int) (k : Nat) : lz p (k + 1) = lz p k ++ [p k] := by simp [lz, List.range_succ]
theorem lz_snoc_v (p : Nat → Int) (k : Nat) : (lz p k).map (Value.int .i64) ++ [Value.int .i64 (p k)] = (lz p (k + 1)).map (Value.int .i64) := by rw [lz_snoc]; simp
set_option maxRecDepth 100000 in
set_option maxHeartbeats 8000000 in
theorem l12State_any (p : Nat → Int) (k : Nat) (m cnt : Int) (w : World) (h1 : 1 ≤ k) (h12 : k ≤ 12) :
    Calls Try.prog 73 #[.agg (rmA p k m cnt)] w fun e w' => ∃ B d, e = .returned (.agg #[.slice B (lz p k).length d, .int .i64 m]) ∧ (lz p k).length ≤ d ∧ Res w' w.heap.size w'.heap.size B (lz p k) ∧ Below w.heap.size w w' := by
  obtain ⟨i0, hi0, hy0, hy1, hy2⟩ := info_parts infoI3
  have HT1 := Lib.hid ((((Rw.new w (rmA p k m cnt) 26 w.heap.size rfl).step ((Below.refl _ _).alloc (Nat.le_refl _) (.cells #[.slice none 0 0, .int .i64 0] 35))).step ((Below.refl _ _).alloc (Nat.le_refl _) (.cells #[] 3))).step ((Below.refl _ _).alloc (Nat.le_refl _) (.cells #[.slice (some ⟨w.heap.size + 2, 0, none⟩) 0 0, .int .i64 m] 35)))
  have HT2 := Lib.hid (((Rw.new (w.alloc (.cells (rmA p k m cnt) 26)) #[.slice none 0 0, .int .i64 0] 35 (w.heap.size + 1) (by simp)).step ((Below.refl _ _).alloc (Nat.le_refl _) (.cells #[] 3))).step ((Below.refl _ _).alloc (Nat.le_refl _) (.cells #[.slice (some ⟨w.heap.size + 2, 0, none⟩) 0 0, .int .i64 m] 35)))
  have HT3 := Lib.hid (Rw.new (((w.alloc (.cells (rmA p k m cnt) 26)).alloc (.cells #[.slice none 0 0, .int .i64 0] 35)).alloc (.cells #[] 3)) #[.slice (some ⟨w.heap.size + 2, 0, none⟩) 0 0, .int .i64 m] 35 (w.heap.size + 3) (by simp))
  have HO := Lib.hid ((O0_any ((w.alloc (.cells (rmA p k m cnt) 26)).alloc (.cells #[.slice none 0 0, .int .i64 0] 35)) (w.heap.size + 2) (by simp)).alloc (.cells #[.slice (some ⟨w.heap.size + 2, 0, none⟩) 0 0, .int .i64 m] 35))
  have HB := Lib.hid (((((Below.refl w.heap.size w).alloc (Nat.le_refl _) (.cells (rmA p k m cnt) 26)).alloc (by simp) (.cells #[.slice none 0 0, .int .i64 0] 35)).alloc (by simp; omega) (.cells #[] 3)).alloc (by simp; omega) (.cells #[.slice (some ⟨w.heap.size + 2, 0, none⟩) 0 0, .int .i64 m] 35))
  rw [show ((w.alloc (.cells (rmA p k m cnt) 26)).alloc (.cells #[.slice none 0 0, .int .i64 0] 35)).heap.size = w.heap.size + 2 by simp] at HO
  rw [lz_len]
  go_enter Try.func73, Try.ntmps73
  simp only [rmA] at HT1 HT2 HT3 HO HB ⊢
  go_wp2_with fail
  generalize (((w.alloc (.cells #[.int .i64 (p 0), .int .i64 (p 1), .int .i64 (p 2), .int .i64 (p 3), .int .i64 (p 4), .int .i64 (p 5), .int .i64 (p 6), .int .i64 (p 7), .int .i64 (p 8), .int .i64 (p 9), .int .i64 (p 10), .int .i64 (p 11), .int .i64 k, .int .i64 m, .int .i64 cnt] 26)).alloc (.cells #[.slice none 0 0, .int .i64 0] 35)).alloc (.cells #[] 3)).alloc (.cells #[.slice (some ⟨w.heap.size + 2, 0, none⟩) 0 0, .int .i64 m] 35) = wa at HT1 HT2 HT3 HO HB ⊢
  go_loopw [4] (fun i wr => ∃ (j : Nat) (A' : Option Addr) (c1 : Nat), j ≤ k ∧ i = .int .i64 (j : Int) ∧ Hid (Rw wr w.heap.size (rmA p k m cnt) 26) ∧ Hid (Rw wr (w.heap.size + 1) #[.slice none 0 0, .int .i64 0] 35) ∧ Hid (Rw wr (w.heap.size + 3) #[.slice A' j c1, .int .i64 m] 35) ∧ Hid (wr.ownsRow (w.heap.size + 2) 3 1 (.slice A' j c1) j ((lz p j).map (Value.int .i64))) ∧ Hid (Below w.heap.size w wr)) (fun i _ => k - (intOf i).toNat)
  case atStart => exact ⟨0, some ⟨w.heap.size + 2, 0, none⟩, 0, Nat.zero_le _, rfl, HT1, HT2, HT3, HO, HB⟩
  case round =>
    clear HT1 HT2 HT3 HO HB
    obtain ⟨j, A', c1, hj, rfl, HT1, HT2, HT3, HO, HB⟩ := hrel
    rename World => wr
    have c12 := HT1.out.cell (i := 12) (v := .int .i64 k) rfl
    have d0 := HT3.out.cell (i := 0) (v := .slice A' j c1) rfl
    have hne1 : 3 ≠ 26 := by decide
    have hne2 : 3 ≠ 35 := by decide
    by_cases hlt : j < k
    · have hltI : (j : Int) < (k : Int) := by omega
      have hj12 : (j : Int) < 12 := by omega
      have hj12n : j < 12 := by omega
      have hc := HT1.out.cell (rmA_at p k m cnt (k := j) (by omega))
      generalize hx : p j = x at hc
      have HX := Lib.hid hx
      clear hx
      have hmaxl : j + 1 ≤ maxLen := by unfold maxLen; omega
      have hbyt : (j + 1) * 8 ≤ 140737488355328 := by omega
      have hst1 := ((Below.refl wr.heap.size wr).alloc (Nat.le_refl _) (.cells #[.int .i64 x] 3)).drew
      have HOa := Lib.hid (show (wr.alloc (.cells #[.int .i64 x] 3)).drew.ownsRow (w.heap.size + 2) 3 1 (.slice A' j c1) j ((lz p j).map (Value.int .i64)) from HO.out.alloc _)
      have HT1a := Lib.hid (HT1.out.step hst1)
      have HT2a := Lib.hid (HT2.out.step hst1)
      have HT3a := Lib.hid (HT3.out.step hst1)
      have HBa := Lib.hid (below_trans HB.out hst1)
      have HCa : Hid (∀ (i : Nat) (v : Value), [Value.int .i64 x][i]? = some v → (wr.alloc (.cells #[.int .i64 x] 3)).drew.cell? ((⟨wr.heap.size, 0, none⟩ : Addr).add i) = some v) := Lib.hid (cell_one_new _ _ _)
      have HLa : Hid (w.heap.size + 2 ≤ (wr.alloc (.cells #[.int .i64 x] 3)).drew.heap.size) := Lib.hid (Nat.le_trans (Nat.le_of_lt (Nat.lt_of_succ_lt HT3.out.lt)) hst1.size)
      have d0a := HT3a.out.cell (i := 0) (v := .slice A' j c1) rfl
      clear hst1
      go_wp2_with fail
      go_region_law (first
        | (rw [if_pos (by simp [Region.wanted])]; refine wp_append_lies ((wr.alloc (.cells #[.int .i64 x] 3)).drew) (.tmp 16) (.tmp 21) 29 rfl (w.heap.size + 2) 3 i0 (.int .i64 0) 1 8 Try.underlying29 hi0 hy0 hy1 hy2 rfl (by decide) (.slice A' j c1) j ((lz p j).map (Value.int .i64)) rfl HOa.out ⟨wr.heap.size, 0, none⟩ 1 1 [.int .i64 x] rfl rfl HCa.out (fun u hu => by rw [List.mem_singleton.1 hu]; rfl) (by decide) hmaxl hbyt HLa.out _ rfl ?_; intro g cap w5 hown hgrow hat hlt5; have HT3_5 := Lib.hid (HT3a.out.grown hgrow (ne_rw HOa.out HT3a.out hne2)); have HT2_5 := Lib.hid (HT2a.out.grown hgrow (ne_rw HOa.out HT2a.out hne2)); have HT1_5 := Lib.hid (HT1a.out.grown hgrow (ne_rw HOa.out HT1a.out hne1)); have HB5 := Lib.hid (HBa.out.grown hgrow HBa.out.size (fun q hq => by have := HOa.out.lt q hq; omega)); have HO5 := Lib.hid hown; have q0 := HT3_5.out.cell (i := 0) (v := .slice A' j c1) rfl; have q2 := HT3_5.out.free 0; clear hown hgrow hat hlt5))
      all_goals
        rw [← HX.out, lz_snoc_v] at HO5
        have HSET := Lib.hid (HT3_5.out.set (k := 0) (.slice (some ⟨g, 0, none⟩) (j + 1) cap))
        have HNE := Lib.hid (ne_rw HO5.out HT3_5.out hne2)
        have HOS := Lib.hid (HO5.out.kept (grown_setR (b := w.heap.size + 3) (i := 0) (.slice (some ⟨g, 0, none⟩) (j + 1) cap)) (.inr HNE.out))
        have HS1 := Lib.hid (HT1_5.out.far (g := w.heap.size + 3) (by omega) 0 (.slice (some ⟨g, 0, none⟩) (j + 1) cap))
        have HS2 := Lib.hid (HT2_5.out.far (g := w.heap.size + 3) (by omega) 0 (.slice (some ⟨g, 0, none⟩) (j + 1) cap))
        have HSB := Lib.hid (below_setR HB5.out (g := w.heap.size + 3) (by omega) 0 (.slice (some ⟨g, 0, none⟩) (j + 1) cap))
        clear HT1 HT2 HT3 HO HB HOa HT1a HT2a HT3a HBa HCa HLa HX hc d0 d0a c12 HO5 HNE HT1_5 HT2_5 HT3_5 HB5
        go_wp2
        go_roundw
        case rel => exact ⟨j + 1, some ⟨g, 0, none⟩, cap, by omega, by go_num, HS1, HS2, HSET, HOS, HSB⟩
        case measure => simp [intOf]; omega
    · obtain rfl : j = k := by omega
      obtain ⟨A2, c2, hAc, hlc, hres⟩ := own_res HO.out (by rw [lz_len])
      rw [lz_len] at hAc hlc
      have hA : A2 = A' ∧ c2 = c1 := by injection hAc with h1 h2 h3; exact ⟨h1.symm, h3.symm⟩
      obtain ⟨rfl, rfl⟩ := hA
      have HRs := Lib.hid hres
      have HLC := Lib.hid hlc
      have d1 := HT3.out.cell (i := 1) (v := .int .i64 m) rfl
      have e0 := HT2.out.cell (i := 0) (v := .slice none 0 0) rfl
      have e1 := HT2.out.cell (i := 1) (v := .int .i64 0) rfl
      have f0 := HT2.out.free 0
      have f1 := HT2.out.free 1
      obtain ⟨hs, hw⟩ := stored2 HT2.out.row (.slice A2 j c2) (.int .i64 m)
      have HRF := Lib.hid (Res.within (⟨HRs.out.own.wide (Nat.le_refl _) (Nat.le_refl _), HRs.out.top⟩ : Res wr (w.heap.size + 2) wr.heap.size A2 (lz p j)) hw (.inr (Nat.le_refl _)))
      have HBF := Lib.hid (HB.out.trans (hw.below (by omega) HB.out.size))
      have hsz := hw.size
      clear hres hAc HO hlt HRs hw HT1 HT3
      go_wp2
      generalize ((wr.setCell ⟨w.heap.size + 1, 0, none⟩ (.slice A2 j c2)).setCell ⟨w.heap.size + 1, 1, none⟩ (.int .i64 m)) = wf at hs HRF HBF hsz ⊢
      have g0 := two0 hs
      have g1 := two1 hs
      refine bodyPost_ret (v := .agg #[.slice A2 j c2, .int .i64 m]) (by simp [results, go_sem, g0, g1]) rfl ?_
      exact ⟨A2, c2, rfl, HLC.out, ⟨HRF.out.own.wide (by omega) hsz, Nat.le_refl _⟩, HBF.out⟩
end Go.Proofs.Ytpjoljaamakagaa
