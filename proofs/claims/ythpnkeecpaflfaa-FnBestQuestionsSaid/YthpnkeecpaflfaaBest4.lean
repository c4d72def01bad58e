/- l4Best. -/
import Derived.Test.YthpnkeecpaflfaaSNeed
import Derived.Test.YthpnkeecpaflfaaNeeds
namespace Go.Proofs.Ythpnkeecpaflfaa
open Go.RowKit Go.ChangeShapes Go.WideShapes
set_option linter.unusedVariables false

def bestTo (r : Row) (k : Nat) : List Row := ((List.range k).map (splitR r)).filter fun s => valR r s == needR r
theorem bestTo_all (r : Row) : bestTo r (cntR r) = bestR r := rfl
theorem bestTo_yes {r : Row} {k : Nat} (h : valR r (splitR r k) = needR r) : bestTo r (k + 1) = bestTo r k ++ [splitR r k] := by
  simp [bestTo, List.range_succ, List.filter_append, h]
theorem bestTo_no {r : Row} {k : Nat} (h : valR r (splitR r k) ≠ needR r) : bestTo r (k + 1) = bestTo r k := by
  simp [bestTo, List.range_succ, List.filter_append, h]
theorem bestTo_len (r : Row) (k : Nat) : (bestTo r k).length ≤ k := by
  have h := List.length_filter_le (fun s => valR r s == needR r) ((List.range k).map (splitR r))
  simpa [bestTo] using h
theorem sn_iff {r s : Row} (h8 : rsum r ≤ 8) (hs : Fits s r) : snR r s = ((needR r : Nat) : Int) ↔ valR r s = needR r := by
  unfold snR
  cases hb : backR r s with
  | true =>
    have := back_val h8 hs hb
    simp only [if_true]
    omega
  | false =>
    simp only [Bool.false_eq_true, if_false]
    omega
theorem Rows2.keep {w w' : World} {B : Nat} {v : Value} {L : List (List Int)} (h : Rows2 w B v L) (hk : ∀ i, B ≤ i → i < w.heap.size → w'.heap[i]? = w.heap[i]?) : Rows2 w' B v L := by
  obtain ⟨vs, ho, he⟩ := h.ex
  refine ⟨vs, ⟨ho.1, ho.2.imp id fun ⟨g, cap, cur, a, b, hg, r⟩ => ⟨g, cap, cur, a, b, (hk g b (row_ltI hg)).trans hg, r⟩⟩, fun i hi => ?_⟩
  obtain ⟨g, c, h1, h2, h3⟩ := he i hi
  exact ⟨g, c, h1, h2, own_same h3 (hk g h2 (own_lt h3))⟩
/-- What the walk of the splits keeps. -/
structure BK (b s : Nat) (w2 wr : World) (v : Value) : Prop where
  keep : ∀ i, i ≠ b → i < w2.heap.size → wr.heap[i]? = w2.heap[i]?
  size : w2.heap.size ≤ wr.heap.size
  own : ∀ q, v.ownBlock = some q → (q = b ∨ w2.heap.size ≤ q) ∧ q < wr.heap.size
  os : wr.os = w2.os
  tape : wr.tape = w2.tape
  output : wr.output = w2.output
theorem BK.below {b s : Nat} {w2 wr w' : World} {v : Value} (h : BK b s w2 wr v) (hb : Below wr.heap.size wr w') : BK b s w2 w' v :=
  ⟨fun i hi hl => (hb.block i (Nat.lt_of_lt_of_le hl h.size)).trans (h.keep i hi hl), Nat.le_trans h.size hb.size, fun q e => ⟨(h.own q e).1, Nat.lt_of_lt_of_le (h.own q e).2 hb.size⟩, hb.os.trans h.os, hb.tape.trans h.tape, hb.output.trans h.output⟩
theorem BK.grown {b s g n c H : Nat} {w2 wr w' : World} {v : Value} (h : BK b s w2 wr v) (hg : wr.grownBy w' v.ownBlock) (hb : v.ownBlock = some g ∨ g = H) (hH : wr.heap.size = H) (hl : g < w'.heap.size) : BK b s w2 w' (.slice (some ⟨g, 0, none⟩) n c) :=
  ⟨fun i hi hlt => (hg.block i (Nat.lt_of_lt_of_le hlt h.size) (fun e => by
      rcases (h.own i e.symm).1 with e1 | e1
      · exact hi e1
      · omega)).trans (h.keep i hi hlt), Nat.le_trans h.size hg.size, fun q e => by
      have e : g = q := by injection e
      subst e
      refine ⟨?_, hl⟩
      rcases hb with hb | hb
      · exact (h.own _ hb).1
      · exact .inr (by have := h.size; omega), hg.os.trans h.os, hg.tape.trans h.tape, hg.output.trans h.output⟩

set_option maxRecDepth 100000 in
set_option maxHeartbeats 2000000 in
theorem l4Best_any (A : Option Addr) (c lo hi_ p : Nat) (r : Row) (w : World) (hS : Ins w lo hi_ A (lstR p r)) (hw : Wide p r) (h8 : rsum r ≤ 8) :
    Calls Try.prog 25 #[.slice A p c] w fun e w' => ∃ v, e = .returned v ∧ Rows2 w' w.heap.size v ((bestR r).map (lstR p)) ∧ Below w.heap.size w w' := by
  have hp := hw.le
  have hp9 := pow9 hp
  have hcnt := cnt_le h8
  obtain ⟨j0, hj0, hy0, hy1, hy2⟩ := info_parts infoS
  have HS := Lib.hid hS
  have htop := hS.top
  have HNs := Lib.hid (fun W => l4Needs_any p W hp)
  have HSp := Lib.hid (fun W h => l4Splits_any A c lo hi_ p r W h hw h8)
  have HK := Lib.hid (fun W h => l4Key_any A c lo hi_ p r W h hw h8)
  have HSn := Lib.hid (fun i (hi : i < cntR r) B cB loB hiB C cC loC hiC W h h3 h2 => l4SplitNeed_any A c lo hi_ C cC loC hiC B cB loB hiB p r (splitR r i) W h h3 h2 hw h8 (split_fits h8 hi))
  have HIf := Lib.hid (fun i (hi : i < cntR r) => sn_iff h8 (split_fits h8 hi))
  have hkl := key_lt hw h8
  have HFA := Lib.hid (found_all h8)
  have HFL := Lib.hid (foundL_len p 10)
  have HAL := Lib.hid (splAll_len p r)
  have HLS := Lib.hid (fun i => lst_len hp (splitR r i))
  have hnl := need_le h8
  generalize keyR r = ky at HK hkl HFA
  have hkyI : (ky : Int) < ((9 ^ p : Nat) : Int) := by omega
  have HE0 := Lib.hid (rows2_nil w w.heap.size (Nat.le_refl _))
  have B1 := (Below.refl _ w).alloc (Nat.le_refl _) (.cells #[] 24)
  have HB1 := Lib.hid B1
  have HS1 := Lib.hid (hS.step B1)
  have hsz1 : (w.alloc (.cells #[] 24)).heap.size = w.heap.size + 1 := by simp
  clear hS B1
  go_enter Try.func25, Try.ntmps25
  go_wp2_with fail
  generalize w.alloc (.cells #[] 24) = wa at HE0 HB1 HS1 hsz1 ⊢
  refine (HNs.out wa).mono ?_
  rintro e wb ⟨g, cg, rfl, hg, ho, hb⟩
  have HO := Lib.hid ho
  have HBb := Lib.hid hb
  have HSb := Lib.hid (HS1.out.step hb)
  have hglt := own_lt ho
  clear ho hb HNs
  go_wp2_with fail
  refine (HSp.out wb HSb.out).mono ?_
  rintro e w2 ⟨v2, rfl, hrows, hb⟩
  obtain ⟨Ao, co, rfl⟩ := hrows.slice
  rw [HAL.out]
  have HR := Lib.hid (hrows.base (by omega : w.heap.size + 1 ≤ wb.heap.size))
  have HO2 := Lib.hid (own_same HO.out (hb.block _ hglt))
  have HBw := Lib.hid (below_trans HBb.out hb)
  have HE2 := Lib.hid ((HE0.out.past (Past.of_below HBb.out)).past (Past.of_below hb))
  have hs2 := HBw.out.size
  have hgl2 := own_lt HO2.out
  clear hrows hb HE0 HO HSp HBb HSb
  have HK0 : Hid (BK w.heap.size 0 w2 w2 (.slice (some ⟨w.heap.size, 0, none⟩) 0 0)) := Lib.hid ⟨fun i _ _ => rfl, Nat.le_refl _, fun q e => by (have e : w.heap.size = q := (by injection e)); exact ⟨.inl e.symm, by omega⟩, rfl, rfl, rfl⟩
  go_wp2_with fail
  generalize (Value.slice (some ⟨w.heap.size, 0, none⟩) 0 0) = v0 at HE2 HK0 ⊢
  go_loopw [3, 6] (fun v i wr => ∃ (k : Nat), k ≤ cntR r ∧ i = .int .i64 k ∧ Hid (Rows2 wr w.heap.size v ((bestTo r k).map (lstR p))) ∧ Hid (BK w.heap.size 0 w2 wr v)) (fun _ i _ => cntR r - (intOf i).toNat)
  case atStart => exact ⟨0, Nat.zero_le _, rfl, by simpa [bestTo] using HE2, HK0⟩
  case round =>
    clear HE2 HK0
    obtain ⟨k, hk, rfl, HV, HKp⟩ := hrel
    rename World => w3
    have hbl := bestTo_len r k
    have hs3 := HKp.out.size
    have HB3 : Hid (Below w.heap.size w w3) := Lib.hid (by
      have h2 := HB1.out.trans (HBw.out.mono (by omega : w.heap.size ≤ wa.heap.size))
      exact ⟨HKp.out.os.trans h2.os, HKp.out.tape.trans h2.tape, HKp.out.output.trans h2.output, Nat.le_trans h2.size HKp.out.size, fun i hi => (HKp.out.keep i (by omega) (by omega)).trans (h2.block i hi)⟩)
    by_cases hlt : k < cntR r
    · have HR3 := Lib.hid (HR.out.keep (fun i hi hl => HKp.out.keep i (by omega) hl))
      have HS3 := Lib.hid (HS.out.past (Past.of_below HB3.out |> fun h => past_base h (Nat.le_refl _)) (by omega) : Ins w3 lo hi_ A (lstR p r))
      have HO3 := Lib.hid (own_same HO2.out (HKp.out.keep g (by omega) hgl2))
      obtain ⟨gb, cap, ge, ce, hve, hcell, hge, hOw⟩ := HR3.out.at_ (i := k) (by rw [HAL.out]; exact hlt)
      have hge2 : ge ≠ w.heap.size := by omega
      injection hve with hA hl hcap
      subst hA hcap
      rw [splAll_at, HLS.out] at hcell
      rw [splAll_at] at hOw
      clear hl
      have HOw := Lib.hid (Ins.mk hOw.ints (own_lt hOw))
      have HOw' := Lib.hid hOw
      have HON := Lib.hid (Ins.mk HO3.out.ints (own_lt HO3.out))
      have hkc := own_cell HO3.out (k := ky) (by rw [HFL.out]; exact hkl)
      rw [show (foundL p 10).getD ky 0 = ((needR r : Nat) : Int) from by rw [← HFA.out]; simp [foundL, List.getD, hkl]] at hkc
      have HSnk := Lib.hid (HSn.out k hlt)
      have HIfk := Lib.hid (HIf.out k hlt)
      have hgb3 : gb < w3.heap.size := by
        have := hcell
        simp only [World.cell?] at this
        rcases Nat.lt_or_ge gb w3.heap.size with h1 | h1
        · exact h1
        · simp [Array.getElem?_eq_none h1] at this
      have hg3 := own_lt HO3.out
      clear hOw HSn HIf HR3
      go_wp2_with fail
      refine (HSnk.out (some ⟨ge, 0, none⟩) ce ge (ge + 1) (some ⟨g, 0, none⟩) cg g (g + 1) w3 HS3.out HOw.out HON.out).mono ?_
      rintro e w4 ⟨rfl, hb4⟩
      have HV4 := Lib.hid (HV.out.past (Past.of_below hb4))
      have HK4 := Lib.hid (HKp.out.below hb4)
      have HS4 := Lib.hid (HS3.out.step hb4)
      have hkc4 := (hb4.cell (p := ⟨g, ky, none⟩) hg3).trans hkc
      have hcell4 := (hb4.cell (p := ⟨gb, k, none⟩) hgb3).trans hcell
      have HOw4 := Lib.hid (own_same HOw'.out (hb4.block _ (own_lt HOw'.out)))
      have hs4 := HK4.out.size
      clear hb4 hkc hcell HSnk HV HKp HS3 HO3 HOw HOw' HON
      go_wp2_with fail
      refine (HK.out w4 HS4.out).mono ?_
      rintro e w5 ⟨rfl, rfl⟩
      generalize hsn : snR r (splitR r k) = sv at HIfk ⊢
      clear hsn
      by_cases hsv : sv = ((needR r : Nat) : Int)
      · have HY := Lib.hid (bestTo_yes (HIfk.out.1 hsv))
        obtain ⟨vs, hov, hev⟩ := HV4.out.ex
        have HOv := Lib.hid hov
        have HEv := Lib.hid hev
        have HLn := Lib.hid (HLS.out k)
        have hlm : ((bestTo r k).map (lstR p)).length ≤ 48 := by rw [List.length_map]; omega
        generalize hLL : (bestTo r k).map (lstR p) = LL at HOv HEv hlm HV4
        have HLL := Lib.hid hLL
        clear hov hev hLL
        go_wp2_with (at_builtin; refine wpList_append_lies _ rfl (.tmp 32) (.tmp 37) 46 rfl w.heap.size 24 j0 (.slice none 0 0) 1 24 Try.underlying46 hj0 hy0 hy1 hy2 rfl (by decide) u3 LL.length vs rfl (HOv.out.alloc _) ⟨w5.heap.size, 0, none⟩ 1 1 [.slice (some ⟨ge, 0, none⟩) p ce] rfl rfl (cell_one_new _ _ _) (by simp [Value.oneCell']) (by decide) (by unfold maxLen; omega) (by omega) (by simp; omega) _ rfl ?_; intro ga ca wf hown ha hblk hlta; rw [show p = (lstR p (splitR r k)).length from HLn.out.symm] at hown; have HVn := Lib.hid (Rows2.snoc (l := lstR p (splitR r k)) (HOv.out.alloc (.cells #[.slice (some ⟨ge, 0, none⟩) p ce] 24)) (he_past HEv.out (past_alloc (Past.refl w5.heap.size w5) (.cells #[.slice (some ⟨ge, 0, none⟩) p ce] 24))) hown ha (by omega) (own_same HOw4.out (((Below.refl _ w5).alloc (Nat.le_refl _) (.cells #[.slice (some ⟨ge, 0, none⟩) p ce] 24)).block _ (own_lt HOw4.out)))); have HKn := Lib.hid ((HK4.out.below ((Below.refl _ w5).alloc (Nat.le_refl _) (.cells #[.slice (some ⟨ge, 0, none⟩) p ce] 24))).grown (n := LL.length + 1) (c := ca) ha hblk rfl hlta); clear hown ha hblk hlta)
        go_wp2
        go_roundw
        case rel => exact ⟨k + 1, by omega, by go_num, by rw [HY.out, List.map_append, HLL.out]; exact HVn, HKn⟩
        case measure => simp [intOf]; omega
      · have HN := Lib.hid (bestTo_no (fun h => hsv (HIfk.out.2 h)))
        go_wp2
        go_roundw
        case rel => exact ⟨k + 1, by omega, by go_num, by rw [HN.out]; exact HV4, HK4⟩
        case measure => simp [intOf]; omega
    · obtain rfl : k = cntR r := by omega
      rw [bestTo_all] at HV
      go_wp2
      go_ret
      exact ⟨_, rfl, HV.out, HB3.out⟩
end Go.Proofs.Ythpnkeecpaflfaa
