/- ParseState: the program's function. -/
import Derived.Test.YtdolonmjhlhkeabDoorPSc
import Derived.Test.YtdolonmjhlhkeabDoorParse2
import Derived.Test.YtdolonmjhlhkeabDoorUpd
namespace Go.Proofs.YtdolonmjhlhkeabDoor
open Go.RowKit Go.ChangeShapes Go.WideShapes
set_option linter.unusedVariables false

theorem parseLies_any (b : UInt8) (w : World) :
    Calls Tryd.prog 13 #[.int .u8 (b.toNat : Int)] w fun e w' => e = .returned (.tuple #[.int .i64 (if okB b = true then lieB b else 0), .bool (okB b)]) ∧ w' = w := by
  have hb := b.toNat_lt
  by_cases h45 : b.toNat = 45
  · rw [byte_45 h45]
    rw [show okB 45 = true from rfl, if_pos rfl, lieB_open]
    rw [show (((45 : UInt8).toNat : Nat) : Int) = 45 from rfl]
    clear h45 hb
    go_enter Tryd.func13, Tryd.ntmps13
    go_wp2
    go_ret2
    exact ⟨rfl, rfl⟩
  · have hI : ¬ (b.toNat : Int) = 45 := by omega
    by_cases h1 : 48 ≤ b.toNat
    · by_cases h2 : b.toNat ≤ 57
      · rw [show okB b = true from okB_iff.2 (.inr ⟨h1, h2⟩), if_pos rfl, lieB_digit (byte_ne45 h45)]
        have i1 : ¬ (b.toNat : Int) < 48 := by omega
        have i2 : ¬ (57 : Int) < (b.toNat : Int) := by omega
        clear h45 h1 h2
        go_enter Tryd.func13, Tryd.ntmps13
        go_wp2
        go_ret2
        exact ⟨rfl, rfl⟩
      · have hn : okB b = false := by rw [Bool.eq_false_iff, Ne, okB_iff]; exact fun h => h.elim (fun h => h45 (by rw [h]; rfl)) (fun h => h2 h.2)
        rw [hn, if_neg (by decide)]
        have i1 : ¬ (b.toNat : Int) < 48 := by omega
        have i2 : (57 : Int) < (b.toNat : Int) := by omega
        clear h45 h1 h2 hn
        go_enter Tryd.func13, Tryd.ntmps13
        go_wp2
        go_ret2
        exact ⟨rfl, rfl⟩
    · have hn : okB b = false := by rw [Bool.eq_false_iff, Ne, okB_iff]; exact fun h => h.elim (fun h => h45 (by rw [h]; rfl)) (fun h => h1 h.1)
      rw [hn, if_neg (by decide)]
      have i1 : (b.toNat : Int) < 48 := by omega
      clear h45 h1 hn
      go_enter Tryd.func13, Tryd.ntmps13
      go_wp2
      go_ret2
      exact ⟨rfl, rfl⟩

theorem cut_call (s : ByteArray) (hs : s.size ≤ 1048576) (W : World) (hM : MaxL W) (bf af : List UInt8) (fd : Bool) (hc : Lib.cut s.data.toList [58] = (bf, af, fd)) :
    Calls Tryd.prog 10 #[.string s, .string ⟨#[58]⟩] W fun e w' => e = .returned (.tuple #[.string ⟨bf.toArray⟩, .string ⟨af.toArray⟩, .bool fd]) ∧ Below W.heap.size W w' := by
  obtain ⟨_, m, hm⟩ := hM
  have C := Tryd.strings_Cut s ⟨#[58]⟩ m W (by omega) hm
  rw [show (⟨#[58]⟩ : ByteArray).data.toList = [58] from rfl, hc] at C
  refine C.mono ?_
  rintro e w' ⟨he, n, rfl⟩
  exact ⟨he, below_drewN (Below.refl _ _) n⟩
theorem parse_call (t : List UInt8) (ht : t.length ≤ 1048576) (W : World) (hP : Pow W) (hE : Errs W) :
    Calls Tryd.prog 11 #[.string ⟨t.toArray⟩] W fun e w' => e = .returned (.tuple #[.int .i64 ((pAns t).getD 0), .bool (pAns t).isSome]) ∧ Below W.heap.size W w' := by
  have := parse_impl ⟨t.toArray⟩ W (by simpa [ByteArray.size] using ht) hP hE
  rwa [show (⟨t.toArray⟩ : ByteArray).data.toList = t from rfl] at this

set_option maxRecDepth 100000 in
set_option maxHeartbeats 4000000 in
/-- Where the parts are refused. -/
theorem parse_refused (s : ByteArray) (w : World) (hs : s.size ≤ 1048576) (hP : Pow w) (hE : Errs w) (hM : MaxL w) (bf af : List UInt8) (fd : Bool) (hc : Lib.cut s.data.toList [58] = (bf, af, fd)) (hbf : bf.length ≤ 1048576) (hno : fd = false ∨ pAns bf = none ∨ inB (af.length : Int) 1 12 = false) (hg : ¬ Good s) :
    Calls Tryd.prog 5 #[.string s] w (AnsSt w (pL s) (pM s) (pB s)) := by
  have HR := Lib.hid (TwoS.new w (.slice none 0 0) (.int .i64 0) w.heap.size rfl)
  have HB := Lib.hid ((Below.refl w.heap.size w).alloc (Nat.le_refl _) (.cells #[.slice none 0 0, .int .i64 0] 24))
  have HP := Lib.hid (hP.below HB.out)
  have HE := Lib.hid (hE.below HB.out)
  have HM := Lib.hid (hM.below HB.out)
  have HC := Lib.hid (fun W h => cut_call s hs W h bf af fd hc)
  have HI := Lib.hid (fun W h1 h2 => parse_call bf hbf W h1 h2)
  have HS := Lib.hid (fun W => isSize_any (((⟨af.toArray⟩ : ByteArray).size : Nat) : Int) W)
  rw [show (⟨af.toArray⟩ : ByteArray).size = af.length by simp [ByteArray.size]] at HS
  have HG := Lib.hid hg
  have hl : (⟨af.toArray⟩ : ByteArray).size = af.length := by simp [ByteArray.size]
  clear hc hP hE hM hg hbf
  generalize (pAns bf).getD 0 = n at HI
  have hno2 : fd = false ∨ (pAns bf).isSome = false ∨ inB (af.length : Int) 1 12 = false := by
    rcases hno with h | h | h
    · exact .inl h
    · exact .inr (.inl (by rw [h]; rfl))
    · exact .inr (.inr h)
  clear hno
  generalize (pAns bf).isSome = ok at HI hno2
  generalize inB (af.length : Int) 1 12 = z at HS hno2
  rw [← hl] at HS
  generalize (⟨bf.toArray⟩ : ByteArray) = hd at HC HI
  generalize (⟨af.toArray⟩ : ByteArray) = mk at HC HS
  clear hl
  cases fd <;> cases ok <;> cases z <;> simp at hno2 <;> clear hno2
  all_goals
    go_enter Tryd.func5, Tryd.ntmps5
    go_wp2_with fail
    generalize w.alloc (.cells #[.slice none 0 0, .int .i64 0] 24) = wa at HR HB HP HE HM ⊢
    refine (HC.out wa HM.out).mono ?_
    rintro e wb ⟨rfl, hb⟩
    have HP2 := Lib.hid (HP.out.below hb)
    have HE2 := Lib.hid (HE.out.below hb)
    have HR2 := Lib.hid (HR.out.step hb)
    have HB2 := Lib.hid (below_trans HB.out hb)
    clear hb
    go_wp2_with fail
    refine (HI.out wb HP2.out HE2.out).mono ?_
    rintro e wc ⟨rfl, hb⟩
    have HR3 := Lib.hid (HR2.out.step hb)
    have HB3 := Lib.hid (below_trans HB2.out hb)
    clear hb
    have q0 := HR3.out.c0
    have q1 := HR3.out.c1
    have q2 := HR3.out.f0
    have q3 := HR3.out.f1
    go_wp2_with (go_at_call 12; refine (HS.out _).mono ?_; rintro e w9 ⟨rfl, rfl⟩)
    obtain ⟨hs2, hw⟩ := stored2 HR3.out.row (.slice none 0 0) (.int .i64 0)
    first
    | generalize ((wc.setCell ⟨w.heap.size, 0, none⟩ (.slice none 0 0)).setCell ⟨w.heap.size, 1, none⟩ (.int .i64 0)) = wf at hs2 hw ⊢
    | skip
    have e0 := two0 hs2
    have e1 := two1 hs2
    refine bodyPost_ret (v := .tuple #[.agg #[.slice none 0 0, .int .i64 0], .bool false]) (by simp [results, go_sem, e0, e1]) rfl ?_
    exact ansSt_no HG.out (HB3.out.trans (hw.below (Nat.le_refl _) HB3.out.size))

theorem row_insP {w : World} {g : Nat} {l : List Int} (h : w.heap[g]? = some (.cells (l.map (Value.int .i64)).toArray 3 (0, 0))) : Ins w g (g + 1) (some ⟨g, 0, none⟩) l :=
  ⟨Own.ints (.inr ⟨g, _, rfl, Nat.le_refl _, Nat.lt_succ_self _, h, by simp, fun j x hx => by simp [hx]⟩), row_ltI h⟩
theorem row_resP {w : World} {l : List Int} {lo g : Nat} (h : lo ≤ g) (hr : w.heap[g]? = some (.cells (l.map (Value.int .i64)).toArray 3 (0, 0))) : Res w lo w.heap.size (some ⟨g, 0, none⟩) l :=
  ⟨.inr ⟨g, _, rfl, h, row_ltI hr, hr, by simp, fun j x hx => by simp [hx]⟩, Nat.le_refl _⟩
/-- What the marks of a text say. -/
def lieAt (t : ByteArray) (j : Nat) : Int := lieB (t.data.toList.getD j 0)
theorem lieAt_at {t : ByteArray} {k : Nat} (h : k < t.size) : lieAt t k = lieB t[k] := by
  have h' : k < t.data.toList.length := by rw [Array.length_toList]; exact h
  unfold lieAt
  rw [List.getD_eq_getElem?_getD, List.getElem?_eq_getElem h']
  rfl
theorem lieAt_map {r : List UInt8} : (List.range r.length).map (lieAt ⟨r.toArray⟩) = r.map lieB := by
  apply List.ext_getElem
  · simp
  · intro i h1 h2
    have hi : i < r.length := by simpa using h2
    simp [lieAt, hi]
set_option maxRecDepth 100000 in
set_option maxHeartbeats 8000000 in
theorem parse_read (s : ByteArray) (w : World) (hs : s.size ≤ 1048576) (hP : Pow w) (hE : Errs w) (hM : MaxL w) (bf af : List UInt8) (m : Int) (hl0 : s.data.toList = bf ++ 58 :: af) (hn0 : (58 : UInt8) ∉ bf) (hc : Lib.cut s.data.toList [58] = (bf, af, true)) (hbf : bf.length ≤ 1048576) (hm : pAns bf = some m) (hz : inB (af.length : Int) 1 12 = true) :
    Calls Tryd.prog 5 #[.string s] w (AnsSt w (pL s) (pM s) (pB s)) := by
  have hmb := (pAns_some hm).1
  have hmb2 := (pAns_some hm).2.1
  have hzb := inB_iff.1 hz
  have HR := Lib.hid (TwoS.new w (.slice none 0 0) (.int .i64 0) w.heap.size rfl)
  have HB := Lib.hid ((Below.refl w.heap.size w).alloc (Nat.le_refl _) (.cells #[.slice none 0 0, .int .i64 0] 24))
  have HP := Lib.hid (hP.below HB.out)
  have HE := Lib.hid (hE.below HB.out)
  have HM := Lib.hid (hM.below HB.out)
  have HC := Lib.hid (fun W h => cut_call s hs W h bf af true hc)
  have HI := Lib.hid (fun W h1 h2 => parse_call bf hbf W h1 h2)
  rw [hm] at HI
  rw [show (some m).getD 0 = m from rfl, show (some m).isSome = true from rfl] at HI
  have hl : (⟨af.toArray⟩ : ByteArray).size = af.length := by simp [ByteArray.size]
  have HS := Lib.hid (fun W => isSize_any (((⟨af.toArray⟩ : ByteArray).size : Nat) : Int) W)
  rw [hl, hz, ← hl] at HS
  -- the two ends
  have HNO : Hid (∀ k (h : k < (⟨af.toArray⟩ : ByteArray).size), okB (⟨af.toArray⟩ : ByteArray)[k] = false → ¬ Good s) := fun k h hb hg => by
    have h2 := (good_imp hl0 hn0 hg).2.2.1 _ (show (⟨af.toArray⟩ : ByteArray)[k] ∈ af from by
      have hk : k < af.length := by rw [← hl]; exact h
      exact List.getElem_mem hk)
    rw [hb] at h2
    cases h2
  have HST : Hid (isSt ((List.range (⟨af.toArray⟩ : ByteArray).size).map (lieAt ⟨af.toArray⟩)) m = false → ¬ Good s) := fun hb hg => by
    rw [hl, lieAt_map] at hb
    have h2 := good_imp hl0 hn0 hg
    have hmm : m = _ := Option.some.inj (hm.symm.trans h2.1)
    rw [h2.2.2.2, hmm, hg.st] at hb
    cases hb
  have HYES : Hid ((∀ k (h : k < (⟨af.toArray⟩ : ByteArray).size), okB (⟨af.toArray⟩ : ByteArray)[k] = true) → isSt ((List.range (⟨af.toArray⟩ : ByteArray).size).map (lieAt ⟨af.toArray⟩)) m = true → ∀ (w' : World) (B : Option Addr) (c' : Nat), Res w' w.heap.size w'.heap.size B ((List.range (⟨af.toArray⟩ : ByteArray).size).map (lieAt ⟨af.toArray⟩)) → Below w.heap.size w w' → AnsSt w (pL s) (pM s) (pB s) (.returned (.tuple #[.agg #[.slice B (⟨af.toArray⟩ : ByteArray).size c', .int .i64 m], .bool true])) w') := fun hall hst w' B c' hr hb => by
    rw [hl] at hst hr ⊢
    rw [lieAt_map] at hst hr
    obtain ⟨hg, e1, e2, e3⟩ := imp_good hl0 hm (fun b hb => by
      obtain ⟨i, hi, rfl⟩ := List.getElem_of_mem hb
      exact hall i (by rw [hl]; exact hi)) hst
    rw [← e2] at hr
    exact ansSt_yes hg e3 e1 hr hb
  have hsz1 : 1 ≤ (⟨af.toArray⟩ : ByteArray).size ∧ (⟨af.toArray⟩ : ByteArray).size ≤ 12 := by rw [hl]; omega
  clear hc hP hE hM hbf hl0 hn0 hm hz hl hzb
  generalize (⟨bf.toArray⟩ : ByteArray) = hd at HC HI
  generalize (⟨af.toArray⟩ : ByteArray) = mk at HC HS HNO HST HYES hsz1
  have hmk := makeInts mk.size (by omega)
  go_enter Tryd.func5, Tryd.ntmps5
  go_wp2_with fail
  generalize w.alloc (.cells #[.slice none 0 0, .int .i64 0] 24) = wa at HR HB HP HE HM ⊢
  refine (HC.out wa HM.out).mono ?_
  rintro e wb ⟨rfl, hb⟩
  have HP2 := Lib.hid (HP.out.below hb)
  have HE2 := Lib.hid (HE.out.below hb)
  have HR2 := Lib.hid (HR.out.step hb)
  have HB2 := Lib.hid (below_trans HB.out hb)
  clear hb
  go_wp2_with fail
  refine (HI.out wb HP2.out HE2.out).mono ?_
  rintro e wc ⟨rfl, hb⟩
  have HR3 := Lib.hid (HR2.out.step hb)
  have HB3 := Lib.hid (below_trans HB2.out hb)
  clear hb HR HB HP HE HM HR2 HB2 HP2 HE2
  go_wp2_with (go_at_call 12; refine (HS.out _).mono ?_; rintro e w9 ⟨rfl, hw9⟩; have hw9 := hw9.symm; subst hw9)
  have A1 := (Below.refl wc.heap.size wc).alloc (Nat.le_refl _) (.cells (Array.replicate mk.size (Value.int .i64 0)) 3)
  have A2 := (Below.refl (wc.alloc (.cells (Array.replicate mk.size (Value.int .i64 0)) 3)).heap.size (wc.alloc (.cells (Array.replicate mk.size (Value.int .i64 0)) 3))).alloc (Nat.le_refl _) (.cells #[.slice (some ⟨wc.heap.size, 0, none⟩) mk.size mk.size, .int .i64 m] 24)
  have HO0 : Hid (((wc.alloc (.cells (Array.replicate mk.size (Value.int .i64 0)) 3)).alloc (.cells #[.slice (some ⟨wc.heap.size, 0, none⟩) mk.size mk.size, .int .i64 m] 24)).heap[wc.heap.size]? = some (.cells ((upd (lieAt mk) mk.size 0).map (Value.int .i64)).toArray 3 (0, 0))) := by
    show _ = _
    rw [A2.block wc.heap.size (by simp), upd_zero]
    simpa using alloc_row wc (Array.replicate mk.size (Value.int .i64 0)) 3
  have HT0 := Lib.hid (TwoS.new (wc.alloc (.cells (Array.replicate mk.size (Value.int .i64 0)) 3)) (.slice (some ⟨wc.heap.size, 0, none⟩) mk.size mk.size) (.int .i64 m) (wc.heap.size + 1) (by simp))
  have HR0 := Lib.hid ((HR3.out.step A1).step A2)
  have HB0 := Lib.hid (below_trans HB3.out (below_trans A1 A2))
  have hwc : w.heap.size < wc.heap.size := HR3.out.lt
  clear A1 A2 HR3 HB3 hmk
  generalize (wc.alloc (.cells (Array.replicate mk.size (Value.int .i64 0)) 3)).alloc (.cells #[.slice (some ⟨wc.heap.size, 0, none⟩) mk.size mk.size, .int .i64 m] 24) = wd at HO0 HT0 HR0 HB0 ⊢
  generalize wc.heap.size = gr at HO0 HT0 hwc ⊢
  go_loopw [42] (fun i wr => ∃ (k : Nat), k ≤ mk.size ∧ i = .int .i64 (k : Int) ∧ Hid (∀ j (h : j < mk.size), j < k → okB mk[j] = true) ∧ Hid (wr.heap[gr]? = some (.cells ((upd (lieAt mk) mk.size k).map (Value.int .i64)).toArray 3 (0, 0))) ∧ Hid (TwoS wr (gr + 1) (.slice (some ⟨gr, 0, none⟩) mk.size mk.size) (.int .i64 m)) ∧ Hid (TwoS wr w.heap.size (.slice none 0 0) (.int .i64 0)) ∧ Hid (Below w.heap.size w wr)) (fun i _ => mk.size - (intOf i).toNat)
  case atStart => exact ⟨0, Nat.zero_le _, rfl, fun j _ h => absurd h (by omega), HO0, HT0, HR0, HB0⟩
  case round =>
    clear HO0 HT0 HR0 HB0
    obtain ⟨k, hk, rfl, HOK, HO, HT, HR, HB⟩ := hrel
    have h0 := HT.out.c0
    have h1 := HT.out.c1
    have q0 := HR.out.c0
    have q1 := HR.out.c1
    have q2 := HR.out.f0
    have q3 := HR.out.f1
    have hltw := HR.out.lt
    by_cases hlt : k < mk.size
    · have hltI : (k : Int) < (mk.size : Int) := by omega
      have hrow := HO.out
      have hcell := getD_cell hrow (i := k) (by rw [upd_len]; exact hlt)
      have hfr := row_freeI hrow k
      have hne1 : gr ≠ w.heap.size := by omega
      have hgl : gr < wr.heap.size := row_ltI hrow
      generalize (upd (lieAt mk) mk.size k).getD k 0 = z at hcell
      have HPL := Lib.hid (fun W => parseLies_any mk[k] W)
      have hbyt : mk[k].toNat < 256 := mk[k].toNat_lt
      cases hok : okB mk[k] with
      | true =>
        rw [hok, if_pos rfl] at HPL
        rw [← lieAt_at hlt] at HPL
        have HOK2 : Hid (∀ j (h : j < mk.size), j < k + 1 → okB mk[j] = true) := fun j h hj => by
          by_cases e : j = k
          · subst e; exact hok
          · exact HOK.out j h (by omega)
        have HF := Lib.hid (upd_set (lieAt mk) mk.size k)
        have HO2 := Lib.hid (row_setI (w := wr.drew) hrow k (.int .i64 (lieAt mk k)))
        rw [map_set, HF.out] at HO2
        have HS2 := Lib.hid (within_set (Within.refl gr (gr + 1) wr.drew) (Nat.le_refl _) (Nat.lt_succ_self _) k (.int .i64 (lieAt mk k)))
        have HT2 : Hid (TwoS (wr.drew.setCell ⟨gr, k, none⟩ (.int .i64 (lieAt mk k))) (gr + 1) (.slice (some ⟨gr, 0, none⟩) mk.size mk.size) (.int .i64 m)) := ⟨(HS2.out.block (gr + 1) HT.out.lt (.inr (Nat.le_refl _))).trans HT.out.row⟩
        have HR2 : Hid (TwoS (wr.drew.setCell ⟨gr, k, none⟩ (.int .i64 (lieAt mk k))) w.heap.size (.slice none 0 0) (.int .i64 0)) := ⟨(HS2.out.block w.heap.size HR.out.lt (.inl hwc)).trans HR.out.row⟩
        have HB2 := Lib.hid ((below_trans HB.out (Below.refl _ wr).drew).trans (HS2.out.below (Nat.le_of_lt hwc) HB.out.size))
        clear hok hrow HF HS2
        generalize lieAt mk k = x at HPL HO2 HT2 HR2 HB2
        go_wp2_with fail
        go_region_with (go_at_call 13; refine (HPL.out _).mono ?_; rintro e w9 ⟨rfl, rfl⟩)
        all_goals
          go_wp2
          go_roundw
          case rel => exact ⟨k + 1, by omega, by go_num, HOK2, HO2.out, HT2, HR2, HB2⟩
          case measure => simp [intOf]; omega
      | false =>
        have HG := Lib.hid (HNO.out k hlt hok)
        rw [hok, if_neg (by decide)] at HPL
        have HS2 : Hid (Within gr (gr + 1) wr (wr.setCell ⟨gr, k, none⟩ (.int .i64 0)).drew) := by
          have h := within_set (Within.refl gr (gr + 1) wr) (Nat.le_refl _) (Nat.lt_succ_self _) k (.int .i64 0)
          exact ⟨h.os, h.tape, h.output, h.size, h.block⟩
        have HR2 : Hid (TwoS (wr.setCell ⟨gr, k, none⟩ (.int .i64 0)).drew w.heap.size (.slice none 0 0) (.int .i64 0)) := ⟨(HS2.out.block w.heap.size HR.out.lt (.inl hwc)).trans HR.out.row⟩
        have HB2 := Lib.hid (HB.out.trans (HS2.out.below (Nat.le_of_lt hwc) HB.out.size))
        have p0 := HR2.out.c0
        have p1 := HR2.out.c1
        have p2 := HR2.out.f0
        have p3 := HR2.out.f1
        clear hok hrow HS2
        go_wp2_with fail
        go_region_with (go_at_call 13; refine (HPL.out _).mono ?_; rintro e w9 ⟨rfl, rfl⟩)
        all_goals
          try change _ ((wr.setCell ⟨gr, k, none⟩ (.int .i64 0)).drew)
          generalize (wr.setCell ⟨gr, k, none⟩ (.int .i64 0)).drew = wg at HR2 HB2 p0 p1 p2 p3 ⊢
          go_wp2
          obtain ⟨hs2, hw⟩ := stored2 HR2.out.row (.slice none 0 0) (.int .i64 0)
          generalize ((wg.setCell ⟨w.heap.size, 0, none⟩ (.slice none 0 0)).setCell ⟨w.heap.size, 1, none⟩ (.int .i64 0)) = wf at hs2 hw ⊢
          have e0 := two0 hs2
          have e1 := two1 hs2
          refine bodyPost_ret (v := .tuple #[.agg #[.slice none 0 0, .int .i64 0], .bool false]) (by simp [results, go_sem, e0, e1]) rfl ?_
          exact ansSt_no HG.out (HB2.out.trans (hw.below (Nat.le_refl _) HB2.out.size))
    · obtain rfl : k = mk.size := by omega
      have HALL : Hid (∀ j (h : j < mk.size), okB mk[j] = true) := fun j h => HOK.out j h h
      have hro := HO.out
      rw [upd_all] at hro
      have HIN := Lib.hid (row_insP hro)
      have HRES := Lib.hid (row_resP (lo := gr) (Nat.le_refl _) hro)
      have hlen : ((List.range mk.size).map (lieAt mk)).length = mk.size := by simp
      have HIS := Lib.hid (fun W h => isState_impl (some ⟨gr, 0, none⟩) mk.size gr (gr + 1) ((List.range mk.size).map (lieAt mk)) m W h (by rw [hlen]; omega))
      rw [hlen] at HIS
      clear hro hlen HOK HO HNO
      cases hst : isSt ((List.range mk.size).map (lieAt mk)) m with
      | true =>
        have HY := Lib.hid (HYES.out HALL.out hst)
        rw [hst] at HIS
        clear hst HYES HST
        generalize ((List.range mk.size).map (lieAt mk)) = L at HIS HIN HRES HY
        go_wp2_with fail
        refine (HIS.out _ HIN.out).mono ?_
        rintro e wz ⟨rfl, hb⟩
        have HT2 := Lib.hid (HT.out.step hb)
        have HR2 := Lib.hid (HR.out.step hb)
        have HRES2 := Lib.hid (HRES.out.step hb)
        have HBZ := Lib.hid (below_trans HB.out hb)
        clear hb h0 h1 q0 q1 q2 q3
        have h0 := HT2.out.c0
        have h1 := HT2.out.c1
        have q0 := HR2.out.c0
        have q1 := HR2.out.c1
        have q2 := HR2.out.f0
        have q3 := HR2.out.f1
        go_wp2
        obtain ⟨hs2, hw⟩ := stored2 HR2.out.row (.slice (some ⟨gr, 0, none⟩) mk.size mk.size) (.int .i64 m)
        generalize ((wz.setCell ⟨w.heap.size, 0, none⟩ (.slice (some ⟨gr, 0, none⟩) mk.size mk.size)).setCell ⟨w.heap.size, 1, none⟩ (.int .i64 m)) = wf at hs2 hw ⊢
        have e0 := two0 hs2
        have e1 := two1 hs2
        refine bodyPost_ret (v := .tuple #[.agg #[.slice (some ⟨gr, 0, none⟩) mk.size mk.size, .int .i64 m], .bool true]) (by simp [results, go_sem, e0, e1]) rfl ?_
        exact HY.out _ _ _ (res_wide (HRES2.out.within hw (.inr (Nat.succ_le_of_lt hwc))) (Nat.le_of_lt hwc) (Nat.le_trans HRES2.out.top hw.size)) (HBZ.out.trans (hw.below (Nat.le_refl _) HBZ.out.size))
      | false =>
        have HG := Lib.hid (HST.out hst)
        rw [hst] at HIS
        clear hst HYES HST
        generalize ((List.range mk.size).map (lieAt mk)) = L at HIS HIN HRES
        go_wp2_with fail
        refine (HIS.out _ HIN.out).mono ?_
        rintro e wz ⟨rfl, hb⟩
        have HR2 := Lib.hid (HR.out.step hb)
        have HBZ := Lib.hid (below_trans HB.out hb)
        clear hb h0 h1 q0 q1 q2 q3
        have q0 := HR2.out.c0
        have q1 := HR2.out.c1
        have q2 := HR2.out.f0
        have q3 := HR2.out.f1
        go_wp2
        obtain ⟨hs2, hw⟩ := stored2 HR2.out.row (.slice none 0 0) (.int .i64 0)
        generalize ((wz.setCell ⟨w.heap.size, 0, none⟩ (.slice none 0 0)).setCell ⟨w.heap.size, 1, none⟩ (.int .i64 0)) = wf at hs2 hw ⊢
        have e0 := two0 hs2
        have e1 := two1 hs2
        refine bodyPost_ret (v := .tuple #[.agg #[.slice none 0 0, .int .i64 0], .bool false]) (by simp [results, go_sem, e0, e1]) rfl ?_
        exact ansSt_no HG.out (HBZ.out.trans (hw.below (Nat.le_refl _) HBZ.out.size))
/-- ParseState of the program. -/
theorem parseState_impl (s : ByteArray) (w : World) (hs : s.size ≤ 1048576) (hP : Pow w) (hE : Errs w) (hM : MaxL w) :
    Calls Tryd.prog 5 #[.string s] w (AnsSt w (pL s) (pM s) (pB s)) := by
  have hz := size_listP s
  by_cases h58 : (58 : UInt8) ∈ s.data.toList
  · obtain ⟨p, r, hl, hp⟩ := first_split 58 _ h58
    have hc := cut_at hl hp
    have hpl : p.length ≤ 1048576 := by
      rw [hl] at hz
      simp at hz
      omega
    cases hm : pAns p with
    | none => exact parse_refused s w hs hP hE hM p r true hc hpl (.inr (.inl hm)) (fun hg => by
        have := (good_imp hl hp hg).1
        rw [hm] at this; cases this)
    | some m =>
      cases hn : inB (r.length : Int) 1 12 with
      | true => exact parse_read s w hs hP hE hM p r m hl hp hc hpl hm hn
      | false => exact parse_refused s w hs hP hE hM p r true hc hpl (.inr (.inr hn)) (fun hg => by
          have h2 := (good_imp hl hp hg).2.1
          have h3 := hg.lo
          have h4 := hg.hi
          rw [inB_t (x := (r.length : Int)) (a := 1) (b := 12) (by omega) (by omega)] at hn
          cases hn)
  · exact parse_refused s w hs hP hE hM s.data.toList [] false (cut_none h58) (by omega) (.inl rfl) (fun hg => by
      obtain ⟨a, r, hl, _⟩ := good_parts hg
      exact h58 (by rw [hl]; exact List.mem_cons_of_mem _ (List.mem_cons_self ..)))
/-- What ParseState answers, both. -/
theorem parseState_both (s : ByteArray) (hs : s.size ≤ 1048576) : ∃ (r0 : List Int) (u0 : Int) (r1 : Bool), r0.length ≤ 1048576 ∧
    (∀ (w : World), Pow w → Errs w → MaxL w → Calls Tryd.prog 5 #[.string s] w fun e w' => ∃ B c', e = .returned (.tuple #[.agg #[.slice B r0.length c', .int .i64 u0], .bool r1]) ∧ Res w' w.heap.size w'.heap.size B r0 ∧ Below w.heap.size w w') ∧
    (∀ (w : World), Calls Tryd.prog 4 #[.string s] w fun e w' => ∃ B c', e = .returned (.tuple #[.agg #[.slice B r0.length c', .int .i64 u0], .bool r1]) ∧ Res w' w.heap.size w'.heap.size B r0 ∧ Below w.heap.size w w') :=
  ⟨pL s, pM s, pB s, by have := pL_len s; omega, fun w hP hE hM => parseState_impl s w hs hP hE hM, fun w => parseState_spec s w hs⟩
end Go.Proofs.YtdolonmjhlhkeabDoor
