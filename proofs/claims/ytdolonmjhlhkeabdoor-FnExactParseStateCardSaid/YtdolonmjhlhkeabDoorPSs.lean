/- ParseState: the specification's function. -/
import Derived.Test.YtdolonmjhlhkeabDoorPSp
namespace Go.Proofs.YtdolonmjhlhkeabDoor
open Go.RowKit Go.ChangeShapes Go.WideShapes
set_option linter.unusedVariables false

/-- A block of two cells. -/
structure TwoS (w : World) (b : Nat) (x y : Value) : Prop where
  row : w.heap[b]? = some (.cells #[x, y] 24 (0, 0))
theorem TwoS.lt {w : World} {b : Nat} {x y : Value} (h : TwoS w b x y) : b < w.heap.size := row_ltI h.row
theorem TwoS.step {w w' : World} {b : Nat} {x y : Value} (h : TwoS w b x y) (hb : Below w.heap.size w w') : TwoS w' b x y := ⟨(hb.block b h.lt).trans h.row⟩
theorem TwoS.new (w : World) (x y : Value) (b : Nat) (hb : b = w.heap.size) : TwoS (w.alloc (.cells #[x, y] 24)) b x y := ⟨alloc_row' _ _ _ _ hb⟩
theorem TwoS.c0 {w : World} {b : Nat} {x y : Value} (h : TwoS w b x y) : w.cell? ⟨b, 0, none⟩ = some x := two0 h.row
theorem TwoS.c1 {w : World} {b : Nat} {x y : Value} (h : TwoS w b x y) : w.cell? ⟨b, 1, none⟩ = some y := two1 h.row
theorem TwoS.f0 {w : World} {b : Nat} {x y : Value} (h : TwoS w b x y) : w.frozen? ⟨b, 0, none⟩ = false := row_freeI h.row 0
theorem TwoS.f1 {w : World} {b : Nat} {x y : Value} (h : TwoS w b x y) : w.frozen? ⟨b, 1, none⟩ = false := row_freeI h.row 1
theorem TwoS.grown {w w' : World} {b : Nat} {x y : Value} {r : Option Nat} (h : TwoS w b x y) (hg : w.grownBy w' r) (hne : r ≠ some b) : TwoS w' b x y := ⟨(hg.block b h.lt (fun e => hne e.symm)).trans h.row⟩
theorem TwoS.set0 {w : World} {b : Nat} {x y : Value} (h : TwoS w b x y) (u : Value) : TwoS (w.setCell ⟨b, 0, none⟩ u) b u y := ⟨by
  have := row_setI h.row 0 u
  simpa using this⟩
theorem ne_box {w : World} {B n b : Nat} {v x y : Value} {xs : List Value} (h : w.ownsRow B 3 1 v n xs) (hT : TwoS w b x y) : v.ownBlock ≠ some b := by
  intro e
  rcases h.2 with ⟨rfl, _⟩ | ⟨g, cap, cur, rfl, _, hg, _⟩
  · cases e
  · have e' : g = b := by injection e
    subst e'
    rw [hT.row] at hg
    injection hg with hg
    injection hg with _ ht
    exact absurd ht (by decide)
theorem grown_set {w : World} {b i : Nat} (u : Value) : w.grownBy (w.setCell ⟨b, i, none⟩ u) (some b) :=
  ⟨rfl, rfl, rfl, by simp [World.setCell], fun k hk hne => Below.heap_setCell w ⟨b, i, none⟩ u k (fun e => hne (by rw [show k = b from e]))⟩
theorem past_set {B b i : Nat} {a w : World} (h : Past B a w) (hb : B ≤ b) (u : Value) : Past B a (w.setCell ⟨b, i, none⟩ u) :=
  h.trans (Past.of_within (within_set (Within.refl b (b + 1) w) (Nat.le_refl _) (Nat.lt_succ_self _) i u) hb)

theorem liesTo_at {s : ByteArray} {j k : Nat} (hj : j = k + 2) (h : j < s.size) : liesTo s (k + 1) = liesTo s k ++ [lieB s[j]] := by
  subst hj
  exact liesTo_succ h
theorem upTo_at {s : ByteArray} {j k : Nat} (hu : UpTo s k) (hj : j = k + 2) (h : j < s.size) (hb : s[j] = 45 ∨ 48 ≤ s[j].toNat) : UpTo s (k + 1) := by
  subst hj
  intro i hi hlt
  by_cases e : i = k
  · subst e; exact hb
  · exact hu i hi (by omega)
theorem upTo_bad {s : ByteArray} {j k : Nat} (hj : j = k + 2) (h : j < s.size) (h1 : s[j].toNat ≠ 45) (h2 : s[j].toNat < 48) : ¬ Good s := by
  subst hj
  intro hg
  rcases hg.all k h (by omega) with e | e
  · exact h1 (by rw [e]; rfl)
  · omega
theorem res_wide {w : World} {lo hi lo' : Nat} {A : Option Addr} {zs : List Int} (h : Res w lo hi A zs) (h1 : lo' ≤ lo) (h2 : hi ≤ w.heap.size) : Res w lo' w.heap.size A zs :=
  ⟨by
    rcases h.own with ⟨a, b⟩ | ⟨g, cur, a, b, c, d⟩
    · exact .inl ⟨a, b⟩
    · exact .inr ⟨g, cur, a, Nat.le_trans h1 b, Nat.lt_of_lt_of_le c h2, d⟩, Nat.le_refl _⟩
theorem past_le {B B' : Nat} {a b : World} (h : Past B a b) (hb : B' ≤ B) : Past B' a b := ⟨h.os, h.tape, h.output, h.size, fun i h1 h2 => h.block i h1 (by omega)⟩
theorem good_ends {s : ByteArray} (h : Good s) : inB (s.size : Int) 3 14 = true := inB_t (by have := h.lo; omega) (by have := h.hi; omega)

set_option maxRecDepth 100000 in
set_option maxHeartbeats 8000000 in
theorem l2Parse_any (s : ByteArray) (w : World) (hs : s.size ≤ 1048576) :
    Calls Tryd.prog 9 #[.string s] w (AnsSt w (pL s) (pM s) (pB s)) := by
  have HL := Lib.hid (fun W => l1In_any (s.size : Int) 3 14 W)
  have HR := Lib.hid (TwoS.new w (.slice none 0 0) (.int .i64 0) w.heap.size rfl)
  have HB := Lib.hid ((Below.refl w.heap.size w).alloc (Nat.le_refl _) (.cells #[.slice none 0 0, .int .i64 0] 24))
  cases hsz : inB (s.size : Int) 3 14 with
  | false =>
    have HG : Hid (¬ Good s) := fun h => by rw [good_ends h] at hsz; cases hsz
    rw [hsz] at HL
    clear hsz
    go_enter Tryd.func9, Tryd.ntmps9
    go_wp2_with fail
    generalize w.alloc (.cells #[.slice none 0 0, .int .i64 0] 24) = wa at HR HB ⊢
    refine (HL.out _).mono ?_
    rintro e w1 ⟨rfl, hw⟩
    have hw := hw.symm
    subst hw
    have q0 := HR.out.c0
    have q1 := HR.out.c1
    have q2 := HR.out.f0
    have q3 := HR.out.f1
    go_wp2
    obtain ⟨hs2, hw⟩ := stored2 HR.out.row (.slice none 0 0) (.int .i64 0)
    generalize ((wa.setCell ⟨w.heap.size, 0, none⟩ (.slice none 0 0)).setCell ⟨w.heap.size, 1, none⟩ (.int .i64 0)) = wf at hs2 hw ⊢
    have e0 := two0 hs2
    have e1 := two1 hs2
    refine bodyPost_ret (v := .tuple #[.agg #[.slice none 0 0, .int .i64 0], .bool false]) (by simp [results, go_sem, e0, e1]) rfl ?_
    exact ansSt_no HG.out (HB.out.trans (hw.below (Nat.le_refl _) HB.out.size))
  | true =>
    have hb := inB_iff.1 hsz
    have hz0 : 0 < s.size := by omega
    have hz1 : 1 < s.size := by omega
    have HM := Lib.hid (fun W => l1In_any ((s[0].toNat : Int) - 48) 0 2 W)
    rw [hsz] at HL
    clear hsz
    have hlt0 : (0 : Int) < (s.size : Int) := by omega
    have hlt1 : (1 : Int) < (s.size : Int) := by omega
    have hbyte : s[0].toNat < 256 := s[0].toNat_lt
    cases hh : inB ((s[0].toNat : Int) - 48) 0 2 with
    | false =>
      have HG : Hid (¬ Good s) := fun h => by
        have h2 := h.head
        have : inB ((s[0].toNat : Int) - 48) 0 2 = true := inB_t (by omega) (by omega)
        rw [hh] at this; cases this
      rw [hh] at HM
      clear hh
      go_enter Tryd.func9, Tryd.ntmps9
      go_wp2_with fail
      generalize w.alloc (.cells #[.slice none 0 0, .int .i64 0] 24) = wa at HR HB ⊢
      refine (HL.out _).mono ?_
      rintro e w1 ⟨rfl, hw⟩
      have hw := hw.symm
      subst hw
      go_wp2_with fail
      refine (HM.out _).mono ?_
      rintro e w1 ⟨rfl, hw⟩
      have hw := hw.symm
      subst hw
      have q0 := HR.out.c0
      have q1 := HR.out.c1
      have q2 := HR.out.f0
      have q3 := HR.out.f1
      go_wp2
      obtain ⟨hs2, hw⟩ := stored2 HR.out.row (.slice none 0 0) (.int .i64 0)
      generalize ((wa.setCell ⟨w.heap.size, 0, none⟩ (.slice none 0 0)).setCell ⟨w.heap.size, 1, none⟩ (.int .i64 0)) = wf at hs2 hw ⊢
      have e0 := two0 hs2
      have e1 := two1 hs2
      refine bodyPost_ret (v := .tuple #[.agg #[.slice none 0 0, .int .i64 0], .bool false]) (by simp [results, go_sem, e0, e1]) rfl ?_
      exact ansSt_no HG.out (HB.out.trans (hw.below (Nat.le_refl _) HB.out.size))
    | true =>
      have hhb := inB_iff.1 hh
      rw [hh] at HM
      clear hh
      by_cases hc : s[1].toNat = 58
      · have hcI : (s[1].toNat : Int) = 58 := by omega
        have hcB : ((s[1].toNat : Int) == 58) = true := by rw [hcI]; rfl
        have HCO := Lib.hid hc
        clear hc
        have HGD : Hid (UpTo s (s.size - 2) → isSt (liesTo s (s.size - 2)) ((s[0].toNat : Int) - 48) = true → Good s) := fun h1 h2 => ⟨by omega, by omega, ⟨by omega, by omega⟩, HCO.out, h1, h2⟩
        have HSTN : Hid (isSt (liesTo s (s.size - 2)) ((s[0].toNat : Int) - 48) = false → ¬ Good s) := fun h hg => by rw [hg.st] at h; cases h
        have HM0 : Hid (Good s → (s[0].toNat : Int) - 48 = ((s[0]'hz0).toNat : Int) - 48) := fun _ => rfl
        have HGM : Hid (∀ (h : Good s) (w' : World) (B : Option Addr) (c' n : Nat), n = s.size - 2 → Res w' w.heap.size w'.heap.size B (liesTo s (s.size - 2)) → Below w.heap.size w w' → AnsSt w (pL s) (pM s) (pB s) (.returned (.tuple #[.agg #[.slice B n c', .int .i64 ((s[0].toNat : Int) - 48)], .bool true])) w') := fun h _ _ _ _ hn hr hb => ansSt_yes h hn rfl hr hb
        obtain ⟨i0, hi0, hy0, hy1, hy2⟩ := info_parts infoI3
        have h14 : s.size ≤ 14 := by omega
        have h3 : 3 ≤ s.size := by omega
        have hm0 : 0 ≤ (s[0].toNat : Int) - 48 ∧ (s[0].toNat : Int) - 48 ≤ 2 := by omega
        clear hb hhb
        go_enter Tryd.func9, Tryd.ntmps9
        go_wp2_with fail
        have hsa : (w.alloc (.cells #[.slice none 0 0, .int .i64 0] 24)).heap.size = w.heap.size + 1 := by simp
        generalize w.alloc (.cells #[.slice none 0 0, .int .i64 0] 24) = wa at HR HB hsa ⊢
        refine (HL.out _).mono ?_
        rintro e w1 ⟨rfl, hw⟩
        have hw := hw.symm
        subst hw
        go_wp2_with fail
        refine (HM.out _).mono ?_
        rintro e w1 ⟨rfl, hw⟩
        have hw := hw.symm
        subst hw
        generalize hm : (s[0].toNat : Int) - 48 = m at HGD HSTN HGM hm0
        have HO0 := Lib.hid ((O0_any wa (w.heap.size + 1) (by omega)).alloc (.cells #[.slice (some ⟨wa.heap.size, 0, none⟩) 0 0, .int .i64 m] 24))
        have HT0 := Lib.hid (TwoS.new (wa.alloc (.cells #[] 3)) (.slice (some ⟨wa.heap.size, 0, none⟩) 0 0) (.int .i64 m) (wa.heap.size + 1) (by simp))
        have HR0 := Lib.hid ((HR.out.step ((Below.refl _ _).alloc (Nat.le_refl _) (.cells #[] 3))).step ((Below.refl _ _).alloc (Nat.le_refl _) (.cells #[.slice (some ⟨wa.heap.size, 0, none⟩) 0 0, .int .i64 m] 24)))
        have HP0 := Lib.hid (Past.trans (B := w.heap.size) (Past.of_below (HB.out.mono (Nat.le_refl _))) (Past.of_below (Below.trans ((Below.refl _ _).alloc (Nat.le_refl _) (.cells #[] 3)) (((Below.refl _ _).alloc (Nat.le_refl _) (.cells #[.slice (some ⟨wa.heap.size, 0, none⟩) 0 0, .int .i64 m] 24)).mono (by simp)))))
        rw [hsa] at HO0 HT0 HR0 HP0
        go_wp2_with fail
        generalize (wa.alloc (.cells #[] 3)).alloc (.cells #[.slice (some ⟨w.heap.size + 1, 0, none⟩) 0 0, .int .i64 m] 24) = wb at HO0 HT0 HR0 HP0 ⊢
        clear HR HB HL HM
        go_loopw [5] (fun i wr => ∃ (j k : Nat) (A : Option Addr) (c : Nat), Hid (j = k + 2) ∧ 2 ≤ j ∧ j ≤ s.size ∧ i = .int .i64 (j : Int) ∧ Hid (UpTo s k) ∧ Hid (TwoS wr (w.heap.size + 1 + 1) (.slice A (liesTo s k).length c) (.int .i64 m)) ∧ Hid (TwoS wr w.heap.size (.slice none 0 0) (.int .i64 0)) ∧ Hid (wr.ownsRow (w.heap.size + 1) 3 1 (.slice A (liesTo s k).length c) (liesTo s k).length ((liesTo s k).map (Value.int .i64))) ∧ Hid (Past w.heap.size w wr)) (fun i _ => s.size - (intOf i).toNat)
        case atStart => exact ⟨2, 0, _, 0, rfl, Nat.le_refl _, by omega, rfl, fun j _ h => absurd h (by omega), HT0, HR0, HO0, HP0⟩
        case round =>
          clear HO0 HT0 HR0 HP0
          obtain ⟨j, k, A, c, HJ, hj2, hjs, rfl, HU, HT, HR, HO, HP⟩ := hrel
          have HFL := Lib.hid (liesTo_len s k)
          have hjk := HJ.out
          have hfl : (liesTo s k).length ≤ 14 := by rw [HFL.out]; omega
          have hsz := HP.out.size
          have hltw := HR.out.lt
          have h0 := HT.out.c0
          have h1 := HT.out.c1
          have q0 := HR.out.c0
          have q1 := HR.out.c1
          have q2 := HR.out.f0
          have q3 := HR.out.f1
          by_cases hlt : j < s.size
          · have hltI : (j : Int) < (s.size : Int) := by omega
            have hbyt : s[j].toNat < 256 := s[j].toNat_lt
            have HF := Lib.hid (liesTo_at hjk hlt)
            by_cases h45 : s[j].toNat = 45
            · have HU2 := Lib.hid (upTo_at HU.out hjk hlt (.inl (byte_45 h45)))
              rw [show lieB s[j] = -1 from by rw [byte_45 h45]; rfl] at HF
              have h45I : (s[j].toNat : Int) = 45 := by omega
              clear h45 hjk
              generalize liesTo s k = f at HO HF HFL hfl HT h0 ⊢
              have hown := HO.out
              go_wp2_with (at_builtin; refine wpList_append_own _ rfl _ _ 22 rfl (w.heap.size + 1) 3 i0 (.int .i64 0) 1 8 Tryd.underlying22 hi0 hy0 hy1 hy2 rfl (by decide) _ _ _ rfl (hown.alloc _) ⟨_, 0, none⟩ 1 1 [.int .i64 (-1)] rfl rfl (cell_one_new _ _ _) (by simp [Value.oneCell']) (by unfold maxLen; omega) (by omega) (by simp; omega) ?_; intro v' w1 hown' hgrow _; have hO2 := own_snocI hown' rfl; rw [← HF.out] at hO2; have HO2 := Lib.hid hO2; have HT2 := Lib.hid ((HT.out.step ((Below.refl _ _).alloc (Nat.le_refl _) _)).grown hgrow (ne_box hown HT.out)); have HR2 := Lib.hid ((HR.out.step ((Below.refl _ _).alloc (Nat.le_refl _) _)).grown hgrow (ne_box hown HR.out)); have HP2 := Lib.hid (HP.out.trans (past_le (Past.grown hown hgrow) (Nat.le_succ _))); obtain ⟨A2, c2, hv2, _, _⟩ := own_res HO2.out rfl; subst hv2; have p0 := HT2.out.c0; have p2 := HT2.out.f0; clear hgrow hown' hO2)
              go_wp2
              go_roundw
              case rel => exact ⟨j + 1, k + 1, A2, c2, Lib.hid (show j + 1 = k + 1 + 2 by have := HJ.out; omega), by omega, by omega, by go_num, HU2, HT2.out.set0 _, HR2.out.grown (grown_set _) (by intro e; injection e with e; omega), HO2.out.kept (grown_set _) (.inr (ne_box HO2.out HT2.out)), past_set HP2.out (by omega) _⟩
              case measure => simp [intOf]; omega
            · by_cases h48 : 48 ≤ s[j].toNat
              · have HU2 := Lib.hid (upTo_at HU.out hjk hlt (.inr h48))
                rw [lieB_digit (byte_ne45 h45)] at HF
                have h45I : ¬ (s[j].toNat : Int) = 45 := by omega
                have h48I : ¬ (s[j].toNat : Int) - 48 < 0 := by omega
                clear h45 hjk
                generalize liesTo s k = f at HO HF HFL hfl HT h0 ⊢
                have hown := HO.out
                go_wp2_with (at_builtin; refine wpList_append_own _ rfl _ _ 22 rfl (w.heap.size + 1) 3 i0 (.int .i64 0) 1 8 Tryd.underlying22 hi0 hy0 hy1 hy2 rfl (by decide) _ _ _ rfl (hown.alloc _) ⟨_, 0, none⟩ 1 1 [.int .i64 ((s[j].toNat : Int) - 48)] rfl rfl (cell_one_new _ _ _) (by simp [Value.oneCell']) (by unfold maxLen; omega) (by omega) (by simp; omega) ?_; intro v' w1 hown' hgrow _; have hO2 := own_snocI hown' rfl; rw [← HF.out] at hO2; have HO2 := Lib.hid hO2; have HT2 := Lib.hid ((HT.out.step ((Below.refl _ _).alloc (Nat.le_refl _) _)).grown hgrow (ne_box hown HT.out)); have HR2 := Lib.hid ((HR.out.step ((Below.refl _ _).alloc (Nat.le_refl _) _)).grown hgrow (ne_box hown HR.out)); have HP2 := Lib.hid (HP.out.trans (past_le (Past.grown hown hgrow) (Nat.le_succ _))); obtain ⟨A2, c2, hv2, _, _⟩ := own_res HO2.out rfl; subst hv2; have p0 := HT2.out.c0; have p2 := HT2.out.f0; clear hgrow hown' hO2)
                go_wp2
                go_roundw
                case rel => exact ⟨j + 1, k + 1, A2, c2, Lib.hid (show j + 1 = k + 1 + 2 by have := HJ.out; omega), by omega, by omega, by go_num, HU2, HT2.out.set0 _, HR2.out.grown (grown_set _) (by intro e; injection e with e; omega), HO2.out.kept (grown_set _) (.inr (ne_box HO2.out HT2.out)), past_set HP2.out (by omega) _⟩
                case measure => simp [intOf]; omega
              · have HG := Lib.hid (upTo_bad hjk hlt h45 (by omega))
                have h45I : ¬ (s[j].toNat : Int) = 45 := by omega
                have h48I : (s[j].toNat : Int) - 48 < 0 := by omega
                clear hjk
                go_wp2
                obtain ⟨hs2, hw⟩ := stored2 HR.out.row (.slice none 0 0) (.int .i64 0)
                generalize ((wr.setCell ⟨w.heap.size, 0, none⟩ (.slice none 0 0)).setCell ⟨w.heap.size, 1, none⟩ (.int .i64 0)) = wf at hs2 hw ⊢
                have e0 := two0 hs2
                have e1 := two1 hs2
                refine bodyPost_ret (v := .tuple #[.agg #[.slice none 0 0, .int .i64 0], .bool false]) (by simp [results, go_sem, e0, e1]) rfl ?_
                have HBf := HP.out.below (Nat.le_refl _) (Nat.le_refl _)
                exact ansSt_no HG.out (HBf.trans (hw.below (Nat.le_refl _) HBf.size))
          · have hje : j = s.size := by omega
            have hltI : ¬ (j : Int) < (s.size : Int) := by omega
            have hk2 : k = s.size - 2 := by omega
            subst hk2
            obtain ⟨A', c', hAc, _, hres⟩ := own_res HO.out rfl
            have hA1 : A' = A := by injection hAc with h _ _; exact h.symm
            subst hA1
            have HRS := Lib.hid hres
            have HST := Lib.hid (fun W h => l2State_any A' c (w.heap.size + 1) wr.heap.size (liesTo s (s.size - 2)) m W h (by omega))
            clear hfl hres hAc HO hje hjk HJ hm0 h14 h3
            cases hst : isSt (liesTo s (s.size - 2)) m with
            | true =>
              have HG := Lib.hid (HGD.out HU.out hst)
              rw [hst] at HST
              clear hst
              go_wp2_with fail
              refine (HST.out _ HRS.out.ins).mono ?_
              rintro e wz ⟨rfl, hb⟩
              have HT2 := Lib.hid (HT.out.step hb)
              have HR2 := Lib.hid (HR.out.step hb)
              have HRS2 := Lib.hid (HRS.out.step hb)
              have HBZ := Lib.hid (below_trans (HP.out.below (Nat.le_refl _) (Nat.le_refl _)) hb)
              clear hb h0 h1 q0 q1 q2 q3
              have h0 := HT2.out.c0
              have h1 := HT2.out.c1
              have q0 := HR2.out.c0
              have q1 := HR2.out.c1
              have q2 := HR2.out.f0
              have q3 := HR2.out.f1
              go_wp2
              obtain ⟨hs2, hw⟩ := stored2 HR2.out.row (.slice A' (liesTo s (s.size - 2)).length c) (.int .i64 m)
              generalize ((wz.setCell ⟨w.heap.size, 0, none⟩ (.slice A' (liesTo s (s.size - 2)).length c)).setCell ⟨w.heap.size, 1, none⟩ (.int .i64 m)) = wf at hs2 hw ⊢
              have e0 := two0 hs2
              have e1 := two1 hs2
              refine bodyPost_ret (v := .tuple #[.agg #[.slice A' (liesTo s (s.size - 2)).length c, .int .i64 m], .bool true]) (by simp [results, go_sem, e0, e1]) rfl ?_
              refine HGM.out HG.out _ _ _ _ (liesTo_len _ _) ?_ (HBZ.out.trans (hw.below (Nat.le_refl _) HBZ.out.size))
              exact res_wide (HRS2.out.within hw (.inr (Nat.le_refl _))) (Nat.le_succ _) (Nat.le_trans HRS2.out.top hw.size)
            | false =>
              have HG := Lib.hid (HSTN.out hst)
              rw [hst] at HST
              clear hst
              go_wp2_with fail
              refine (HST.out _ HRS.out.ins).mono ?_
              rintro e wz ⟨rfl, hb⟩
              have HR2 := Lib.hid (HR.out.step hb)
              have HBZ := Lib.hid (below_trans (HP.out.below (Nat.le_refl _) (Nat.le_refl _)) hb)
              clear hb h0 h1 q0 q1 q2 q3
              have q0 := HR2.out.c0
              have q1 := HR2.out.c1
              have q2 := HR2.out.f0
              have q3 := HR2.out.f1
              go_wp2
              obtain ⟨hs2, hw⟩ := stored2 HR2.out.row (.slice none 0 0) (.int .i64 0)
              generalize ((wz.setCell ⟨w.heap.size, 0, none⟩ (.slice none 0 0)).setCell ⟨w.heap.size, 1, none⟩ (.int .i64 0)) = wf at hs2 hw ⊢
              have e0 := two0 hs2
              have e1 := two1 hs2
              refine bodyPost_ret (v := .tuple #[.agg #[.slice none 0 0, .int .i64 0], .bool false]) (by simp [results, go_sem, e0, e1]) rfl ?_
              exact ansSt_no HG.out (HBZ.out.trans (hw.below (Nat.le_refl _) HBZ.out.size))
      · have HG : Hid (¬ Good s) := fun h => hc h.colon
        have hcI : ((s[1].toNat : Int) == 58) = false := by simpa using (fun h : (s[1].toNat : Int) = 58 => hc (by omega))
        have hcI2 : ¬ (s[1].toNat : Int) = 58 := by omega
        clear hc
        go_enter Tryd.func9, Tryd.ntmps9
        go_wp2_with fail
        generalize w.alloc (.cells #[.slice none 0 0, .int .i64 0] 24) = wa at HR HB ⊢
        refine (HL.out _).mono ?_
        rintro e w1 ⟨rfl, hw⟩
        have hw := hw.symm
        subst hw
        go_wp2_with fail
        refine (HM.out _).mono ?_
        rintro e w1 ⟨rfl, hw⟩
        have hw := hw.symm
        subst hw
        have q0 := HR.out.c0
        have q1 := HR.out.c1
        have q2 := HR.out.f0
        have q3 := HR.out.f1
        go_wp2
        obtain ⟨hs2, hw⟩ := stored2 HR.out.row (.slice none 0 0) (.int .i64 0)
        generalize ((wa.setCell ⟨w.heap.size, 0, none⟩ (.slice none 0 0)).setCell ⟨w.heap.size, 1, none⟩ (.int .i64 0)) = wf at hs2 hw ⊢
        have e0 := two0 hs2
        have e1 := two1 hs2
        refine bodyPost_ret (v := .tuple #[.agg #[.slice none 0 0, .int .i64 0], .bool false]) (by simp [results, go_sem, e0, e1]) rfl ?_
        exact ansSt_no HG.out (HB.out.trans (hw.below (Nat.le_refl _) HB.out.size))
set_option maxHeartbeats 4000000 in
theorem parseState_spec (s : ByteArray) (w : World) (hs : s.size ≤ 1048576) :
    Calls Tryd.prog 4 #[.string s] w (AnsSt w (pL s) (pM s) (pB s)) := by
  have HR := Lib.hid (TwoS.new w (.slice none 0 0) (.int .i64 0) w.heap.size rfl)
  have HB := Lib.hid ((Below.refl w.heap.size w).alloc (Nat.le_refl _) (.cells #[.slice none 0 0, .int .i64 0] 24))
  have HC := Lib.hid (fun W => l2Parse_any s W hs)
  generalize pL s = L at HC ⊢
  generalize pM s = m at HC ⊢
  generalize pB s = b at HC ⊢
  go_enter Tryd.func4, Tryd.ntmps4
  go_wp2_with fail
  have HSZ : Hid ((w.alloc (.cells #[.slice none 0 0, .int .i64 0] 24)).heap.size = w.heap.size + 1) := by show _ = _; simp
  generalize w.alloc (.cells #[.slice none 0 0, .int .i64 0] 24) = wa at HR HB HSZ ⊢
  refine (HC.out wa).mono ?_
  rintro e wb ⟨B, c', rfl, hr, hb⟩
  have HRES := Lib.hid hr
  replace HR := Lib.hid (HR.out.step hb)
  have HBB := Lib.hid (below_trans HB.out hb)
  have hwa := HB.out.size
  clear hb hr
  have q0 := HR.out.c0
  have q1 := HR.out.c1
  have q2 := HR.out.f0
  have q3 := HR.out.f1
  go_wp2
  obtain ⟨hs2, hw⟩ := stored2 HR.out.row (.slice B L.length c') (.int .i64 m)
  generalize ((wb.setCell ⟨w.heap.size, 0, none⟩ (.slice B L.length c')).setCell ⟨w.heap.size, 1, none⟩ (.int .i64 m)) = wf at hs2 hw ⊢
  have e0 := two0 hs2
  have e1 := two1 hs2
  refine bodyPost_ret (v := .tuple #[.agg #[.slice B L.length c', .int .i64 m], .bool b]) (by simp [results, go_sem, e0, e1]) rfl ?_
  have hlt : w.heap.size + 1 ≤ wa.heap.size := by have := HSZ.out; omega
  exact ⟨B, c', rfl, res_wide (HRES.out.within hw (.inr hlt)) (Nat.le_trans (Nat.le_succ _) hlt) (Nat.le_trans HRES.out.top hw.size), HBB.out.trans (hw.below (Nat.le_refl _) HBB.out.size)⟩
end Go.Proofs.YtdolonmjhlhkeabDoor
