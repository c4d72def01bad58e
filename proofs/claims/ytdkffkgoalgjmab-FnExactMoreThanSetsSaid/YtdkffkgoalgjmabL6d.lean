/- l6Needs: the search from below. -/
import Derived.Test.YtdkffkgoalgjmabL6c
import Derived.Test.YtdkffkgoalgjmabL6R
namespace Go.Proofs.Ytdkffkgoalgjmab
open Go.RowKit Go.ChangeShapes Go.WideShapes
set_option linter.unusedVariables false

theorem done_nd {M n : Nat} (hM : M ≤ 1) (h1 : 1 ≤ n) (h5 : n ≤ 5) (κ : Nat) : doneL (stOf M n κ) = decide (ndK M n κ = 0) := by
  have hs := stOf_short hM h1 h5 κ
  unfold ndK
  rcases done_iff hs with ⟨h, h2, _⟩ | ⟨h, h2, _⟩
  · rw [h, decide_eq_true h2]
  · rw [h, decide_eq_false (by omega)]
theorem can_nd {M n : Nat} (hM : M ≤ 1) (h1 : 1 ≤ n) (h5 : n ≤ 5) (κ rd k : Nat) : canL M (stOf M n κ) rd k = (decide (0 ≤ foundC (ndK M n) rd (keyS M (cmpAft (stOf M n κ) M k true))) && decide (0 ≤ foundC (ndK M n) rd (keyS M (cmpAft (stOf M n κ) M k false)))) := by
  have h := canL_found (rd := rd) (k := k) (stOf_short hM h1 h5 κ)
  rw [stOf_len] at h
  exact h
theorem key_aft_lt {M n : Nat} (hM : M ≤ 1) (h1 : 1 ≤ n) (h5 : n ≤ 5) (κ k : Nat) (y : Bool) : keyS M (cmpAft (stOf M n κ) M k y) < (M + 2) ^ n := by
  have h := keyTo_lt ((stOf_short hM h1 h5 κ).aft k y).fit
  rwa [cmpAft_len, stOf_len] at h
theorem fndC_get {nd : Nat → Nat} {top rd k : Nat} (h : k < top) : (fndC nd top rd).getD k 0 = foundC nd rd k := by
  simp [fndC, List.getD, h]
theorem anyL_last {M rd : Nat} {zs : List Int} {j : Nat} {o : Bool} (ho : o = anyL M zs rd j) {n : Nat} (hj : j ≤ n - 1) (h : o = true ∨ j = n - 1) : o = anyL M zs rd (n - 1) := by
  rcases h with h | h
  · rw [h] at ho ⊢
    exact (anyL_mono ho.symm hj).symm
  · rw [← h]; exact ho

set_option maxRecDepth 100000 in
set_option maxHeartbeats 16000000 in
theorem l6Needs_any (n M : Nat) (w : World) (hM : M ≤ 1) (h1 : 1 ≤ n) (h5 : n ≤ 5) :
    Calls Try.prog 92 #[.int .i64 (n : Int), .int .i64 (M : Int)] w fun e w' => ∃ g c, e = .returned (.slice (some ⟨g, 0, none⟩) ((M + 2) ^ n) c) ∧ w.heap.size ≤ g ∧ Own w' g (g + 1) (some ⟨g, 0, none⟩) (needsL M n) ∧ Below w.heap.size w w' := by
  obtain ⟨i0, hi0, hz0, hz1, hz2⟩ := info_parts infoI3
  have hp9 := pow_top hM h1 h5
  have hM2 : (0 : Int) ≤ (M : Int) + 2 := by omega
  go_enter Try.func92, Try.ntmps92
  go_wp2_with fail
  go_loopw [5, 6] (fun s i wr => ∃ (k x : Nat), k ≤ n ∧ i = .int .i64 k ∧ s = .int .i64 (x : Int) ∧ Hid (x = (M + 2) ^ k) ∧ x ≤ 243 ∧ wr = w) (fun _ i _ => n - (intOf i).toNat)
  case atStart => exact ⟨0, 1, Nat.zero_le _, rfl, rfl, rfl, by omega, by first | trivial | rfl⟩
  case round =>
    obtain ⟨k, x, hk, rfl, rfl, HX, hx, hwr⟩ := hrel
    have hwr := hwr.symm
    subst hwr
    by_cases hlt : k < n
    · have HX2 : Hid (x * (M + 2) = (M + 2) ^ (k + 1)) := Lib.hid (by rw [HX.out, Nat.pow_succ])
      have hx2 : x * (M + 2) ≤ 243 := by
        rw [HX2.out]
        exact (pow_top hM (by omega) (show k + 1 ≤ 5 by omega)).2
      have eX : ((x * (M + 2) : Nat) : Int) = (x : Int) * ((M : Int) + 2) := by simp
      have hxI : 0 ≤ (x : Int) * ((M : Int) + 2) ∧ (x : Int) * ((M : Int) + 2) ≤ 243 := by rw [← eX]; exact ⟨Int.natCast_nonneg _, Int.ofNat_le.2 hx2⟩
      have HE := Lib.hid eX
      clear eX
      go_wp2
      go_roundw
      case rel => exact ⟨k + 1, x * (M + 2), by omega, by go_num, by rw [HE.out], HX2, hx2, by first | trivial | rfl⟩
      case measure => simp [intOf]; omega
    · obtain rfl : k = n := by omega
      have hkp := h1
      have hx9 : 2 ≤ x ∧ x ≤ 243 := by rw [← HX.out] at hp9; exact hp9
      have HFR : Hid (∀ rd, rd ≤ 7 → leftC (ndK M k) rd x = [] → fndC (ndK M k) x rd = needsL M k) := Lib.hid (fun rd h7 h => by rw [fndC_done h h7, HX.out]; rfl)
      have HND := Lib.hid (fun κ => ndK_lt hM h1 h5 κ)
      have hmk := fun W => makeInts x (by omega) W
      simp only [List.toArray_replicate] at hmk
      have HO0 : Hid (Own (w.alloc (.cells (Array.replicate x (Value.int .i64 0)) 3)) w.heap.size (w.heap.size + 1) (some ⟨w.heap.size, 0, none⟩) (n1C (ndK M k) x 0)) := Lib.hid (by
        rw [n1C_zero]
        have := Own.new w (List.replicate x 0) w.heap.size (w.heap.size + 1) (Nat.le_refl _) (Nat.lt_succ_self _)
        simpa using this)
      have B1 := (Below.refl w.heap.size w).alloc (Nat.le_refl _) (.cells (Array.replicate x (Value.int .i64 0)) 3)
      have HB0 := Lib.hid (B1.alloc B1.size (.cells #[] 3))
      have HO1 := Lib.hid (own_same HO0.out (((Below.refl _ (w.alloc (.cells (Array.replicate x (Value.int .i64 0)) 3))).alloc (Nat.le_refl _) (.cells #[] 3)).block _ (own_lt HO0.out)))
      have HL0 : Hid (((w.alloc (.cells (Array.replicate x (Value.int .i64 0)) 3)).alloc (.cells #[] 3)).ownsRow (w.heap.size + 1) 3 1 (.slice (some ⟨w.heap.size + 1, 0, none⟩) 0 0) (leftC (ndK M k) 1 0).length ((leftC (ndK M k) 1 0).map (Value.int .i64))) := Lib.hid (by
        have := O0_any (w.alloc (.cells (Array.replicate x (Value.int .i64 0)) 3)) (w.heap.size + 1) (by simp)
        simpa [leftC] using this)
      clear B1 HO0 hp9
      go_wp2_with fail
      clear hmk
      generalize (w.alloc (.cells (Array.replicate x (Value.int .i64 0)) 3)).alloc (.cells #[] 3) = wb at HB0 HO1 HL0 ⊢
      generalize (Value.slice (some ⟨w.heap.size + 1, 0, none⟩) 0 0) = v0 at HL0 ⊢
      go_loopw [8, 9] (fun v i wr => ∃ (t : Nat), t ≤ x ∧ i = .int .i64 t ∧ Hid (Own wr w.heap.size (w.heap.size + 1) (some ⟨w.heap.size, 0, none⟩) (n1C (ndK M k) x t)) ∧ Hid (wr.ownsRow (w.heap.size + 1) 3 1 v (leftC (ndK M k) 1 t).length ((leftC (ndK M k) 1 t).map (Value.int .i64))) ∧ Hid (Below w.heap.size w wr)) (fun _ i _ => x - (intOf i).toNat)
      case atStart => exact ⟨0, Nat.zero_le _, rfl, HO1, HL0, HB0⟩
      case round =>
        clear HO1 HL0 HB0
        obtain ⟨t, ht, rfl, HO, HLf, HB⟩ := hrel
        rename World => w1
        by_cases htl : t < x
        · have hll := leftC_len (ndK M k) 1 t
          have hc0 := own_cell HO.out (k := t) (by rw [n1C_len]; exact htl)
          have hf0 := own_free HO.out t
          have HOa := Lib.hid (own_set HO.out (k := t) (by rw [n1C_len]; exact htl) (-1))
          have HWa := Lib.hid (within_set (Within.refl w.heap.size (w.heap.size + 1) w1) (Nat.le_refl _) (Nat.lt_succ_self _) t (.int .i64 (-1)))
          have HLa := Lib.hid (ownsRow_within6 HLf.out HWa.out (Nat.le_refl _))
          have HBa := Lib.hid (HB.out.trans (HWa.out.below (Nat.le_refl _) HB.out.size))
          have HC := Lib.hid (fun W => l6Of_any t k M W hM hkp h5 (by omega))
          have HDn := Lib.hid (fun B cB lo hi W h => l6Done_any B cB lo hi (stOf M k t) (M : Int) W h (by rw [stOf_len]; omega))
          rw [stOf_len, done_nd hM hkp h5] at HDn
          have HSt := Lib.hid (n1C_set (ndK M k) x t)
          have HF1 := Lib.hid (foundC_one (ndK M k) t)
          generalize (n1C (ndK M k) x t).getD t 0 = z0 at hc0
          clear HO HLf HB
          go_wp2_with fail
          generalize w1.setCell ⟨w.heap.size, t, none⟩ (.int .i64 (-1)) = w2 at HOa HWa HLa HBa ⊢
          refine (HC.out w2).mono ?_
          rintro e w3 ⟨g3, rfl, hg3, ho3, hb3⟩
          have HO3 := Lib.hid (own_insB ho3)
          have HOb := Lib.hid (own_same HOa.out (hb3.block _ (own_lt HOa.out)))
          have HLb := Lib.hid (ownsRow_past6 HLa.out (Past.of_below hb3))
          have HBb := Lib.hid (below_trans HBa.out hb3)
          clear ho3 hb3 HC HOa HLa HWa HBa hc0 hf0
          go_wp2_with fail
          refine (HDn.out (some ⟨g3, 0, none⟩) k g3 (g3 + 1) w3 HO3.out).mono ?_
          rintro e w4 ⟨rfl, hb4⟩
          replace HOb := Lib.hid (own_same HOb.out (hb4.block _ (own_lt HOb.out)))
          replace HLb := Lib.hid (ownsRow_past6 HLb.out (Past.of_below hb4))
          replace HBb := Lib.hid (below_trans HBb.out hb4)
          clear hb4 HDn HO3
          by_cases hT : ndK M k t = 0
          · have HLt := Lib.hid (leftC_told hT)
            rw [decide_eq_true hT]
            have hc1 := own_cell HOb.out (k := t) (by rw [List.length_set, n1C_len]; exact htl)
            have hf1 := own_free HOb.out t
            have HOc := Lib.hid (own_set HOb.out (k := t) (by rw [List.length_set, n1C_len]; exact htl) 0)
            rw [List.set_set, show (0 : Int) = foundC (ndK M k) 1 t from by rw [HF1.out, if_pos hT], HSt.out] at HOc
            have HWc := Lib.hid (within_set (Within.refl w.heap.size (w.heap.size + 1) w4) (Nat.le_refl _) (Nat.lt_succ_self _) t (.int .i64 0))
            have HLc := Lib.hid (ownsRow_within6 HLb.out HWc.out (Nat.le_refl _))
            have HBc := Lib.hid (HBb.out.trans (HWc.out.below (Nat.le_refl _) HBb.out.size))
            generalize ((n1C (ndK M k) x t).set t (-1)).getD t 0 = z1 at hc1
            have hz : foundC (ndK M k) 1 t = 0 := by rw [HF1.out, if_pos hT]
            rw [hz] at HOc
            clear hz
            have HT := Lib.hid hT
            clear hT
            go_wp2
            go_roundw
            case rel => exact ⟨t + 1, by omega, by go_num, HOc, by rw [HLt.out]; exact HLc, HBc⟩
            case measure => simp [intOf]; omega
          · have HLy := Lib.hid (leftC_yes hT)
            rw [decide_eq_false hT]
            have HOd : Hid (Own w4 w.heap.size (w.heap.size + 1) (some ⟨w.heap.size, 0, none⟩) (n1C (ndK M k) x (t + 1))) := Lib.hid (by
              have h := HOb.out
              rw [show (-1 : Int) = foundC (ndK M k) 1 t from by rw [HF1.out, if_neg hT], HSt.out] at h
              exact h)
            have hszb := HBb.out.size
            have hsz5 : w.heap.size + 1 ≤ w4.heap.size := own_lt HOd.out
            have hgl : (leftC (ndK M k) 1 t).length ≤ 243 := by omega
            generalize leftC (ndK M k) 1 t = F at HLb HLy hgl
            clear hT
            go_wp2_with (at_builtin; refine wpList_append_lies _ rfl (.tmp 46) (.tmp 48) 22 rfl (w.heap.size + 1) 3 i0 (.int .i64 0) 1 8 Try.underlying22 hi0 hz0 hz1 hz2 rfl (by decide) u8 F.length (F.map (Value.int .i64)) rfl (HLb.out.alloc _) ⟨w4.heap.size, 0, none⟩ 1 1 [.int .i64 (t : Int)] rfl rfl (cell_one_new _ _ _) (by simp [Value.oneCell']) (by decide) (by unfold maxLen; omega) (by omega) (by simp; omega) _ rfl ?_; intro ga ca wa hown ha hblk hlta; have HLz : Hid (wa.ownsRow (w.heap.size + 1) 3 1 (.slice (some ⟨ga, 0, none⟩) (F.length + 1) ca) (F ++ [(t : Int)]).length ((F ++ [(t : Int)]).map (Value.int .i64))) := Lib.hid (by simpa using hown); have HPz := Lib.hid (Past.grown HLb.out ha); clear hown ha hblk hlta)
            have HOz := Lib.hid (own_same HOd.out (HPz.out.block _ (own_lt HOd.out) (Nat.lt_succ_self _)))
            have HBz := Lib.hid (HBb.out.trans (HPz.out.below (Nat.le_succ _) hszb))
            go_wp2
            go_roundw
            case rel => exact ⟨t + 1, by omega, by go_num, HOz, by rw [HLy.out]; exact HLz, HBz⟩
            case measure => simp [intOf]; omega
        · obtain rfl : t = x := by omega
          rw [n1C_all] at HO
          have hll1 := leftC_len (ndK M k) 1 t
          go_wp2_with fail
          go_loopw [8, 10] (fun v i wr => ∃ (rd : Nat), 1 ≤ rd ∧ rd ≤ 7 ∧ i = .int .i64 rd ∧ Hid (Own wr w.heap.size (w.heap.size + 1) (some ⟨w.heap.size, 0, none⟩) (fndC (ndK M k) t rd)) ∧ Hid (wr.ownsRow (w.heap.size + 1) 3 1 v (leftC (ndK M k) rd t).length ((leftC (ndK M k) rd t).map (Value.int .i64))) ∧ Hid (Below w.heap.size w wr)) (fun _ i _ => 8 - (intOf i).toNat)
          case atStart => exact ⟨1, Nat.le_refl _, by omega, rfl, HO, HLf, HB⟩
          case round =>
            clear HO HLf HB
            obtain ⟨rd, hrd, hrd7, rfl, HO, HLf, HB⟩ := hrel
            rename World => w2
            have hll := leftC_len (ndK M k) rd t
            have hg2 := own_lt HO.out
            by_cases h0 : 0 < (leftC (ndK M k) rd t).length
            · have hrd6 : rd ≤ 6 := by
                rcases Nat.lt_or_ge rd 7 with h | h
                · omega
                · rw [leftC_none (B := 7) (fun κ _ => HND.out κ) h] at h0; simp at h0
              obtain ⟨gl, cl, rfl, hgl, _⟩ := ownsRow_at6 HLf.out h0
              have HMa := Lib.hid (mC_all (ndK M k) rd t)
              have HFy := Lib.hid (fun i hi h => @fC_yes (ndK M k) rd t i hi h)
              have HFn := Lib.hid (fun i hi h => @fC_no (ndK M k) rd t i hi h)
              have HFl := Lib.hid (fun i => fC_len (ndK M k) rd t i)
              have HLm := Lib.hid (fun i (h : i < (leftC (ndK M k) rd t).length) => leftC_mem (List.getElem_mem h))
              have HSs := Lib.hid (fun i κ hi hk => @sC_set (ndK M k) rd t i κ hi hk)
              have HS0 := Lib.hid (sC_zero (ndK M k) rd t)
              have HSa := Lib.hid (@sC_all (ndK M k) rd t)
              have HSl := Lib.hid (fun i => sC_len (ndK M k) rd t i)
              have HSm := Lib.hid (fun x h => @fC_mem (ndK M k) rd t x h)
              have HE1 : Hid (((w2.alloc (.cells #[] 3)).alloc (.cells #[] 3)).ownsRow w2.heap.size 3 1 (.slice (some ⟨w2.heap.size, 0, none⟩) 0 0) (fC (ndK M k) rd t 0).length ((fC (ndK M k) rd t 0).map (Value.int .i64))) := Lib.hid (by
                have h := (O0_any w2 w2.heap.size (Nat.le_refl _)).alloc (.cells #[] 3)
                simpa [fC] using h)
              have HE2 : Hid (((w2.alloc (.cells #[] 3)).alloc (.cells #[] 3)).ownsRow w2.heap.size 3 1 (.slice (some ⟨w2.heap.size + 1, 0, none⟩) 0 0) (mC (ndK M k) rd t 0).length ((mC (ndK M k) rd t 0).map (Value.int .i64))) := Lib.hid (by
                have h := O0_any (w2.alloc (.cells #[] 3)) w2.heap.size (by simp)
                simpa [mC] using h)
              have HE3 : Hid (Apart6 ((w2.alloc (.cells #[] 3)).alloc (.cells #[] 3)) (.slice (some ⟨w2.heap.size, 0, none⟩) 0 0) (.slice (some ⟨w2.heap.size + 1, 0, none⟩) 0 0)) := Lib.hid ⟨fun e => by (have e : w2.heap.size = w2.heap.size + 1 := (by injection e)); omega, fun q e => by (have e : w2.heap.size = q := (by injection e)); simp; omega, fun q e => by (have e : w2.heap.size + 1 = q := (by injection e)); simp; omega⟩
              have HE4 := Lib.hid (past_alloc6 (past_alloc6 (Past.refl w2.heap.size w2) (.cells #[] 3)) (.cells #[] 3))
              go_wp2_with fail
              generalize (w2.alloc (.cells #[] 3)).alloc (.cells #[] 3) = wc at HE1 HE2 HE3 HE4 ⊢
              generalize (Value.slice (some ⟨w2.heap.size, 0, none⟩) 0 0) = vf0 at HE1 HE3 ⊢
              generalize (Value.slice (some ⟨w2.heap.size + 1, 0, none⟩) 0 0) = vm0 at HE2 HE3 ⊢
              go_loopw [11, 12, 13] (fun vf vm i wr => ∃ (q : Nat), q ≤ (leftC (ndK M k) rd t).length ∧ i = .int .i64 q ∧ Hid (wr.ownsRow w2.heap.size 3 1 vf (fC (ndK M k) rd t q).length ((fC (ndK M k) rd t q).map (Value.int .i64))) ∧ Hid (wr.ownsRow w2.heap.size 3 1 vm (mC (ndK M k) rd t q).length ((mC (ndK M k) rd t q).map (Value.int .i64))) ∧ Hid (Apart6 wr vf vm) ∧ Hid (Past w2.heap.size w2 wr)) (fun _ _ i _ => (leftC (ndK M k) rd t).length - (intOf i).toNat)
              case atStart => exact ⟨0, Nat.zero_le _, rfl, HE1, HE2, HE3, HE4⟩
              case round =>
                clear HE1 HE2 HE3 HE4
                obtain ⟨q, hq, rfl, HFr, HMr, HAp, HPq⟩ := hrel
                rename World => w3
                have hsz3 := HPq.out.size
                by_cases hql : q < (leftC (ndK M k) rd t).length
                · obtain ⟨κ, hκ, hκt, hκr⟩ := HLm.out q hql
                  have hlen := HFl.out q
                  have hc3 := ownsRow_cell6 (ownsRow_past6 HLf.out HPq.out) hql
                  rw [hκ] at hc3
                  have HN4 := Lib.hid (own_same HO.out (HPq.out.block _ hg2 hg2))
                  have HC := Lib.hid (fun W => l6Of_any κ k M W hM hkp h5 (by omega))
                  have HYq : Hid (isFC (ndK M k) rd (κ : Int) = true → fC (ndK M k) rd t (q + 1) = fC (ndK M k) rd t q ++ [(κ : Int)] ∧ mC (ndK M k) rd t (q + 1) = mC (ndK M k) rd t q) := Lib.hid (fun h => by have h2 := HFy.out q hql (by rw [hκ]; exact h); rw [hκ] at h2; exact h2)
                  have HNq : Hid (isFC (ndK M k) rd (κ : Int) = false → fC (ndK M k) rd t (q + 1) = fC (ndK M k) rd t q ∧ mC (ndK M k) rd t (q + 1) = mC (ndK M k) rd t q ++ [(κ : Int)]) := Lib.hid (fun h => by have h2 := HFn.out q hql (by rw [hκ]; exact h); rw [hκ] at h2; exact h2)
                  have HLl := Lib.hid (fun W (h : Past w2.heap.size w2 W) => by have h2 := ownsRow_cell6 (ownsRow_past6 HLf.out h) hql; rw [hκ] at h2; exact h2)
                  have hsκ := stOf_short hM hkp h5 κ
                  have HAny : Hid (isFC (ndK M k) rd (κ : Int) = anyL M (stOf M k κ) rd (k - 1)) := Lib.hid (by
                    have h2 := round_iff hsκ hrd hκr
                    rw [stOf_len] at h2
                    rw [h2]
                    unfold isFC
                    rw [Int.toNat_natCast, decide_eq_decide]
                    show ndK M k κ ≤ rd ↔ ndK M k κ = rd
                    omega)
                  have HSκ := Lib.hid hsκ
                  generalize fC (ndK M k) rd t q = F at HFr hlen HYq HNq
                  generalize mC (ndK M k) rd t q = G at HMr hlen HYq HNq
                  clear HFy HFn HFl HLm hκ hsκ
                  go_wp2_with fail
                  refine (HC.out w3).mono ?_
                  rintro e w4 ⟨g4, rfl, hg4, ho4, hb4⟩
                  have HO4 := Lib.hid (own_insB ho4)
                  replace HN4 := Lib.hid (own_same HN4.out (hb4.block _ (own_lt HN4.out)))
                  have HP4 := Lib.hid (Past.of_below hb4 : Past w3.heap.size w3 w4)
                  clear ho4 hb4 HC hc3
                  have HX4 := Lib.hid (Two.new w4 (.slice (some ⟨g4, 0, none⟩) k k) (.int .i64 (M : Int)) 36 w4.heap.size rfl)
                  have hbx := (Below.refl w4.heap.size w4).alloc (Nat.le_refl _) (.cells #[.slice (some ⟨g4, 0, none⟩) k k, .int .i64 (M : Int)] 36)
                  replace HO4 := Lib.hid (HO4.out.step hbx)
                  replace HN4 := Lib.hid (own_same HN4.out (hbx.block _ (own_lt HN4.out)))
                  replace HP4 := Lib.hid (HP4.out.trans (past_base6 (Past.of_below hbx) HP4.out.size))
                  clear hbx
                  go_wp2_with fail
                  generalize w4.alloc (.cells #[.slice (some ⟨g4, 0, none⟩) k k, .int .i64 (M : Int)] 36) = w5 at HX4 HO4 HN4 HP4 ⊢
                  go_loopw [15, 16] (fun o i wr => ∃ (j : Nat) (b : Bool), j + 1 ≤ k ∧ i = .int .i64 ((j : Int) + 1) ∧ o = .bool b ∧ Hid (b = anyL M (stOf M k κ) rd j) ∧ Hid (Below w5.heap.size w5 wr)) (fun _ i _ => k - (intOf i).toNat)
                  case atStart => exact ⟨0, false, by omega, rfl, rfl, Lib.hid rfl, Lib.hid (Below.refl _ _)⟩
                  case round =>
                    obtain ⟨j, b, hj, rfl, rfl, Hb, HBw⟩ := hrel
                    rename World => w6
                    have x0 := (HX4.out.step HBw.out).c0
                    have x1 := (HX4.out.step HBw.out).c1
                    by_cases hgo : j + 1 < k ∧ b = false
                    · obtain ⟨hjk, rfl⟩ := hgo
                      have hcn := can_nd hM hkp h5 κ rd (j + 1)
                      have hk1 := key_aft_lt hM hkp h5 κ (j + 1) true
                      have hk2 := key_aft_lt hM hkp h5 κ (j + 1) false
                      rw [← HX.out] at hk1 hk2
                      have HA1 := Lib.hid (fun W y h => l6After_any (some ⟨g4, 0, none⟩) k g4 (g4 + 1) (stOf M k κ) M (j + 1) y W h HSκ.out (by omega))
                      have HK1 := Lib.hid (fun B cB lo hi W y h => l6Key_any B cB lo hi (cmpAft (stOf M k κ) M (j + 1) y) M W h (HSκ.out.aft (j + 1) y))
                      have HLn := Lib.hid (fun y => show (cmpAft (stOf M k κ) M (j + 1) y).length = k from by rw [cmpAft_len, stOf_len])
                      rw [stOf_len, show (((j + 1 : Nat) : Nat) : Int) = (j : Int) + 1 from by simp] at HA1
                      have HKt := Lib.hid (fun B cB lo hi W h => HK1.out B cB lo hi W true h)
                      have HKf := Lib.hid (fun B cB lo hi W h => HK1.out B cB lo hi W false h)
                      rw [HLn.out true] at HKt
                      rw [HLn.out false] at HKf
                      have HN6 := Lib.hid (own_same HN4.out (HBw.out.block _ (own_lt HN4.out)))
                      have HI6 := Lib.hid (HO4.out.step HBw.out)
                      have HGt := Lib.hid (fndC_get (nd := ndK M k) (rd := rd) hk1)
                      have HGf := Lib.hid (fndC_get (nd := ndK M k) (rd := rd) hk2)
                      have HCn : Hid (anyL M (stOf M k κ) rd (j + 1) = (decide (0 ≤ foundC (ndK M k) rd (keyS M (cmpAft (stOf M k κ) M (j + 1) true))) && decide (0 ≤ foundC (ndK M k) rd (keyS M (cmpAft (stOf M k κ) M (j + 1) false))))) := Lib.hid (by rw [anyL, ← Hb.out, Bool.false_or, hcn])
                      clear hcn HK1 HLn
                      generalize keyS M (cmpAft (stOf M k κ) M (j + 1) true) = ky at hk1 HKt HGt HCn
                      generalize keyS M (cmpAft (stOf M k κ) M (j + 1) false) = kn at hk2 HKf HGf HCn
                      generalize foundC (ndK M k) rd ky = fy at HGt HCn
                      generalize foundC (ndK M k) rd kn = fn at HGf HCn
                      have hjkI : (j : Int) + 1 < (k : Int) := by omega
                      have hkyI : (ky : Int) < (t : Int) := by omega
                      have hknI : (kn : Int) < (t : Int) := by omega
                      go_wp2_with fail
                      refine (HA1.out w6 true HI6.out).mono ?_
                      rintro e w7 ⟨g7, c7, rfl, hg7, ho7, hb7⟩
                      have HI7 := Lib.hid (own_insB ho7)
                      replace HN6 := Lib.hid (own_same HN6.out (hb7.block _ (own_lt HN6.out)))
                      replace HI6 := Lib.hid (HI6.out.step hb7)
                      replace HBw := Lib.hid (below_trans HBw.out hb7)
                      clear ho7 hb7
                      go_wp2_with fail
                      refine (HKt.out _ _ _ _ w7 HI7.out).mono ?_
                      rintro e w8 ⟨rfl, hb8⟩
                      replace HN6 := Lib.hid (own_same HN6.out (hb8.block _ (own_lt HN6.out)))
                      replace HI6 := Lib.hid (HI6.out.step hb8)
                      replace HBw := Lib.hid (below_trans HBw.out hb8)
                      clear hb8 HI7 HKt
                      have hcy := own_cell HN6.out (k := ky) (by rw [fndC_len]; exact hk1)
                      rw [HGt.out] at hcy
                      have x2 := (HX4.out.step HBw.out).c0
                      have x3 := (HX4.out.step HBw.out).c1
                      clear x0 x1
                      by_cases hy : 0 ≤ fy
                      · rw [decide_eq_true hy, Bool.true_and] at HCn
                        go_wp2_with fail
                        refine (HA1.out w8 false HI6.out).mono ?_
                        rintro e w9 ⟨g9, c9, rfl, hg9, ho9, hb9⟩
                        have HI9 := Lib.hid (own_insB ho9)
                        replace HN6 := Lib.hid (own_same HN6.out (hb9.block _ (own_lt HN6.out)))
                        replace HBw := Lib.hid (below_trans HBw.out hb9)
                        clear ho9 hb9 x2 x3 hcy HI6
                        go_wp2_with fail
                        refine (HKf.out _ _ _ _ w9 HI9.out).mono ?_
                        rintro e w10 ⟨rfl, hb10⟩
                        replace HN6 := Lib.hid (own_same HN6.out (hb10.block _ (own_lt HN6.out)))
                        replace HBw := Lib.hid (below_trans HBw.out hb10)
                        clear hb10 HI9 HKf
                        have hcn := own_cell HN6.out (k := kn) (by rw [fndC_len]; exact hk2)
                        rw [HGf.out] at hcn
                        by_cases hn : 0 ≤ fn
                        · rw [decide_eq_true hn] at HCn
                          go_wp2
                          go_roundw
                          case rel => exact ⟨j + 1, true, by omega, by simp, rfl, Lib.hid HCn.out.symm, HBw⟩
                          case measure => simp [intOf]; omega
                        · rw [decide_eq_false hn] at HCn
                          go_wp2
                          go_roundw
                          case rel => exact ⟨j + 1, false, by omega, by simp, (by first | rfl | (simp; omega)), Lib.hid HCn.out.symm, HBw⟩
                          case measure => simp [intOf]; omega
                      · rw [decide_eq_false hy, Bool.false_and] at HCn
                        go_wp2
                        go_roundw
                        case rel => exact ⟨j + 1, false, by omega, by simp, (by first | rfl | (simp; omega)), Lib.hid HCn.out.symm, HBw⟩
                        case measure => simp [intOf]; omega
                    · have hdn : b = true ∨ j = k - 1 := by
                        cases b with
                        | true => exact .inl rfl
                        | false => exact .inr (by
                            have : ¬ (j + 1 < k) := fun h => hgo ⟨h, rfl⟩
                            omega)
                      have Hge : Hid (b = false → k ≤ j + 1) := Lib.hid (fun h => by
                        have : ¬ (j + 1 < k) := fun h2 => hgo ⟨h2, h⟩
                        omega)
                      have HFb : Hid (isFC (ndK M k) rd (κ : Int) = b) := Lib.hid (HAny.out.trans (anyL_last Hb.out (by omega) hdn).symm)
                      have HP36 := Lib.hid (HP4.out.trans (past_base6 (Past.of_below HBw.out) HP4.out.size))
                      replace HFr := Lib.hid (ownsRow_past6 HFr.out HP36.out)
                      replace HMr := Lib.hid (ownsRow_past6 HMr.out HP36.out)
                      replace HAp := Lib.hid (HAp.out.size HP36.out.size)
                      replace HPq := Lib.hid (HPq.out.trans (past_base6 HP36.out hsz3))
                      have hsz6 := HPq.out.size
                      have hc6 := HLl.out w6 HPq.out
                      clear x0 x1 HX4 HN4 HO4 HP4 HP36 HBw hgo hdn HAny Hb
                      cases b with
                      | true =>
                        have HE := Lib.hid (HYq.out HFb.out)
                        clear HYq HNq HFb
                        rcases Nat.lt_or_ge (j + 1) k with hjk | hjk
                        all_goals
                          go_wp2_with (at_builtin; refine wpList_append_lies _ rfl (.tmp 98) (.tmp 103) 22 rfl w2.heap.size 3 i0 (.int .i64 0) 1 8 Try.underlying22 hi0 hz0 hz1 hz2 rfl (by decide) u11 F.length (F.map (Value.int .i64)) rfl (HFr.out.alloc _) ⟨w6.heap.size, 0, none⟩ 1 1 [.int .i64 (κ : Int)] rfl rfl (cell_one_new _ _ _) (by simp [Value.oneCell']) (by decide) (by unfold maxLen; omega) (by omega) (by simp; omega) _ rfl ?_; intro ga ca wa hown ha hblk hlta; have HX5 := Lib.hid (show wa.ownsRow w2.heap.size 3 1 (.slice (some ⟨ga, 0, none⟩) (F.length + 1) ca) (F ++ [(κ : Int)]).length ((F ++ [(κ : Int)]).map (Value.int .i64)) from (by simpa using hown)); have HM5 := Lib.hid (ownsRow_other6 (HMr.out.alloc (.cells #[.int .i64 (κ : Int)] 3)) ha (fun e => HAp.out.ne e.symm)); have HA5 := Lib.hid (apart_next6 (n := F.length + 1) (c := ca) (HAp.out.size (Nat.le_of_lt (by simp) : w6.heap.size ≤ (w6.alloc (.cells #[.int .i64 (κ : Int)] 3)).heap.size)) hblk rfl hlta ha.size); have HP5 := Lib.hid (HPq.out.trans ((past_base6 (past_alloc6 (Past.refl w6.heap.size w6) (.cells #[.int .i64 (κ : Int)] 3)) hsz6).trans (Past.of_within (within_grown (HFr.out.alloc (.cells #[.int .i64 (κ : Int)] 3)) ha) (Nat.le_refl _)))); clear hown ha hblk hlta)
                          go_wp2
                          go_roundw
                          case rel => exact ⟨q + 1, by omega, by go_num, by rw [HE.out.1]; exact HX5, by rw [HE.out.2]; exact HM5, HA5, HP5⟩
                          case measure => simp [intOf]; omega
                      | false =>
                        have HE := Lib.hid (HNq.out HFb.out)
                        clear HYq HNq HFb
                        have hjk := Hge.out rfl
                        all_goals
                          go_wp2_with (at_builtin; refine wpList_append_lies _ rfl (.tmp 105) (.tmp 110) 22 rfl w2.heap.size 3 i0 (.int .i64 0) 1 8 Try.underlying22 hi0 hz0 hz1 hz2 rfl (by decide) u12 G.length (G.map (Value.int .i64)) rfl (HMr.out.alloc _) ⟨w6.heap.size, 0, none⟩ 1 1 [.int .i64 (κ : Int)] rfl rfl (cell_one_new _ _ _) (by simp [Value.oneCell']) (by decide) (by unfold maxLen; omega) (by omega) (by simp; omega) _ rfl ?_; intro ga ca wa hown ha hblk hlta; have HX5 := Lib.hid (show wa.ownsRow w2.heap.size 3 1 (.slice (some ⟨ga, 0, none⟩) (G.length + 1) ca) (G ++ [(κ : Int)]).length ((G ++ [(κ : Int)]).map (Value.int .i64)) from (by simpa using hown)); have HM5 := Lib.hid (ownsRow_other6 (HFr.out.alloc (.cells #[.int .i64 (κ : Int)] 3)) ha HAp.out.ne); have HA5 := Lib.hid (apart_next6 (n := G.length + 1) (c := ca) (HAp.out.symm.size (Nat.le_of_lt (by simp) : w6.heap.size ≤ (w6.alloc (.cells #[.int .i64 (κ : Int)] 3)).heap.size)) hblk rfl hlta ha.size).symm; have HP5 := Lib.hid (HPq.out.trans ((past_base6 (past_alloc6 (Past.refl w6.heap.size w6) (.cells #[.int .i64 (κ : Int)] 3)) hsz6).trans (Past.of_within (within_grown (HMr.out.alloc (.cells #[.int .i64 (κ : Int)] 3)) ha) (Nat.le_refl _)))); clear hown ha hblk hlta)
                          go_wp2
                          go_roundw
                          case rel => exact ⟨q + 1, by omega, by go_num, by rw [HE.out.1]; exact HM5, by rw [HE.out.2]; exact HX5, HA5, HP5⟩
                          case measure => simp [intOf]; omega
                · obtain rfl : q = (leftC (ndK M k) rd t).length := by omega
                  rw [HMa.out] at HMr
                  have HO3 := Lib.hid (own_same HO.out (HPq.out.block _ hg2 hg2))
                  rw [← HS0.out] at HO3
                  have hfl := (HFl.out (leftC (ndK M k) rd t).length).1
                  generalize hFF : fC (ndK M k) rd t (leftC (ndK M k) rd t).length = F at HFr HSs HSa HSm hfl
                  clear hFF
                  obtain ⟨Af, cf, rfl⟩ := ownsRow_slice6 HFr.out
                  go_wp2_with fail
                  go_loopw [17] (fun i wr => ∃ (y : Nat), y ≤ F.length ∧ i = .int .i64 y ∧ Hid (Own wr w.heap.size (w.heap.size + 1) (some ⟨w.heap.size, 0, none⟩) (sC (ndK M k) rd t y)) ∧ Hid (Within w.heap.size (w.heap.size + 1) w3 wr)) (fun i _ => F.length - (intOf i).toNat)
                  case atStart => exact ⟨0, Nat.zero_le _, rfl, HO3, Lib.hid (Within.refl _ _ _)⟩
                  case round =>
                    clear HO3
                    obtain ⟨y, hy, rfl, HO4, HW4⟩ := hrel
                    rename World => w4
                    by_cases hyl : y < F.length
                    · obtain ⟨gf, cf2, hvf, hgf, hcf⟩ := ownsRow_at6 (ownsRow_within6 HFr.out HW4.out (by omega)) hyl
                      injection hvf with hAf _ hcf2
                      subst hAf hcf2
                      obtain ⟨κ, hκ, hκt, _⟩ := HSm.out F[y] (List.getElem_mem hyl)
                      rw [hκ] at hcf
                      have hc0 := own_cell HO4.out (k := κ) (by rw [HSl.out]; exact hκt)
                      have hf0 := own_free HO4.out κ
                      have HO5 := Lib.hid (own_set HO4.out (k := κ) (by rw [HSl.out]; exact hκt) ((rd : Nat) : Int))
                      rw [HSs.out y κ hyl hκ] at HO5
                      have HW5 := Lib.hid (HW4.out.trans (within_set (Within.refl w.heap.size (w.heap.size + 1) w4) (Nat.le_refl _) (Nat.lt_succ_self _) κ (.int .i64 (rd : Int))))
                      generalize (sC (ndK M k) rd t y).getD κ 0 = z0 at hc0
                      go_wp2
                      go_roundw
                      case rel => exact ⟨y + 1, by omega, by go_num, HO5, HW5⟩
                      case measure => simp [intOf]; omega
                    · obtain rfl : y = F.length := by omega
                      rw [HSa.out] at HO4
                      have HMz := Lib.hid (own_base (ownsRow_within6 HMr.out HW4.out (by omega)) (Nat.succ_le_of_lt hg2))
                      have HBz := Lib.hid ((below_trans HB.out (HPq.out.below (Nat.le_refl _) (Nat.le_refl _))).trans (HW4.out.below (Nat.le_refl _) (Nat.le_trans HB.out.size hsz3)))
                      go_wp2
                      go_roundw
                      case rel => exact ⟨rd + 1, by omega, by omega, by go_num, HO4, HMz, HBz⟩
                      case measure => simp [intOf]; omega
            · have hnil : leftC (ndK M k) rd t = [] := List.eq_nil_of_length_eq_zero (by omega)
              have HE := Lib.hid (HFR.out rd hrd7 hnil)
              obtain ⟨Ao, co, rfl⟩ := ownsRow_slice6 HLf.out
              rw [HE.out] at HO
              have hl0 : (leftC (ndK M k) rd t).length = 0 := by omega
              go_wp2
              go_ret
              exact ⟨_, t, by rw [← HX.out]; rfl, Nat.le_refl _, HO.out, HB.out⟩
end Go.Proofs.Ytdkffkgoalgjmab
