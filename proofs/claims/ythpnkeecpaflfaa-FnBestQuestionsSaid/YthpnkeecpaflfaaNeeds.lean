/- l4Needs. -/
import Derived.Test.YthpnkeecpaflfaaNeedsM
namespace Go.Proofs.Ythpnkeecpaflfaa
open Go.RowKit Go.ChangeShapes Go.WideShapes
set_option linter.unusedVariables false

theorem ownsRow_within {w w' : World} {B n lo hi : Nat} {v : Value} {e : TypeId} {xs : List Value} (h : w.ownsRow B e 1 v n xs) (hw : Within lo hi w w') (hB : hi ≤ B) : w'.ownsRow B e 1 v n xs :=
  ⟨h.1, h.2.imp id fun ⟨g, cap, cur, a, b, hg, r⟩ => ⟨g, cap, cur, a, b, (hw.block g (row_ltI hg) (.inr (by omega))).trans hg, r⟩⟩
theorem ownsRow_slice {w : World} {B n : Nat} {v : Value} {e : TypeId} {xs : List Value} (h : w.ownsRow B e 1 v n xs) : ∃ A c, v = .slice A n c := by
  rcases h.2 with ⟨rfl, h0⟩ | ⟨g, cap, cur, rfl, _⟩
  · exact ⟨none, 0, by rw [h0]⟩
  · exact ⟨_, cap, rfl⟩
theorem ownsRow_at {w : World} {B n k : Nat} {v : Value} {zs : List Int} (h : w.ownsRow B 3 1 v n (zs.map (Value.int .i64))) (hk : k < zs.length) : ∃ g cap, v = .slice (some ⟨g, 0, none⟩) n cap ∧ B ≤ g ∧ w.cell? ⟨g, k, none⟩ = some (.int .i64 zs[k]) := by
  have hn : n = zs.length := by have := h.1; simp at this; omega
  obtain ⟨g, c, hv, hb, ho⟩ := own_rowS (zs := zs) h hn (by omega)
  have := own_cell ho hk
  rw [show zs.getD k 0 = zs[k] by simp [List.getD, hk]] at this
  exact ⟨g, c, by rw [hv, hn], hb, this⟩
/-- The blocks of two rows are apart, and there. -/
structure Apart (w : World) (v v' : Value) : Prop where
  ne : v.ownBlock ≠ v'.ownBlock
  l : ∀ q, v.ownBlock = some q → q < w.heap.size
  r : ∀ q, v'.ownBlock = some q → q < w.heap.size
theorem Apart.size {w w' : World} {v v' : Value} (h : Apart w v v') (hs : w.heap.size ≤ w'.heap.size) : Apart w' v v' := ⟨h.ne, fun q e => Nat.lt_of_lt_of_le (h.l q e) hs, fun q e => Nat.lt_of_lt_of_le (h.r q e) hs⟩
theorem ownsRow_other {w w' : World} {B n : Nat} {v : Value} {e : TypeId} {xs : List Value} {q : Option Nat} (h : w.ownsRow B e 1 v n xs) (hg : w.grownBy w' q) (hne : v.ownBlock ≠ q) : w'.ownsRow B e 1 v n xs :=
  ⟨h.1, h.2.imp id fun ⟨g, cap, cur, a, b, hr, r⟩ => ⟨g, cap, cur, a, b, (hg.block g (row_ltI hr) (fun e => hne (by rw [a]; exact e))).trans hr, r⟩⟩

theorem ownsRow_cell {w : World} {B n g c k : Nat} {zs : List Int} (h : w.ownsRow B 3 1 (.slice (some ⟨g, 0, none⟩) n c) n (zs.map (Value.int .i64))) (hk : k < zs.length) : w.cell? ⟨g, k, none⟩ = some (.int .i64 zs[k]) := by
  obtain ⟨g', c', e, _, hc⟩ := ownsRow_at h hk
  injection e with e
  injection e with e
  injection e with e _
  subst e
  exact hc
theorem apart_next {w w' : World} {v v' : Value} {g n c H : Nat} (h : Apart w v v') (hb : v.ownBlock = some g ∨ g = H) (hH : w.heap.size = H) (hg : g < w'.heap.size) (hs : w.heap.size ≤ w'.heap.size) : Apart w' (.slice (some ⟨g, 0, none⟩) n c) v' :=
  ⟨fun e => by
    rcases hb with hb | hb
    · exact h.ne (hb.trans e)
    · have := h.r g e.symm
      omega, fun q e => by
    have e : g = q := by injection e
    omega, fun q e => Nat.lt_of_lt_of_le (h.r q e) hs⟩
theorem Apart.symm {w : World} {v v' : Value} (h : Apart w v v') : Apart w v' v := ⟨fun e => h.ne e.symm, h.r, h.l⟩
theorem fnd_done {rd top : Nat} (h : leftK rd top = []) (hr : rd ≤ 10) : fndT top rd = fndT top 10 := by
  apply List.ext_getElem
  · simp [fndT]
  · intro j h1 h2
    have hj : j < top := by simpa [fndT] using h1
    simp only [fndT, List.getElem_map, List.getElem_range]
    unfold foundAt
    by_cases h8 : rsum (rowK j) ≤ 8
    · have hn : needR (rowK j) < rd := by
        rcases Nat.lt_or_ge (needR (rowK j)) rd with h3 | h3
        · exact h3
        · have : (j : Int) ∈ leftK rd top := mem_left.2 ⟨hj, h8, h3⟩
          rw [h] at this; cases this
      rw [if_pos ⟨h8, hn⟩, if_pos ⟨h8, by omega⟩]
    · rw [if_neg (fun q => h8 q.1), if_neg (fun q => h8 q.1)]

set_option maxRecDepth 100000 in
set_option maxHeartbeats 16000000 in
theorem l4Needs_any (p : Nat) (w : World) (hp : 1 ≤ p ∧ p ≤ 3) :
    Calls Try.prog 35 #[.int .i64 (p : Int)] w fun e w' => ∃ g c, e = .returned (.slice (some ⟨g, 0, none⟩) (9 ^ p) c) ∧ w.heap.size ≤ g ∧ Own w' g (g + 1) (some ⟨g, 0, none⟩) (foundL p 10) ∧ Below w.heap.size w w' := by
  obtain ⟨i0, hi0, hz0, hz1, hz2⟩ := info_parts infoI3
  have hp9 := pow9 hp
  go_enter Try.func35, Try.ntmps35
  go_wp2_with fail
  go_loopw [3, 4] (fun s i wr => ∃ (k x : Nat), k ≤ p ∧ i = .int .i64 k ∧ s = .int .i64 (x : Int) ∧ Hid (x = 9 ^ k) ∧ x ≤ 729 ∧ wr = w) (fun _ i _ => p - (intOf i).toNat)
  case atStart => exact ⟨0, 1, Nat.zero_le _, rfl, rfl, rfl, by omega, by first | trivial | rfl⟩
  case round =>
    obtain ⟨k, x, hk, rfl, rfl, HX, hx, hwr⟩ := hrel
    have hwr := hwr.symm
    subst hwr
    by_cases hlt : k < p
    · have HX2 : Hid (x * 9 = 9 ^ (k + 1)) := Lib.hid (by rw [HX.out, Nat.pow_succ])
      have hx2 : x * 9 ≤ 729 := by
        rw [HX2.out]
        exact Nat.le_trans (Nat.pow_le_pow_right (by omega) (show k + 1 ≤ 3 by omega)) (by decide)
      go_wp2
      go_roundw
      case rel => exact ⟨k + 1, x * 9, by omega, by go_num, by simp, HX2, hx2, by first | trivial | rfl⟩
      case measure => simp [intOf]; omega
    · obtain rfl : k = p := by omega
      have hkp := hp
      have hx9 : 9 ≤ x ∧ x ≤ 729 := by rw [← HX.out] at hp9; exact hp9
      have HFR : Hid (∀ rd, fndT x rd = foundL k rd) := Lib.hid (fun rd => by rw [HX.out]; rfl)
      have hmk := fun W => makeInts x (by omega) W
      simp only [List.toArray_replicate] at hmk
      have HO0 : Hid (Own (w.alloc (.cells (Array.replicate x (Value.int .i64 0)) 3)) w.heap.size (w.heap.size + 1) (some ⟨w.heap.size, 0, none⟩) (n1To x 0)) := Lib.hid (by
        rw [n1To_zero]
        have := Own.new w (List.replicate x 0) w.heap.size (w.heap.size + 1) (Nat.le_refl _) (Nat.lt_succ_self _)
        simpa using this)
      have B1 := (Below.refl w.heap.size w).alloc (Nat.le_refl _) (.cells (Array.replicate x (Value.int .i64 0)) 3)
      have HB0 := Lib.hid (B1.alloc B1.size (.cells #[] 3))
      have HO1 := Lib.hid (own_same HO0.out (((Below.refl _ (w.alloc (.cells (Array.replicate x (Value.int .i64 0)) 3))).alloc (Nat.le_refl _) (.cells #[] 3)).block _ (own_lt HO0.out)))
      have HL0 : Hid (((w.alloc (.cells (Array.replicate x (Value.int .i64 0)) 3)).alloc (.cells #[] 3)).ownsRow (w.heap.size + 1) 3 1 (.slice (some ⟨w.heap.size + 1, 0, none⟩) 0 0) (leftK 1 0).length ((leftK 1 0).map (Value.int .i64))) := Lib.hid (by
        have := O0_any (w.alloc (.cells (Array.replicate x (Value.int .i64 0)) 3)) (w.heap.size + 1) (by simp)
        simpa [leftK] using this)
      clear B1 HO0 hp9
      go_wp2_with fail
      clear hmk
      generalize (w.alloc (.cells (Array.replicate x (Value.int .i64 0)) 3)).alloc (.cells #[] 3) = wb at HB0 HO1 HL0 ⊢
      generalize (Value.slice (some ⟨w.heap.size + 1, 0, none⟩) 0 0) = v0 at HL0 ⊢
      go_loopw [6, 7] (fun v i wr => ∃ (t : Nat), t ≤ x ∧ i = .int .i64 t ∧ Hid (Own wr w.heap.size (w.heap.size + 1) (some ⟨w.heap.size, 0, none⟩) (n1To x t)) ∧ Hid (wr.ownsRow (w.heap.size + 1) 3 1 v (leftK 1 t).length ((leftK 1 t).map (Value.int .i64))) ∧ Hid (Below w.heap.size w wr)) (fun _ i _ => x - (intOf i).toNat)
      case atStart => exact ⟨0, Nat.zero_le _, rfl, HO1, HL0, HB0⟩
      case round =>
        clear HO1 HL0 HB0
        obtain ⟨t, ht, rfl, HO, HLf, HB⟩ := hrel
        rename World => w1
        by_cases htl : t < x
        · have hll := left_len 1 t
          have hc0 := own_cell HO.out (k := t) (by rw [n1To_len]; exact htl)
          have hf0 := own_free HO.out t
          have HOa := Lib.hid (own_set HO.out (k := t) (by rw [n1To_len]; exact htl) (-1))
          have HWa := Lib.hid (within_set (Within.refl w.heap.size (w.heap.size + 1) w1) (Nat.le_refl _) (Nat.lt_succ_self _) t (.int .i64 (-1)))
          have HLa := Lib.hid (ownsRow_within HLf.out HWa.out (Nat.le_refl _))
          have HBa := Lib.hid (HB.out.trans (HWa.out.below (Nat.le_refl _) HB.out.size))
          have HC := Lib.hid (fun W => l4Counted_any k t W hkp (by omega))
          have HTd := Lib.hid (fun B cB lo hi W h => l4Told_any B cB lo hi k (rowK t) W h (key_wide hkp (by rw [← HX.out]; exact htl)) (comp_key (by omega)))
          have HCn := Lib.hid (fun B cB lo hi W h => l4Counts_any B cB lo hi (lstR k (rowK t)) W h (by have := lst_short k (rowK t); omega))
          have HLN := Lib.hid (lst_len hkp (rowK t))
          have HCK := Lib.hid (cOK_iff_row (r := rowK t) (key_wide hkp (by rw [← HX.out]; exact htl)))
          rw [HLN.out] at HCn
          have HSt := Lib.hid (n1To_set x t)
          have HF1 := Lib.hid (found_one t)
          generalize (n1To x t).getD t 0 = z0 at hc0
          clear HO HLf HB
          go_wp2_with fail
          generalize w1.setCell ⟨w.heap.size, t, none⟩ (.int .i64 (-1)) = w2 at HOa HWa HLa HBa ⊢
          refine (HC.out w2).mono ?_
          rintro e w3 ⟨g3, rfl, hg3, ho3, hb3⟩
          have HO3 := Lib.hid (Ins.mk ho3.ints (own_lt ho3))
          have hlt2 := own_lt HOa.out
          have HOb := Lib.hid (own_same HOa.out (hb3.block _ hlt2))
          have HLb := Lib.hid (ownsRow_past HLa.out (Past.of_below hb3))
          have HBb := Lib.hid (below_trans HBa.out hb3)
          clear ho3 hb3 HC HOa HLa HWa HBa hc0 hf0
          go_wp2_with fail
          refine (HTd.out (some ⟨g3, 0, none⟩) k g3 (g3 + 1) w3 HO3.out).mono ?_
          rintro e w4 ⟨rfl, rfl⟩
          by_cases hT : rsum (rowK t) ≤ 1
          · have HLt := Lib.hid (left_told hT)
            rw [decide_eq_true hT]
            have hc1 := own_cell HOb.out (k := t) (by rw [List.length_set, n1To_len]; exact htl)
            have hf1 := own_free HOb.out t
            have HOc := Lib.hid (own_set HOb.out (k := t) (by rw [List.length_set, n1To_len]; exact htl) 0)
            rw [List.set_set, show (0 : Int) = foundAt 1 t from by rw [HF1.out, if_pos hT], HSt.out] at HOc
            have HWc := Lib.hid (within_set (Within.refl w.heap.size (w.heap.size + 1) w4) (Nat.le_refl _) (Nat.lt_succ_self _) t (.int .i64 0))
            have HLc := Lib.hid (ownsRow_within HLb.out HWc.out (Nat.le_refl _))
            have HBc := Lib.hid (HBb.out.trans (HWc.out.below (Nat.le_refl _) HBb.out.size))
            generalize ((n1To x t).set t (-1)).getD t 0 = z1 at hc1
            have hz : foundAt 1 t = 0 := by rw [HF1.out, if_pos hT]
            rw [hz] at HOc
            clear hz
            go_wp2
            go_roundw
            case rel => exact ⟨t + 1, by omega, by go_num, HOc, by rw [HLt.out]; exact HLc, HBc⟩
            case measure => simp [intOf]; omega
          · rw [decide_eq_false hT]
            have HOd : Hid (Own w4 w.heap.size (w.heap.size + 1) (some ⟨w.heap.size, 0, none⟩) (n1To x (t + 1))) := Lib.hid (by
              have h := HOb.out
              rw [show (-1 : Int) = foundAt 1 t from by rw [HF1.out, if_neg hT], HSt.out] at h
              exact h)
            go_wp2_with fail
            refine (HCn.out (some ⟨g3, 0, none⟩) k g3 (g3 + 1) w4 HO3.out).mono ?_
            rintro e w5 ⟨rfl, rfl⟩
            rw [HCK.out]
            by_cases h8 : rsum (rowK t) ≤ 8
            · have HLy := Lib.hid (left_yes hT h8)
              rw [decide_eq_true h8]
              have hszb := HBb.out.size
              have hsz5 : w.heap.size + 1 ≤ w5.heap.size := own_lt HOd.out
              have hgl : (leftK 1 t).length ≤ 729 := by omega
              generalize leftK 1 t = F at HLb HLy hgl
              go_wp2_with (at_builtin; refine wpList_append_lies _ rfl (.tmp 42) (.tmp 44) 24 rfl (w.heap.size + 1) 3 i0 (.int .i64 0) 1 8 Try.underlying24 hi0 hz0 hz1 hz2 rfl (by decide) u6 F.length (F.map (Value.int .i64)) rfl (HLb.out.alloc _) ⟨w5.heap.size, 0, none⟩ 1 1 [.int .i64 (t : Int)] rfl rfl (cell_one_new _ _ _) (by simp [Value.oneCell']) (by decide) (by unfold maxLen; omega) (by omega) (by simp; omega) _ rfl ?_; intro ga ca wa hown ha hblk hlta; have HLz : Hid (wa.ownsRow (w.heap.size + 1) 3 1 (.slice (some ⟨ga, 0, none⟩) (F.length + 1) ca) (F ++ [(t : Int)]).length ((F ++ [(t : Int)]).map (Value.int .i64))) := Lib.hid (by simpa using hown); have HPz := Lib.hid (Past.grown HLb.out ha); clear hown ha hblk hlta)
              have HOz := Lib.hid (own_same HOd.out (HPz.out.block _ (own_lt HOd.out) (Nat.lt_succ_self _)))
              have HBz := Lib.hid (HBb.out.trans (HPz.out.below (Nat.le_succ _) hszb))
              go_wp2
              go_roundw
              case rel => exact ⟨t + 1, by omega, by go_num, HOz, by rw [HLy.out]; exact HLz, HBz⟩
              case measure => simp [intOf]; omega
            · have HLn := Lib.hid (left_no h8)
              rw [decide_eq_false h8]
              go_wp2
              go_roundw
              case rel => exact ⟨t + 1, by omega, by go_num, HOd, by rw [HLn.out]; exact HLb, HBb⟩
              case measure => simp [intOf]; omega
        · obtain rfl : t = x := by omega
          rw [n1To_all] at HO
          have hll1 := left_len 1 t
          go_wp2_with fail
          go_loopw [6, 9] (fun v i wr => ∃ (rd : Nat), 1 ≤ rd ∧ rd ≤ 10 ∧ i = .int .i64 rd ∧ Hid (Own wr w.heap.size (w.heap.size + 1) (some ⟨w.heap.size, 0, none⟩) (fndT t rd)) ∧ Hid (wr.ownsRow (w.heap.size + 1) 3 1 v (leftK rd t).length ((leftK rd t).map (Value.int .i64))) ∧ Hid (Below w.heap.size w wr)) (fun _ i _ => 10 - (intOf i).toNat)
          case atStart => exact ⟨1, Nat.le_refl _, by omega, rfl, HO, HLf, HB⟩
          case round =>
            clear HO HLf HB
            obtain ⟨rd, hrd, hrd10, rfl, HO, HLf, HB⟩ := hrel
            rename World => w2
            have hll := left_len rd t
            have hg2 := own_lt HO.out
            by_cases h0 : 0 < (leftK rd t).length
            · have hrd9 : rd ≤ 9 := by
                rcases Nat.lt_or_ge rd 10 with h | h
                · omega
                · rw [left_none h] at h0; simp at h0
              obtain ⟨gl, cl, rfl, hgl, _⟩ := ownsRow_at HLf.out h0
              have HMa := Lib.hid (mTo_all rd t)
              have HFy := Lib.hid (fun i hi h => @fTo_yes rd t i hi h)
              have HFn := Lib.hid (fun i hi h => @fTo_no rd t i hi h)
              have HFl := Lib.hid (fun i => fTo_len rd t i)
              have HLm := Lib.hid (fun i (h : i < (leftK rd t).length) => left_mem (List.getElem_mem h))
              have HSs := Lib.hid (fun i κ hi hk => @sTo_set rd t i κ hi hk)
              have HS0 := Lib.hid (sTo_zero rd t)
              have HSa := Lib.hid (@sTo_all rd t)
              have HSl := Lib.hid (fun i => sTo_len rd t i)
              have HSm := Lib.hid (fun x h => @f_mem rd t x h)
              have B1 := (Below.refl _ w2).alloc (Nat.le_refl _) (.cells #[] 3)
              have HE1 : Hid (((w2.alloc (.cells #[] 3)).alloc (.cells #[] 3)).ownsRow w2.heap.size 3 1 (.slice (some ⟨w2.heap.size, 0, none⟩) 0 0) (fTo rd t 0).length ((fTo rd t 0).map (Value.int .i64))) := Lib.hid (by
                have h := (O0_any w2 w2.heap.size (Nat.le_refl _)).alloc (.cells #[] 3)
                simpa [fTo] using h)
              have HE2 : Hid (((w2.alloc (.cells #[] 3)).alloc (.cells #[] 3)).ownsRow w2.heap.size 3 1 (.slice (some ⟨w2.heap.size + 1, 0, none⟩) 0 0) (mTo rd t 0).length ((mTo rd t 0).map (Value.int .i64))) := Lib.hid (by
                have h := O0_any (w2.alloc (.cells #[] 3)) w2.heap.size (by simp)
                simpa [mTo] using h)
              have HE3 : Hid (Apart ((w2.alloc (.cells #[] 3)).alloc (.cells #[] 3)) (.slice (some ⟨w2.heap.size, 0, none⟩) 0 0) (.slice (some ⟨w2.heap.size + 1, 0, none⟩) 0 0)) := Lib.hid ⟨fun e => by (have e : w2.heap.size = w2.heap.size + 1 := (by injection e)); omega, fun q e => by (have e : w2.heap.size = q := (by injection e)); simp; omega, fun q e => by (have e : w2.heap.size + 1 = q := (by injection e)); simp; omega⟩
              have HE4 := Lib.hid (past_alloc (past_alloc (Past.refl w2.heap.size w2) (.cells #[] 3)) (.cells #[] 3))
              clear B1
              go_wp2_with fail
              generalize (w2.alloc (.cells #[] 3)).alloc (.cells #[] 3) = wc at HE1 HE2 HE3 HE4 ⊢
              generalize (Value.slice (some ⟨w2.heap.size, 0, none⟩) 0 0) = vf0 at HE1 HE3 ⊢
              generalize (Value.slice (some ⟨w2.heap.size + 1, 0, none⟩) 0 0) = vm0 at HE2 HE3 ⊢
              go_loopw [10, 11, 12] (fun vf vm i wr => ∃ (q : Nat), q ≤ (leftK rd t).length ∧ i = .int .i64 q ∧ Hid (wr.ownsRow w2.heap.size 3 1 vf (fTo rd t q).length ((fTo rd t q).map (Value.int .i64))) ∧ Hid (wr.ownsRow w2.heap.size 3 1 vm (mTo rd t q).length ((mTo rd t q).map (Value.int .i64))) ∧ Hid (Apart wr vf vm) ∧ Hid (Past w2.heap.size w2 wr)) (fun _ _ i _ => (leftK rd t).length - (intOf i).toNat)
              case atStart => exact ⟨0, Nat.zero_le _, rfl, HE1, HE2, HE3, HE4⟩
              case round =>
                clear HE1 HE2 HE3 HE4
                obtain ⟨q, hq, rfl, HFr, HMr, HAp, HPq⟩ := hrel
                rename World => w3
                have hsz3 := HPq.out.size
                by_cases hql : q < (leftK rd t).length
                · obtain ⟨κ, hκ, hκt, hκ8, hκr⟩ := HLm.out q hql
                  have hlen := HFl.out q
                  have hc3 := ownsRow_cell (ownsRow_past HLf.out HPq.out) hql
                  rw [hκ] at hc3
                  have HO3 := Lib.hid (own_same HO.out (HPq.out.block _ hg2 hg2))
                  have HC := Lib.hid (fun W => l4Counted_any k κ W hkp (by omega))
                  have hnt : 1 < rsum (rowK κ) := by
                    rcases Nat.lt_or_ge 1 (rsum (rowK κ)) with h | h
                    · exact h
                    · rw [need_told h] at hκr; omega
                  have HWt : Hid (∀ (B : Option Addr) (cB lo hi : Nat) (W : World), Ins W lo hi B (lstR k (rowK κ)) → ∀ (c2 : Nat), Ins W w.heap.size (w.heap.size + 1) (some ⟨w.heap.size, 0, none⟩) (fndT t rd) → Calls Try.prog 65 #[.slice B k cB, .slice (some ⟨w.heap.size, 0, none⟩) t c2] W fun e w' => e = .returned (.bool (isF rd (κ : Int))) ∧ Below W.heap.size W w') := Lib.hid (fun B cB lo hi W h c2 h2 => by
                    have h3 := l4Within_any B cB lo hi (some ⟨w.heap.size, 0, none⟩) c2 w.heap.size (w.heap.size + 1) k rd (rowK κ) W h (by rw [← HFR.out]; exact h2) (key_wide hkp (by rw [← HX.out]; exact hκt)) hκ8 hnt hrd
                    rw [← HX.out] at h3
                    exact h3)
                  have HYq : Hid (isF rd (κ : Int) = true → fTo rd t (q + 1) = fTo rd t q ++ [(κ : Int)] ∧ mTo rd t (q + 1) = mTo rd t q) := Lib.hid (fun h => by have h2 := HFy.out q hql (by rw [hκ]; exact h); rw [hκ] at h2; exact h2)
                  have HNq : Hid (isF rd (κ : Int) = false → fTo rd t (q + 1) = fTo rd t q ∧ mTo rd t (q + 1) = mTo rd t q ++ [(κ : Int)]) := Lib.hid (fun h => by have h2 := HFn.out q hql (by rw [hκ]; exact h); rw [hκ] at h2; exact h2)
                  have HLl := Lib.hid (fun W (h : Past w2.heap.size w2 W) => by have h2 := ownsRow_cell (ownsRow_past HLf.out h) hql; rw [hκ] at h2; exact h2)
                  generalize fTo rd t q = F at HFr hlen HYq HNq
                  generalize mTo rd t q = G at HMr hlen HYq HNq
                  clear HFy HFn HFl HLm hκ
                  go_wp2_with fail
                  refine (HC.out w3).mono ?_
                  rintro e w4 ⟨g4, rfl, hg4, ho4, hb4⟩
                  have HO4 := Lib.hid (Ins.mk ho4.ints (own_lt ho4))
                  have HN4 := Lib.hid (own_same HO3.out (hb4.block _ (own_lt HO3.out)))
                  have HP4 := Lib.hid (Past.of_below hb4 : Past w3.heap.size w3 w4)
                  have hs34 := hb4.size
                  clear ho4 hb4 HC HO3
                  go_wp2_with fail
                  refine (HWt.out (some ⟨g4, 0, none⟩) k g4 (g4 + 1) w4 HO4.out _ (Ins.mk HN4.out.ints (own_lt HN4.out))).mono ?_
                  rintro e w5 ⟨rfl, hb5⟩
                  have HP45 := Lib.hid (HP4.out.trans (past_base (Past.of_below hb5 : Past w4.heap.size w4 w5) hs34))
                  replace HFr := Lib.hid (ownsRow_past HFr.out HP45.out)
                  replace HMr := Lib.hid (ownsRow_past HMr.out HP45.out)
                  replace HAp := Lib.hid (HAp.out.size HP45.out.size)
                  replace HPq := Lib.hid (HPq.out.trans (past_base HP45.out hsz3))
                  have hsz5 := HPq.out.size
                  have hc5 := HLl.out w5 HPq.out
                  clear hb5 HWt HP4 HP45 hc3 HN4 HO4
                  cases hF : isF rd (κ : Int) with
                  | true =>
                    have HE := Lib.hid (HYq.out hF)
                    clear HYq HNq hF
                    go_wp2_with (at_builtin; refine wpList_append_lies _ rfl (.tmp 67) (.tmp 72) 24 rfl w2.heap.size 3 i0 (.int .i64 0) 1 8 Try.underlying24 hi0 hz0 hz1 hz2 rfl (by decide) u10 F.length (F.map (Value.int .i64)) rfl (HFr.out.alloc _) ⟨w5.heap.size, 0, none⟩ 1 1 [.int .i64 (κ : Int)] rfl rfl (cell_one_new _ _ _) (by simp [Value.oneCell']) (by decide) (by unfold maxLen; omega) (by omega) (by simp; omega) _ rfl ?_; intro ga ca wa hown ha hblk hlta; have HX5 := Lib.hid (show wa.ownsRow w2.heap.size 3 1 (.slice (some ⟨ga, 0, none⟩) (F.length + 1) ca) (F ++ [(κ : Int)]).length ((F ++ [(κ : Int)]).map (Value.int .i64)) from (by simpa using hown)); have HM5 := Lib.hid (ownsRow_other (HMr.out.alloc (.cells #[.int .i64 (κ : Int)] 3)) ha (fun e => HAp.out.ne e.symm)); have HA5 := Lib.hid (apart_next (n := F.length + 1) (c := ca) (HAp.out.size (Nat.le_of_lt (by simp) : w5.heap.size ≤ (w5.alloc (.cells #[.int .i64 (κ : Int)] 3)).heap.size)) hblk rfl hlta ha.size); have HP5 := Lib.hid (HPq.out.trans ((past_base (past_alloc (Past.refl w5.heap.size w5) (.cells #[.int .i64 (κ : Int)] 3)) hsz5).trans (Past.of_within (within_grown (HFr.out.alloc (.cells #[.int .i64 (κ : Int)] 3)) ha) (Nat.le_refl _)))); clear hown ha hblk hlta)
                    go_wp2
                    go_roundw
                    case rel => exact ⟨q + 1, by omega, by go_num, by rw [HE.out.1]; exact HX5, by rw [HE.out.2]; exact HM5, HA5, HP5⟩
                    case measure => simp [intOf]; omega
                  | false =>
                    have HE := Lib.hid (HNq.out hF)
                    clear HYq HNq hF
                    go_wp2_with (at_builtin; refine wpList_append_lies _ rfl (.tmp 74) (.tmp 79) 24 rfl w2.heap.size 3 i0 (.int .i64 0) 1 8 Try.underlying24 hi0 hz0 hz1 hz2 rfl (by decide) u11 G.length (G.map (Value.int .i64)) rfl (HMr.out.alloc _) ⟨w5.heap.size, 0, none⟩ 1 1 [.int .i64 (κ : Int)] rfl rfl (cell_one_new _ _ _) (by simp [Value.oneCell']) (by decide) (by unfold maxLen; omega) (by omega) (by simp; omega) _ rfl ?_; intro ga ca wa hown ha hblk hlta; have HX5 := Lib.hid (show wa.ownsRow w2.heap.size 3 1 (.slice (some ⟨ga, 0, none⟩) (G.length + 1) ca) (G ++ [(κ : Int)]).length ((G ++ [(κ : Int)]).map (Value.int .i64)) from (by simpa using hown)); have HM5 := Lib.hid (ownsRow_other (HFr.out.alloc (.cells #[.int .i64 (κ : Int)] 3)) ha HAp.out.ne); have HA5 := Lib.hid (apart_next (n := G.length + 1) (c := ca) (HAp.out.symm.size (Nat.le_of_lt (by simp) : w5.heap.size ≤ (w5.alloc (.cells #[.int .i64 (κ : Int)] 3)).heap.size)) hblk rfl hlta ha.size).symm; have HP5 := Lib.hid (HPq.out.trans ((past_base (past_alloc (Past.refl w5.heap.size w5) (.cells #[.int .i64 (κ : Int)] 3)) hsz5).trans (Past.of_within (within_grown (HMr.out.alloc (.cells #[.int .i64 (κ : Int)] 3)) ha) (Nat.le_refl _)))); clear hown ha hblk hlta)
                    go_wp2
                    go_roundw
                    case rel => exact ⟨q + 1, by omega, by go_num, by rw [HE.out.1]; exact HM5, by rw [HE.out.2]; exact HX5, HA5, HP5⟩
                    case measure => simp [intOf]; omega
                · obtain rfl : q = (leftK rd t).length := by omega
                  rw [HMa.out] at HMr
                  have HO3 := Lib.hid (own_same HO.out (HPq.out.block _ hg2 hg2))
                  rw [← HS0.out] at HO3
                  have hfl := (HFl.out (leftK rd t).length).1
                  generalize hFF : fTo rd t (leftK rd t).length = F at HFr HSs HSa HSm hfl
                  clear hFF
                  obtain ⟨Af, cf, rfl⟩ := ownsRow_slice HFr.out
                  go_wp2_with fail
                  go_loopw [13] (fun i wr => ∃ (y : Nat), y ≤ F.length ∧ i = .int .i64 y ∧ Hid (Own wr w.heap.size (w.heap.size + 1) (some ⟨w.heap.size, 0, none⟩) (sTo rd t y)) ∧ Hid (Within w.heap.size (w.heap.size + 1) w3 wr)) (fun i _ => F.length - (intOf i).toNat)
                  case atStart => exact ⟨0, Nat.zero_le _, rfl, HO3, Lib.hid (Within.refl _ _ _)⟩
                  case round =>
                    clear HO3
                    obtain ⟨y, hy, rfl, HO4, HW4⟩ := hrel
                    rename World => w4
                    by_cases hyl : y < F.length
                    · obtain ⟨gf, cf2, hvf, hgf, hcf⟩ := ownsRow_at (ownsRow_within HFr.out HW4.out (by omega)) hyl
                      injection hvf with hAf _ hcf2
                      subst hAf hcf2
                      obtain ⟨κ, hκ, hκt, _, _⟩ := HSm.out F[y] (List.getElem_mem hyl)
                      rw [hκ] at hcf
                      have hc0 := own_cell HO4.out (k := κ) (by rw [HSl.out]; exact hκt)
                      have hf0 := own_free HO4.out κ
                      have HO5 := Lib.hid (own_set HO4.out (k := κ) (by rw [HSl.out]; exact hκt) ((rd : Nat) : Int))
                      rw [HSs.out y κ hyl hκ] at HO5
                      have HW5 := Lib.hid (HW4.out.trans (within_set (Within.refl w.heap.size (w.heap.size + 1) w4) (Nat.le_refl _) (Nat.lt_succ_self _) κ (.int .i64 (rd : Int))))
                      generalize (sTo rd t y).getD κ 0 = z0 at hc0
                      go_wp2
                      go_roundw
                      case rel => exact ⟨y + 1, by omega, by go_num, HO5, HW5⟩
                      case measure => simp [intOf]; omega
                    · obtain rfl : y = F.length := by omega
                      rw [HSa.out] at HO4
                      have HMz := Lib.hid (own_base (ownsRow_within HMr.out HW4.out (by omega)) (Nat.succ_le_of_lt hg2))
                      have HBz := Lib.hid ((below_trans HB.out (HPq.out.below (Nat.le_refl _) (Nat.le_refl _))).trans (HW4.out.below (Nat.le_refl _) (Nat.le_trans HB.out.size hsz3)))
                      go_wp2
                      go_roundw
                      case rel => exact ⟨rd + 1, by omega, by omega, by go_num, HO4, HMz, HBz⟩
                      case measure => simp [intOf]; omega
            · have hnil : leftK rd t = [] := List.eq_nil_of_length_eq_zero (by omega)
              have HE := Lib.hid (fnd_done hnil hrd10)
              obtain ⟨Ao, co, rfl⟩ := ownsRow_slice HLf.out
              rw [HE.out, HFR.out] at HO
              have hl0 : (leftK rd t).length = 0 := by omega
              go_wp2
              go_ret
              exact ⟨_, t, by rw [← HX.out]; rfl, Nat.le_refl _, HO.out, HB.out⟩
end Go.Proofs.Ythpnkeecpaflfaa
