/- A State that is drawn. -/
import Derived.Test.YtdkffkgoalgjmacAmong
import Derived.Test.YtdkffkgoalgjmacPSs
import Derived.Deep.AppendLies
import Derived.Deep.RegionLaw
namespace Go.Proofs.Ytdkffkgoalgjmac
open Go.RowKit Go.ChangeShapes Go.WideShapes
set_option linter.unusedVariables false

theorem far_same {w w' : World} {b i : Nat} (hg : w.grownBy w' (some b)) (hi : i < w.heap.size) (hne : i ≠ b) : w'.heap[i]? = w.heap[i]? := hg.block i hi (fun e => hne (by injection e))
theorem TwoS.far {w w' : World} {b i : Nat} {x y : Value} (h : TwoS w i x y) (hg : w.grownBy w' (some b)) (hne : i ≠ b) : TwoS w' i x y := ⟨(far_same hg h.lt hne).trans h.row⟩
theorem Own.far {w w' : World} {b lo hi : Nat} {A : Option Addr} {zs : List Int} (h : Own w lo hi A zs) (hg : w.grownBy w' (some b)) (hb : b < lo) : Own w' lo hi A zs := by
  rcases h with h | ⟨g, cur, rfl, h1, h2, hr, h3, h4⟩
  · exact .inl h
  · exact .inr ⟨g, cur, rfl, h1, h2, (far_same hg (row_ltI hr) (by omega)).trans hr, h3, h4⟩
/-- A place of a row of one's own. -/
theorem own_place {w : World} {lo hi k : Nat} {A : Option Addr} {l : List Int} (h : Own w lo hi A l) (hk : k < l.length) :
    ∃ g cur, A = some ⟨g, 0, none⟩ ∧ lo ≤ g ∧ w.heap[g]? = some (.cells cur 3 (0, 0)) ∧ w.cell? ⟨g, k, none⟩ = some (.int .i64 (l.getD k 0)) ∧ ∀ v : Int, Own (w.setCell ⟨g, k, none⟩ (.int .i64 v)) lo hi (some ⟨g, 0, none⟩) (l.set k v) := by
  rcases h with ⟨_, rfl⟩ | ⟨g, cur, rfl, h1, h2, hr, h3, h4⟩
  · simp at hk
  · refine ⟨g, cur, rfl, h1, hr, ?_, fun v => .inr ⟨g, _, rfl, h1, h2, row_setI hr k _, by simpa using h3, fun j x hx => ?_⟩⟩
    · rw [row_cellI hr, h4 k l[k] (List.getElem?_eq_getElem hk)]
      simp [List.getD, hk]
    · rw [List.getElem?_set] at hx
      by_cases hj : k = j
      · subst hj
        rw [if_pos rfl, if_pos hk] at hx
        injection hx with hx
        subst hx
        have : k < cur.size := by omega
        simp [this]
      · rw [if_neg hj] at hx
        rw [Array.getElem?_setIfInBounds_ne hj]
        exact h4 j x hx
theorem row_ne_box {w : World} {g b : Nat} {cur : Array Value} {x y : Value} (h : w.heap[g]? = some (.cells cur 3 (0, 0))) (hT : TwoS w b x y) : g ≠ b := by
  rintro rfl
  rw [hT.row] at h
  injection h with h
  injection h with _ ht
  exact absurd ht (by decide)
theorem Cur.farset {w : World} {b n c k g i : Nat} {A : Option Addr} (h : Cur w b A n c k) (hg : b < g) (u : Value) : Cur (w.setCell ⟨g, i, none⟩ u) b A n c k := h.grown (grown_set u) (fun g' e => by injection e; omega)
theorem grown_set_far {a w : World} {b g i : Nat} (h : a.grownBy w (some b)) (hg : a.heap.size ≤ g) (u : Value) : a.grownBy (w.setCell ⟨g, i, none⟩ u) (some b) :=
  ⟨h.os, h.tape, h.output, by simpa [World.setCell] using h.size, fun j hj hne => (Below.heap_setCell w ⟨g, i, none⟩ u j (fun e => by have e' : j = g := e; omega)).trans (h.block j hj hne)⟩
theorem grown_own {a w w1 : World} {b B n : Nat} {v : Value} {xs : List Value} {e : TypeId} (h : a.grownBy w (some b)) (ho : w.ownsRow B e 1 v n xs) (hB : a.heap.size ≤ B) (hg : w.grownBy w1 v.ownBlock) : a.grownBy w1 (some b) :=
  ⟨hg.os.trans h.os, hg.tape.trans h.tape, hg.output.trans h.output, Nat.le_trans h.size hg.size, fun j hj hne => (hg.block j (Nat.lt_of_lt_of_le hj h.size) (fun e' => by have := ho.lt j e'.symm; omega)).trans (h.block j hj hne)⟩
theorem cur_own {w w1 : World} {b B n c k N : Nat} {A : Option Addr} {v : Value} {xs : List Value} {e : TypeId} (h : Cur w b A n c k) (ho : w.ownsRow B e 1 v N xs) (hB : b < B) (hg : w.grownBy w1 v.ownBlock) : Cur w1 b A n c k :=
  h.grown hg (fun g e' => by have := ho.lt g e'; omega)
theorem owns_far {w w' : World} {b B n : Nat} {v : Value} {xs : List Value} {e : TypeId} (h : w.ownsRow B e 1 v n xs) (hg : w.grownBy w' (some b)) (hb : b < B) : w'.ownsRow B e 1 v n xs :=
  h.kept hg (by
    cases hv : v.ownBlock with
    | none => exact .inl rfl
    | some g => exact .inr (fun e' => by injection e' with e'; have := h.lt g hv; omega))
theorem snoc_ex {w : World} {B g cap : Nat} {f : List Int} {x : Int} (h : w.ownsRow B 3 1 (.slice (some ⟨g, 0, none⟩) (f.length + 1) cap) (f.length + 1) (f.map (Value.int .i64) ++ [Value.int .i64 x])) :
    ∃ f2 : List Int, f2.length = f.length + 1 ∧ w.ownsRow B 3 1 (.slice (some ⟨g, 0, none⟩) f2.length cap) f2.length (f2.map (Value.int .i64)) :=
  ⟨f ++ [x], by simp, by simpa using h⟩
/-- What is drawn: a State, in memory of its own; the cursor goes on. -/
def StDrew (w : World) (b : Nat) (A : Option Addr) (n c k : Nat) (e : Ending) (w' : World) : Prop :=
  ∃ (zs : List Int) (B : Option Addr) (c' : Nat) (m : Int), e = .returned (.agg #[.slice B zs.length c', .int .i64 m]) ∧ zs.length ≤ 13 ∧ zs.length ≤ c' ∧ Res w' w.heap.size w'.heap.size B zs ∧ ∃ k2 : Nat, k2 ≤ k + 120 ∧ Cur w' b A n c k2 ∧ w.grownBy w' (some b)

set_option maxRecDepth 100000 in
set_option maxHeartbeats 8000000 in
theorem state_any (b : Nat) (A : Option Addr) (n c k : Nat) (w : World) (h : Cur w b A n c k) (hk : k ≤ 999000) (hn : n ≤ 65536) :
    Calls Try.prog 132 #[.pointer (some ⟨b, 0, none⟩)] w (StDrew w b A n c k) := by
  have hbw := h.lt
  have HC := Lib.hid (h.alloc (.cells #[.slice none 0 0, .int .i64 0] 28))
  have HR := Lib.hid (TwoS.new w (.slice none 0 0) (.int .i64 0) w.heap.size rfl)
  have HG := Lib.hid (only_alloc (World.grownBy.refl w (some b)) (.cells #[.slice none 0 0, .int .i64 0] 28))
  obtain ⟨i0, hi0, hy0, hy1, hy2⟩ := info_parts infoI3
  clear h
  go_enter Try.func132, Try.ntmps132
  go_wp2_with fail
  generalize w.alloc (.cells #[.slice none 0 0, .int .i64 0] 28) = wa at HC HR HG ⊢
  refine (lies_any b A n c k wa HC.out (by omega) hn).mono ?_
  rintro e w1 ⟨m, rfl, hm, k1, hk1, hc1, hg1⟩
  have HC1 := Lib.hid hc1
  have HR1 := Lib.hid (HR.out.far hg1 (by omega))
  have HG1 := Lib.hid (HG.out.trans hg1)
  have hmb : -1 ≤ m ∧ m ≤ 3 := of_decide_eq_true hm
  clear hc1 hg1 hm HC HR HG
  go_wp2_with fail
  refine (many_any b A n c k1 w1 HC1.out (by omega) hn).mono ?_
  rintro e w2 ⟨N0, rfl, hN, k2, hk2, hc2, hg2⟩
  have HC2 := Lib.hid hc2
  have HR2 := Lib.hid (HR1.out.far hg2 (by omega))
  have HG2 := Lib.hid (HG1.out.trans hg2)
  have hNb : 0 ≤ N0 ∧ N0 ≤ 13 := of_decide_eq_true hN
  obtain ⟨N, rfl⟩ : ∃ N : Nat, N0 = (N : Int) := ⟨N0.toNat, by omega⟩
  clear hc2 hg2 hN HC1 HR1 HG1
  have hbx : w.heap.size < w2.heap.size := HR2.out.lt
  have HO0 := Lib.hid ((O0_any w2 w2.heap.size (Nat.le_refl _)).alloc (.cells #[.slice (some ⟨w2.heap.size, 0, none⟩) 0 0, .int .i64 m] 28))
  have HT0 := Lib.hid (TwoS.new (w2.alloc (.cells #[] 3)) (.slice (some ⟨w2.heap.size, 0, none⟩) 0 0) (.int .i64 m) (w2.heap.size + 1) (by simp))
  have HR0 := Lib.hid ((HR2.out.step ((Below.refl _ _).alloc (Nat.le_refl _) (.cells #[] 3))).step ((Below.refl _ _).alloc (Nat.le_refl _) (.cells #[.slice (some ⟨w2.heap.size, 0, none⟩) 0 0, .int .i64 m] 28)))
  have HC0 := Lib.hid ((HC2.out.alloc (.cells #[] 3)).alloc (.cells #[.slice (some ⟨w2.heap.size, 0, none⟩) 0 0, .int .i64 m] 28))
  have HG0 := Lib.hid (only_alloc (only_alloc HG2.out (.cells #[] 3)) (.cells #[.slice (some ⟨w2.heap.size, 0, none⟩) 0 0, .int .i64 m] 28))
  go_wp2_with fail
  generalize (w2.alloc (.cells #[] 3)).alloc (.cells #[.slice (some ⟨w2.heap.size, 0, none⟩) 0 0, .int .i64 m] 28) = wd at HO0 HT0 HR0 HC0 HG0 ⊢
  clear HR2 HC2 HG2
  generalize w2.heap.size = rb at HO0 HT0 hbx ⊢
  go_loopw [6] (fun i wr => ∃ (j : Nat) (A' : Option Addr) (c1 : Nat) (f : List Int) (kk : Nat), j ≤ N ∧ i = .int .i64 (j : Int) ∧ Hid (f.length = j) ∧ kk ≤ k + 4 + 4 * j ∧ Hid (TwoS wr (rb + 1) (.slice A' f.length c1) (.int .i64 m)) ∧ Hid (wr.ownsRow rb 3 1 (.slice A' f.length c1) f.length (f.map (Value.int .i64))) ∧ Hid (TwoS wr w.heap.size (.slice none 0 0) (.int .i64 0)) ∧ Hid (Cur wr b A n c kk) ∧ Hid (w.grownBy wr (some b))) (fun i _ => N - (intOf i).toNat)
  case atStart => exact ⟨0, some ⟨rb, 0, none⟩, 0, [], k2, Nat.zero_le _, rfl, rfl, by omega, HT0, HO0, HR0, HC0, HG0⟩
  case round =>
    clear HO0 HT0 HR0 HC0 HG0
    obtain ⟨j, A', c1, f, kk, hj, rfl, HF, hkk, HT, HO, HR, HC, HG⟩ := hrel
    have hfl : f.length ≤ 13 := by rw [HF.out]; omega
    have h0 := HT.out.c0
    by_cases hlt : j < N
    · have hltI : (j : Int) < (N : Int) := by omega
      obtain ⟨M, hM, hM1, hM2⟩ : ∃ M : Nat, (M : Int) = (if m + 2 ≤ 1 then 1 else m + 2) ∧ 1 ≤ M ∧ M ≤ 5 := ⟨(if m + 2 ≤ 1 then 1 else m + 2).toNat, by split <;> omega, by split <;> omega, by split <;> omega⟩
      have HMX : Hid (∀ (y : Int) (W : World), y = m + 2 → Calls Try.prog 123 #[.int .i64 1, .int .i64 y] W fun e w' => e = .returned (.int .i64 (M : Int)) ∧ w' = W) := fun y W hy => by
        subst hy
        have := l1Most_any 1 (m + 2) W
        rwa [← hM] at this
      clear hM
      have hkr : b < rb := by omega
      have hne1 : rb + 1 ≠ b := by omega
      have hne2 : w.heap.size ≠ b := by omega
      have hmaxl : f.length + 1 ≤ maxLen := by unfold maxLen; omega
      have hbyt : (f.length + 1) * 8 ≤ 140737488355328 := by omega
      go_wp2_with fail
      go_region_law (first
        | (go_simp; go_at_call 139; refine (pick_any b A n c kp 6 _ HC3.out (by omega) hn (by omega) (by omega)).mono ?_; rintro e w4 ⟨v2, kp2, hv2, rfl, hkp2, hc4, hg4⟩; have HC4 := Lib.hid hc4; have hrb4 := Lib.hid (Nat.le_of_succ_le (Nat.le_of_lt (HT3.out.far hg4 hne1).lt)); have HT4 := Lib.hid (HT3.out.far hg4 hne1); have HR4 := Lib.hid (HR3.out.far hg4 hne2); have HO4 := Lib.hid (owns_far HO3.out hg4 hkr); have HG4 := Lib.hid (HG3.out.trans hg4); have g4 := HT4.out.c0; have g4a := fun o => (HT4.out.step ((Below.refl _ w4).alloc (Nat.le_refl _) o)).c0; clear hc4 hg4)
        | (go_simp; go_at_call 139; refine (pick_any b A n c kk M wr.drew HC.out (by omega) hn hM1 (by omega)).mono ?_; rintro e w3 ⟨v1, kp, hv1, rfl, hkp, hc3, hg3⟩; have hg3' : wr.grownBy w3 (some b) := ⟨hg3.os, hg3.tape, hg3.output, hg3.size, hg3.block⟩; have HC3 := Lib.hid hc3; have HT3 := Lib.hid (HT.out.far hg3' hne1); have HR3 := Lib.hid (HR.out.far hg3' hne2); have HO3 := Lib.hid (owns_far HO.out hg3' hkr); have HG3 := Lib.hid (HG.out.trans hg3'); have g3 := HT3.out.c0; clear hc3 hg3 hg3')
        | (go_simp; go_at_call 123; refine (HMX.out _ _ (by first | rfl | omega | exact IntWalk.i64_in _ (by omega))).mono ?_; rintro e w9 ⟨rfl, rfl⟩)
        | (rw [if_pos (by simp [Region.wanted])]; generalize hX : (IntKind.i64.wrap ((v1 : Int) - IntKind.i64.wrap ((v2 : Int) / 5))) = X; refine wp_append_lies (w4.alloc (.cells #[.int .i64 X] 3)) (.tmp 21) (.tmp 31) 26 rfl rb 3 i0 (.int .i64 0) 1 8 Try.underlying26 hi0 hy0 hy1 hy2 rfl (by decide) (.slice A' f.length c1) f.length (f.map (Value.int .i64)) rfl (HO4.out.alloc _) ⟨w4.heap.size, 0, none⟩ 1 1 [.int .i64 X] rfl rfl (cell_one_new _ _ _) (fun u hu => by rw [List.mem_singleton.1 hu]; rfl) (by decide) hmaxl hbyt (Nat.le_trans hrb4.out (Nat.le_of_lt (by simp))) _ rfl ?_; clear hX; intro g cap w5 hown hgrow hat hlt5; have HT5 := Lib.hid ((HT4.out.step ((Below.refl _ _).alloc (Nat.le_refl _) _)).grown hgrow (ne_box HO4.out HT4.out)); have HR5 := Lib.hid ((HR4.out.step ((Below.refl _ _).alloc (Nat.le_refl _) _)).grown hgrow (ne_box HO4.out HR4.out)); have HC5 := Lib.hid (cur_own (HC4.out.alloc _) (HO4.out.alloc _) hkr hgrow); have HG5 := Lib.hid (grown_own (only_alloc HG4.out _) (HO4.out.alloc _) (Nat.le_of_lt hbx) hgrow); obtain ⟨f2, hf2, hO5⟩ := snoc_ex hown; have HO5 := Lib.hid hO5; have HF2 := Lib.hid hf2; have q0 := HT5.out.c0; have q2 := HT5.out.f0; clear hown hgrow hat hlt5 hf2 hO5))
      all_goals
        go_wp2
        go_roundw
        case rel => exact ⟨j + 1, some ⟨g, 0, none⟩, cap, f2, kp2, by omega, by go_num, Lib.hid (show f2.length = j + 1 by rw [HF2.out, HF.out]), by omega, by rw [HF2.out]; exact HT5.out.set0 _, HO5.out.kept (grown_set _) (.inr (ne_box HO5.out HT5.out)), HR5.out.grown (grown_set _) (by intro e; injection e with e; omega), HC5.out.farset (by omega) _, grown_set_far HG5.out (by omega) _⟩
        case measure => simp [intOf]; omega
    · obtain rfl : j = N := by omega
      obtain ⟨A2, c2, hAc, hlc, hres⟩ := own_res HO.out rfl
      have hA : A2 = A' ∧ c2 = c1 := by injection hAc with h1 h2 h3; exact ⟨h1.symm, h3.symm⟩
      obtain ⟨rfl, rfl⟩ := hA
      have HW := Lib.hid hres.own
      have HH : Hid (wr.heap.size ≤ wr.heap.size) := Nat.le_refl _
      rw [HF.out] at HT hlc
      have hkr : b < rb := by omega
      have hne1 : rb + 1 ≠ b := by omega
      have hne2 : w.heap.size ≠ b := by omega
      clear hres hAc HO h0 hfl hlt
      go_wp2_with fail
      generalize hHH : wr.heap.size = H at HW HH
      have HH2 : Hid (H ≤ wr.heap.size) := Nat.le_of_eq hHH.symm
      clear HH hHH
      go_loopw [7] (fun i wq => ∃ (j2 : Nat) (f' : List Int) (kk' : Nat), j2 ≤ j ∧ i = .int .i64 (j2 : Int) ∧ Hid (f'.length = j) ∧ kk' ≤ k + 60 + 2 * j2 ∧ Hid (TwoS wq (rb + 1) (.slice A2 j c2) (.int .i64 m)) ∧ Hid (Own wq rb H A2 f') ∧ Hid (TwoS wq w.heap.size (.slice none 0 0) (.int .i64 0)) ∧ Hid (Cur wq b A n c kk') ∧ Hid (w.grownBy wq (some b)) ∧ Hid (H ≤ wq.heap.size)) (fun i _ => j - (intOf i).toNat)
      case atStart => exact ⟨0, f, kk, Nat.zero_le _, rfl, HF, by omega, HT, HW, HR, HC, HG, HH2⟩
      case round =>
        clear HT HW HR HC HG HH2 HF
        obtain ⟨j2, f', kk', hj2, rfl, HF, hkk2, HT, HW, HR, HC, HG, HH⟩ := hrel
        have h0 := HT.out.c0
        have h1 := HT.out.c1
        by_cases hlt : j2 < j
        · have hltI : (j2 : Int) < (j : Int) := by omega
          obtain ⟨g, cur, hA, hglo, hrow, hcell, hset⟩ := own_place HW.out (k := j2) (by rw [HF.out]; exact hlt)
          subst hA
          generalize hz : f'.getD j2 0 = z at hcell
          have hgx := row_ne_box hrow HT.out
          have hgr := row_ne_box hrow HR.out
          by_cases hgt : m < z
          · have HON := Lib.hid (one_any b A n c kk' 30 wr HC.out (by omega) hn (by omega) (by omega))
            go_wp2_with fail
            refine (HON.out).mono ?_
            rintro e w3 ⟨x, rfl, k3, hk3, hc3, hg3⟩
            have HC3 := Lib.hid hc3
            have HT3 := Lib.hid (HT.out.far hg3 hne1)
            have HR3 := Lib.hid (HR.out.far hg3 hne2)
            have HW3 := Lib.hid (HW.out.far hg3 hkr)
            have HG3 := Lib.hid (HG.out.trans hg3)
            have HH3 := Lib.hid (Nat.le_trans HH.out hg3.size)
            clear hc3 hg3 h0 h1 hcell hset hrow hz HON HT HR HW HG HH HC
            have h0 := HT3.out.c0
            have h1 := HT3.out.c1
            cases x
            · obtain ⟨g2, cur2, hA2, hglo2, hrow2, hcell2, hset2⟩ := own_place HW3.out (k := j2) (by rw [HF.out]; exact hlt)
              obtain rfl : g = g2 := by injection hA2 with hA2; injection hA2
              have hfr := row_freeI hrow2 j2
              have HW4 := Lib.hid (hset2 (-1))
              have HT4 : Hid (TwoS (w3.setCell ⟨g, j2, none⟩ (.int .i64 (-1))) (rb + 1) (.slice (some ⟨g, 0, none⟩) j c2) (.int .i64 m)) := HT3.out.grown (grown_set _) (fun e => hgx (by injection e))
              have HR4 : Hid (TwoS (w3.setCell ⟨g, j2, none⟩ (.int .i64 (-1))) w.heap.size (.slice none 0 0) (.int .i64 0)) := HR3.out.grown (grown_set _) (fun e => hgr (by injection e))
              have HC4 := Lib.hid (HC3.out.farset (g := g) (i := j2) (by omega) (.int .i64 (-1)))
              have HG4 := Lib.hid (grown_set_far (g := g) (i := j2) HG3.out (by omega) (.int .i64 (-1)))
              have HH4 : Hid (H ≤ (w3.setCell ⟨g, j2, none⟩ (.int .i64 (-1))).heap.size) := Nat.le_trans HH3.out (by simp [World.setCell])
              have HF4 : Hid ((f'.set j2 (-1)).length = j) := by show _ = _; rw [List.length_set]; exact HF.out
              clear hset2 hrow2
              go_wp2
              go_roundw
              case rel => exact ⟨j2 + 1, _, k3, by omega, by go_num, HF4, by omega, HT4, HW4, HR4, HC4, HG4, HH4⟩
              case measure => simp [intOf]; omega
            · go_wp2
              go_roundw
              case rel => exact ⟨j2 + 1, _, k3, by omega, by go_num, HF, by omega, HT3, HW3, HR3, HC3, HG3, HH3⟩
              case measure => simp [intOf]; omega
          · have hgt2 : z ≤ m := by omega
            clear hset hrow hz
            go_wp2
            go_roundw
            case rel => exact ⟨j2 + 1, _, kk', by omega, by go_num, HF, by omega, HT, HW, HR, HC, HG, HH⟩
            case measure => simp [intOf]; omega
        · obtain rfl : j2 = j := by omega
          have q0 := HR.out.c0
          have q1 := HR.out.c1
          have q2 := HR.out.f0
          have q3 := HR.out.f1
          go_wp2
          have HCf := (HC.out.farset (g := w.heap.size) (i := 0) hbw (.slice A2 j2 c2)).farset (g := w.heap.size) (i := 1) hbw (.int .i64 m)
          have HGf := grown_set_far (g := w.heap.size) (i := 1) (grown_set_far (g := w.heap.size) (i := 0) HG.out (Nat.le_refl _) (.slice A2 j2 c2)) (Nat.le_refl _) (.int .i64 m)
          obtain ⟨hs2, hw⟩ := stored2 HR.out.row (.slice A2 j2 c2) (.int .i64 m)
          generalize ((wr.setCell ⟨w.heap.size, 0, none⟩ (.slice A2 j2 c2)).setCell ⟨w.heap.size, 1, none⟩ (.int .i64 m)) = wf at hs2 hw HCf HGf ⊢
          have e0 := two0 hs2
          have e1 := two1 hs2
          refine bodyPost_ret (v := .agg #[.slice A2 j2 c2, .int .i64 m]) (by simp [results, go_sem, e0, e1]) rfl ?_
          have hlen := HF.out
          exact ⟨f', A2, c2, m, by rw [hlen], by omega, by omega, res_wide ⟨HW.out.within hw (.inr hbx), Nat.le_trans HH.out hw.size⟩ (by omega) (Nat.le_trans HH.out hw.size), kk', by omega, HCf, HGf⟩
end Go.Proofs.Ytdkffkgoalgjmac
