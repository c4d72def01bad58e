/- Trees of questions: HalvingTree and RepeatTree, of the specification; both. -/
import Derived.Test.YtnomgnjfamideaaL9H
import Derived.Test.YtnomgnjfamideaaOpenN
namespace Go.Proofs.Ytnomgnjfamideaa
open Go.RowKit Go.ChangeShapes Go.WideShapes Go.Maps
set_option linter.unusedVariables false

theorem leaf_row9 {w : World} {lo : Nat} (h : lo ≤ w.heap.size) : NMade (w.alloc (.cells #[.int .i64 (-1), .int .i64 (-1), .int .i64 (-1)] 75)) lo (w.alloc (.cells #[.int .i64 (-1), .int .i64 (-1), .int .i64 (-1)] 75)).heap.size (some ⟨w.heap.size, 0, none⟩) [lf9] :=
  made_rowN (alloc_row w _ _) h
theorem qbit9 (lo k : Nat) (h : lo + k < 12) : bits .or .i64 ((2 : Int) ^ (lo + k) - 2 ^ lo) (2 ^ (lo + k)) = 2 ^ (lo + (k + 1)) - 2 ^ lo := or_step9 (lo + k) h lo (by omega)
theorem opens_zero9 (n : Nat) : opens (List.replicate n 0) = rng9 0 n := by
  unfold opens
  rw [List.length_replicate]
  have h : ∀ k, k ≤ n → filt (fun k => decide (0 ≤ (List.replicate n (0 : Int)).getD k (-1))) k = rng9 0 k := fun k => by
    induction k with
    | zero => intro _; rfl
    | succ k ih =>
      intro hk
      rw [filt_yes (p := fun k => decide (0 ≤ (List.replicate n (0 : Int)).getD k (-1))) (by simp [List.getD, show k < n by omega]), ih (by omega)]
      unfold rng9
      rw [List.range_succ, List.map_append]
      simp
  exact h n (Nat.le_refl _)
theorem fit_halv9 {f lo many : Nat} (h1 : 1 ≤ many) (h2 : many ≤ f) (h3 : many ≤ 12) : Fit9 (tell9 (halv9 f lo many) 0) ∧ 0 < (tell9 (halv9 f lo many) 0).length := by
  have h := halv9_size f lo many h1 h2
  have hp := (halv9 f lo many).size_pos
  exact ⟨fit9_tell (by omega), by rw [tell9_len]; omega⟩
set_option maxRecDepth 100000 in
set_option maxHeartbeats 16000000 in
theorem l9Halves_any : ∀ (f lo many : Nat) (A : Option Addr) (c l h : Nat) (w : World), 1 ≤ many → many ≤ f → lo + many ≤ 12 → Ins w l h A (rng9 lo many) → many ≤ c →
    Calls Try.prog 86 #[.slice A many c] w fun e w' => ∃ B d, e = .returned (.slice B (tell9 (halv9 f lo many) 0).length d) ∧ NMade w' w.heap.size w'.heap.size B (tell9 (halv9 f lo many) 0) ∧ Below w.heap.size w w'
  | 0, lo, many, A, c, l, h, w, h1, h2, h3, hI, hc => by omega
  | f + 1, lo, many, A, c, l, h, w, h1, h2, h3, hI, hc => by
    by_cases hm : many = 1
    · subst hm
      have HE := Lib.hid (halv9_one (f + 1) lo)
      have HL := Lib.hid (fun W => l9Leaf_any W)
      rw [HE.out]
      clear hI
      go_enter Try.func86, Try.ntmps86
      go_wp2_with fail
      with_reducible refine (HL.out _).mono ?_
      rintro e w1 ⟨rfl, hb⟩
      have HB := Lib.hid hb
      clear hb
      go_wp2
      go_ret
      exact ⟨some ⟨w1.heap.size, 0, none⟩, 1, rfl, leaf_row9 HB.out.size, HB.out.alloc HB.out.size _⟩
    · have HE := Lib.hid (halv9_br (f := f) (lo := lo) (show 2 ≤ many by omega))
      obtain ⟨hf, hhf⟩ : ∃ hf : Nat, hf = (many + 1) / 2 := ⟨_, rfl⟩
      rw [← hhf] at HE
      have hq : ((many : Int) + 1) / 2 = (hf : Int) := by omega
      have hf1 : 1 ≤ hf := by omega
      have hfm : hf ≤ many := by omega
      have hff : hf ≤ f := by omega
      have hm2 : ¬ (many : Int) = 1 := by omega
      have hmb : ((many : Int) == 1) = false := by simpa using hm2
      have hmany : many - hf = many / 2 := by omega
      have HI := Lib.hid hI
      have hd1 := hI.take9 hf
      have hd2 := hI.from9 hf c (by rw [rng9_len]; exact hc)
      rw [rng9_take hfm] at hd1
      rw [rng9_drop hfm, hmany] at hd2
      have HD1 := Lib.hid hd1
      have HD2 := Lib.hid hd2
      have htop := hI.top
      have IH1 := Lib.hid (fun l' h' W k => l9Halves_any f lo hf A c l' h' W hf1 hff (by omega) k (by omega))
      have IH2 := Lib.hid (fun l' h' W k => l9Halves_any f (lo + hf) (many - hf) (fromA9 A c hf) (c - hf) l' h' W (by omega) (by omega) (by omega) k (by omega))
      rw [hmany] at IH2
      have HJ := Lib.hid (fun A1 c1 l1 h1 A2 c2 l2 h2 W k1 k2 => l9Join_any ((2 : Int) ^ (lo + hf) - 2 ^ lo) A1 c1 l1 h1 (tell9 (halv9 f lo hf) 0) A2 c2 l2 h2 (tell9 (halv9 f (lo + hf) (many / 2)) 0) W k1 k2 (fit_halv9 hf1 hff (by omega)).1 (fit_halv9 (by omega) (by omega) (by omega)).1 (fit_halv9 hf1 hff (by omega)).2 (fit_halv9 (by omega) (by omega) (by omega)).2)
      rw [join9_tell] at HJ
      rw [HE.out]
      generalize tell9 (.br (2 ^ (lo + hf) - 2 ^ lo) (halv9 f lo hf) (halv9 f (lo + hf) (many / 2))) 0 = R at HJ ⊢
      generalize tell9 (halv9 f lo hf) 0 = R1 at IH1 HJ
      generalize tell9 (halv9 f (lo + hf) (many / 2)) 0 = R2 at IH2 HJ
      have hs1 := slice_to9 A many c hf (by omega)
      have hs2 := slice_from9 A many c hf hfm
      rw [hmany] at hs2
      have HS1 := Lib.hid hs1
      have HS2 := Lib.hid hs2
      have hlo12 : lo + hf ≤ 12 := by omega
      clear hI hd1 hd2 hs1 hs2 HE hmany hhf
      go_enter Try.func86, Try.ntmps86
      go_wp2_with fail
      go_loopw [4, 5] (fun qv i wr => ∃ (k : Nat), k ≤ hf ∧ i = .int .i64 (k : Int) ∧ qv = .int .i64 ((2 : Int) ^ (lo + k) - 2 ^ lo) ∧ Hid (wr = w)) (fun _ i _ => hf - (intOf i).toNat)
      case atStart => exact ⟨0, Nat.zero_le _, rfl, by rw [Nat.add_zero, Int.sub_self], Lib.hid rfl⟩
      case round =>
        obtain ⟨k, hk, rfl, rfl, HW⟩ := hrel
        rename World => wr
        have hww := HW.out
        subst hww
        by_cases hlt : k < hf
        · obtain ⟨b, o, rfl, _, _, hcell⟩ := HI.out.ints.at_ (k := k) (by rw [rng9_len]; omega)
          rw [rng9_at] at hcell
          have hki : (k : Int) < (hf : Int) := by omega
          have hkm : (k : Int) < (many : Int) := by omega
          have hp := pow_le (lo + k) (by omega)
          have HQ := Lib.hid (qbit9 lo k (by omega))
          obtain ⟨i, hi⟩ : ∃ i : Nat, i = lo + k := ⟨_, rfl⟩
          rw [← hi] at hcell hp HQ
          have hi12 : i ≤ 12 := by omega
          have hi2 := Lib.hid hi
          rw [← hi]
          generalize (2 : Int) ^ i - 2 ^ lo = acc at HQ ⊢
          clear hi
          go_wp2
          go_roundw
          case rel => exact ⟨k + 1, by omega, by go_num, by rw [HQ.out], (by first | exact Lib.hid rfl | exact Lib.hid trivial)⟩
          case measure => simp [intOf]; omega
        · obtain rfl : k = hf := by omega
          generalize (2 : Int) ^ (lo + k) - 2 ^ lo = Q at HJ ⊢
          have hs1 := HS1.out
          have hs2 := HS2.out
          go_wp2_with fail
          go_region_held3 (fun w' => w'.heap.size = w'.heap.size)
            (exact rfl)
            (first
             | (go_at_call 94; (with_reducible refine (HJ.out _ _ _ _ _ _ _ _ _ H1_2.out H2_2.out).mono ?_); rintro e v3 ⟨B3, d3, rfl, hm3, hb⟩; have HZ3 := Lib.hid (below_trans HZ2.out hb); have HM3 := Lib.hid hm3; clear hb hm3)
             | (go_at_call 86; (with_reducible refine (IH2.out _ _ _ (HD2.out.step HZ1.out)).mono ?_); rintro e v2 ⟨B2, d2, rfl, hm2, hb⟩; have HZ2 := Lib.hid (below_trans HZ1.out hb); have H1_2 := Lib.hid (H1_1.out.step hb); have H2_2 := Lib.hid hm2.ins; clear hb hm2)
             | (go_at_call 86; (with_reducible refine (IH1.out _ _ _ (HD1.out.step (Below.refl _ wr).drew)).mono ?_); rintro e v1 ⟨B1, d1, rfl, hm1, hb⟩; have HZ1 := Lib.hid (below_trans (Below.refl _ wr).drew hb); have H1_1 := Lib.hid hm1.ins; clear hb hm1))
          all_goals
            have hz2 := HZ2.out.size
            go_wp2
            go_ret
            exact ⟨B3, d3, rfl, HM3.out.wide hz2 HM3.out.top (Nat.le_refl _), HZ3.out⟩
set_option maxRecDepth 100000 in
set_option maxHeartbeats 8000000 in
theorem halvingTree_spec (N : Nat) (w : World) (hN : 1 ≤ N ∧ N ≤ 12) :
    Calls Try.prog 51 #[.int .i64 (N : Int)] w fun e w' => ∃ B d, e = .returned (.tuple #[.agg #[.slice B (tell9 (halv9 N 0 N) 0).length d], .bool true]) ∧ NMade w' w.heap.size w'.heap.size B (tell9 (halv9 N 0 N) 0) ∧ Below w.heap.size w w' := by
  have HR := Lib.hid (One.new w (.slice none 0 0) 29 w.heap.size rfl)
  have HB := Lib.hid ((Below.refl w.heap.size w).alloc (Nat.le_refl _) (.cells #[.slice none 0 0] 29))
  have HZ := Lib.hid (fun W => l2Numbers_any (N : Int) W)
  rw [inB_t (show (1 : Int) ≤ (N : Int) by omega) (show (N : Int) ≤ 12 by omega)] at HZ
  have HS0 := Lib.hid (fun W => l2Start_any N 0 W hN.2)
  have hN1 := hN.1
  have hN2 := hN.2
  have HOp := Lib.hid (fun W A c l h k => l2Open_any A c l h (List.replicate N 0) 0 W k (by rw [List.length_replicate]; omega))
  rw [List.length_replicate, opens_zero9, rng9_len] at HOp
  have HC := Lib.hid (fun W A c l h k hc => l9Halves_any N 0 N A c l h W hN.1 (Nat.le_refl _) (by omega) k hc)
  generalize halv9 N 0 N = tr at HC ⊢
  go_enter Try.func51, Try.ntmps51
  go_wp2_with fail
  generalize w.alloc (.cells #[.slice none 0 0] 29) = w0 at HR HB ⊢
  with_reducible refine (HZ.out _).mono ?_
  rintro e wX ⟨rfl, hw⟩
  have hw := hw.symm
  subst hw
  go_wp2_with fail
  with_reducible refine (HS0.out _).mono ?_
  rintro e w1 ⟨g, rfl, hg, hrow, hb⟩
  replace HB := Lib.hid (below_trans HB.out hb)
  replace HR := Lib.hid (HR.out.step hb)
  have HS := Lib.hid (zeros_res _ N g g (Nat.le_refl _) hrow).ins
  clear hrow
  clear hb
  go_wp2_with fail
  with_reducible refine (HOp.out _ _ _ _ _ HS.out).mono ?_
  rintro e w2 ⟨vo, rfl, hrow, hb⟩
  replace HB := Lib.hid (below_trans HB.out hb)
  replace HR := Lib.hid (HR.out.step hb)
  replace HS := Lib.hid (HS.out.step hb)
  obtain ⟨Ao, co, hvo, hco, hRo⟩ := own_res (zs := rng9 0 N) (by rw [rng9_len]; exact hrow) rfl
  rw [rng9_len] at hvo hco
  subst hvo
  have HO := Lib.hid hRo.ins
  clear hrow hRo HS
  clear hb
  have hrl := HR.out.lt
  go_wp2_with fail
  with_reducible refine (HC.out _ _ _ _ _ HO.out hco).mono ?_
  rintro e w3 ⟨At, dt, rfl, hm, hb⟩
  replace HB := Lib.hid (below_trans HB.out hb)
  replace HR := Lib.hid (HR.out.step hb)
  replace HO := Lib.hid (HO.out.step hb)
  have HM := Lib.hid hm
  clear hm HO
  clear hb
  have r0 := HR.out.c0
  have rf0 := HR.out.f0
  obtain ⟨hs, hw⟩ := stored1 HR.out (.slice At (tell9 tr 0).length dt)
  have e0 := hs.c0
  have hbs := HB.out.size
  have HF := Lib.hid (HB.out.trans (hw.below (Nat.le_refl _) HB.out.size))
  have HM2 := Lib.hid (HM.out.within hw (.inr (by omega)))
  clear hs hw
  go_wp2
  refine bodyPost_ret (v := .tuple #[.agg #[.slice At (tell9 tr 0).length dt], .bool true]) (by simp [results, go_sem, e0]) rfl ?_
  have HM3 := HM2.out.wide (lo' := w.heap.size) (by omega) HM2.out.top (Nat.le_refl _)
  first | exact ⟨_, _, rfl, HM3, HF.out⟩ | exact ⟨rfl, HM3, HF.out⟩ | exact ⟨HM3, HF.out⟩ | exact ⟨_, ⟨_, rfl⟩, HM3, HF.out⟩ | exact ⟨⟨_, rfl⟩, HM3, HF.out⟩
set_option maxRecDepth 100000 in
set_option maxHeartbeats 8000000 in
theorem repeatTree_spec_q (n q T : Int) (w : World) (hq : qOK n q = false) :
    Calls Try.prog 54 #[.int .i64 n, .int .i64 q, .int .i64 T] w fun e w' => e = .returned (.tuple #[.agg #[.slice none 0 0], .bool false]) ∧ Below w.heap.size w w' := by
  have HR := Lib.hid (One.new w (.slice none 0 0) 29 w.heap.size rfl)
  have HB := Lib.hid ((Below.refl w.heap.size w).alloc (Nat.le_refl _) (.cells #[.slice none 0 0] 29))
  have HQ := Lib.hid (fun W => l2Asks_any n q W)
  rw [hq] at HQ
  clear hq
  go_enter Try.func54, Try.ntmps54
  go_wp2_with fail
  generalize w.alloc (.cells #[.slice none 0 0] 29) = w0 at HR HB ⊢
  with_reducible refine (HQ.out _).mono ?_
  rintro e wX ⟨rfl, hw⟩
  have hw := hw.symm
  subst hw
  have r0 := HR.out.c0
  have rf0 := HR.out.f0
  obtain ⟨hs, hw⟩ := stored1 HR.out (.slice none 0 0)
  have e0 := hs.c0
  have HF := Lib.hid (HB.out.trans (hw.below (Nat.le_refl _) HB.out.size))
  clear hs hw
  go_wp2
  refine bodyPost_ret (v := .tuple #[.agg #[.slice none 0 0], .bool false]) (by simp [results, go_sem, e0]) rfl ?_
  exact ⟨rfl, HF.out⟩
set_option maxRecDepth 100000 in
set_option maxHeartbeats 8000000 in
theorem repeatTree_spec_t (n q T : Int) (w : World) (hq : qOK n q = true) (ht : inB T 0 6 = false) :
    Calls Try.prog 54 #[.int .i64 n, .int .i64 q, .int .i64 T] w fun e w' => e = .returned (.tuple #[.agg #[.slice none 0 0], .bool false]) ∧ Below w.heap.size w w' := by
  have HR := Lib.hid (One.new w (.slice none 0 0) 29 w.heap.size rfl)
  have HB := Lib.hid ((Below.refl w.heap.size w).alloc (Nat.le_refl _) (.cells #[.slice none 0 0] 29))
  have HQ := Lib.hid (fun W => l2Asks_any n q W)
  rw [hq] at HQ
  have HT := Lib.hid (fun W => l1In_any T 0 6 W)
  rw [ht] at HT
  clear hq ht
  go_enter Try.func54, Try.ntmps54
  go_wp2_with fail
  generalize w.alloc (.cells #[.slice none 0 0] 29) = w0 at HR HB ⊢
  with_reducible refine (HQ.out _).mono ?_
  rintro e wX ⟨rfl, hw⟩
  have hw := hw.symm
  subst hw
  have r0 := HR.out.c0
  have rf0 := HR.out.f0
  obtain ⟨hs, hw⟩ := stored1 HR.out (.slice none 0 0)
  have e0 := hs.c0
  have HF := Lib.hid (HB.out.trans (hw.below (Nat.le_refl _) HB.out.size))
  clear hs hw
  go_wp2_with (go_at_call 71; (with_reducible refine (HT.out _).mono ?_); rintro e wX ⟨rfl, hw⟩; have hw := hw.symm; subst hw)
  refine bodyPost_ret (v := .tuple #[.agg #[.slice none 0 0], .bool false]) (by simp [results, go_sem, e0]) rfl ?_
  exact ⟨rfl, HF.out⟩
set_option maxRecDepth 100000 in
set_option maxHeartbeats 16000000 in
theorem repeatTree_spec (n q : Int) (T : Nat) (w : World) (hq : qOK n q = true) (hT6 : T ≤ 6) :
    Calls Try.prog 54 #[.int .i64 n, .int .i64 q, .int .i64 (T : Int)] w fun e w' => ∃ B d, e = .returned (.tuple #[.agg #[.slice B (tell9 (rep9 q T) 0).length d], .bool true]) ∧ NMade w' w.heap.size w'.heap.size B (tell9 (rep9 q T) 0) ∧ Below w.heap.size w w' := by
  have HR := Lib.hid (One.new w (.slice none 0 0) 29 w.heap.size rfl)
  have HB := Lib.hid ((Below.refl w.heap.size w).alloc (Nat.le_refl _) (.cells #[.slice none 0 0] 29))
  have HQ := Lib.hid (fun W => l2Asks_any n q W)
  rw [hq] at HQ
  have HT := Lib.hid (fun W => l1In_any (T : Int) 0 6 W)
  rw [inB_t (show (0 : Int) ≤ (T : Int) by omega) (show (T : Int) ≤ 6 by omega)] at HT
  have HL := Lib.hid (fun W => l9Leaf_any W)
  have HP := Lib.hid (fun k (hk : k < T) => show Fit9 (tell9 (rep9 q k) 0) ∧ 0 < (tell9 (rep9 q k) 0).length from by have h1 := rep9_size q k; have h2 := Nat.pow_le_pow_right (show 0 < 2 by omega) (show k + 1 ≤ 6 by omega); have h3 := (rep9 q k).size_pos; exact ⟨fit9_tell (by omega), by rw [tell9_len]; omega⟩)
  have HJ := Lib.hid (fun k A1 c1 l1 h1 W (hk : k < T) k1 => l9Join_any q A1 c1 l1 h1 (tell9 (rep9 q k) 0) A1 c1 l1 h1 (tell9 (rep9 q k) 0) W k1 k1 (HP.out k hk).1 (HP.out k hk).1 (HP.out k hk).2 (HP.out k hk).2)
  have HN : Hid (∀ k, join9 q (tell9 (rep9 q k) 0) (tell9 (rep9 q k) 0) = tell9 (rep9 q (k + 1)) 0) := Lib.hid (fun k => join9_tell q _ _)
  have H0 : Hid (tell9 (rep9 q 0) 0 = [lf9]) := Lib.hid rfl
  clear hq
  go_enter Try.func54, Try.ntmps54
  go_wp2_with fail
  generalize w.alloc (.cells #[.slice none 0 0] 29) = w0 at HR HB ⊢
  with_reducible refine (HQ.out _).mono ?_
  rintro e wX ⟨rfl, hw⟩
  have hw := hw.symm
  subst hw
  go_wp2_with (go_at_call 71; (with_reducible refine (HT.out _).mono ?_); rintro e wX ⟨rfl, hw⟩; have hw := hw.symm; subst hw)
  with_reducible refine (HL.out _).mono ?_
  rintro e w1 ⟨rfl, hb⟩
  replace HB := Lib.hid (below_trans HB.out hb)
  replace HR := Lib.hid (HR.out.step hb)
  clear hb
  have hrl := HR.out.lt
  go_wp2_with fail
  have hbz := (Below.refl w1.heap.size w1).alloc (Nat.le_refl _) (.cells #[.int .i64 (-1), .int .i64 (-1), .int .i64 (-1)] 75)
  have HM := Lib.hid (leaf_row9 (w := w1) (lo := w.heap.size + 1) (by omega))
  rw [← H0.out] at HM
  replace HR := Lib.hid (HR.out.step hbz)
  replace HB := Lib.hid (below_trans HB.out hbz)
  have hl1 : (1 : Nat) = (tell9 (rep9 q 0) 0).length := by rw [H0.out]; rfl
  have HL1 := Lib.hid hl1
  clear hbz hl1 hrl
  generalize hAd : some (Addr.mk w1.heap.size 0 none) = A0 at HM ⊢
  generalize w1.alloc (.cells #[.int .i64 (-1), .int .i64 (-1), .int .i64 (-1)] 75) = w2 at HM HR HB ⊢
  go_loopw [8, 9] (fun v i wr => ∃ (k : Nat) (A : Option Addr) (c L : Nat), k ≤ T ∧ i = .int .i64 (k : Int) ∧ v = .slice A L c ∧ Hid (L = (tell9 (rep9 q k) 0).length) ∧ Hid (NMade wr (w.heap.size + 1) wr.heap.size A (tell9 (rep9 q k) 0)) ∧ Hid (One wr w.heap.size (.slice none 0 0) 29) ∧ Hid (Below w.heap.size w wr)) (fun _ i _ => T - (intOf i).toNat)
  case atStart => exact ⟨0, A0, 1, 1, Nat.zero_le _, rfl, rfl, HL1, HM, HR, HB⟩
  case round =>
    clear HM HR HB HL1
    obtain ⟨k, A, c, L, hk, rfl, rfl, HLk, HM, HR, HB⟩ := hrel
    rename World => wr
    have hLk := HLk.out
    subst hLk
    by_cases hlt : k < T
    · have hki : (k : Int) < (T : Int) := by omega
      have HJ2 := Lib.hid (fun l1 h1 W h => HJ.out k A c l1 h1 W hlt h)
      rw [HN.out] at HJ2
      have hrl := HR.out.lt
      have hrs := HR.out
      clear hrs
      go_wp2_with fail
      with_reducible refine (HJ2.out _ _ _ HM.out.ins).mono ?_
      rintro e w3 ⟨B, d, rfl, hm, hb⟩
      have HM3 := Lib.hid (hm.wide (show w.heap.size + 1 ≤ wr.heap.size by omega) hm.top (Nat.le_refl _))
      replace HR := Lib.hid (HR.out.step hb)
      replace HB := Lib.hid (below_trans HB.out hb)
      clear hm hb HM
      go_wp2
      go_roundw
      case rel => exact ⟨k + 1, B, d, _, by omega, by go_num, rfl, Lib.hid rfl, HM3, HR, HB⟩
      case measure => simp [intOf]; omega
    · obtain rfl : k = T := by omega
      have r0 := HR.out.c0
      have rf0 := HR.out.f0
      obtain ⟨hs, hw⟩ := stored1 HR.out (.slice A (tell9 (rep9 q k) 0).length c)
      have e0 := hs.c0
      have hbs := HB.out.size
      have HF := Lib.hid (HB.out.trans (hw.below (Nat.le_refl _) HB.out.size))
      have HM2 := Lib.hid (HM.out.within hw (.inr (by omega)))
      clear hs hw
      go_wp2
      refine bodyPost_ret (v := .tuple #[.agg #[.slice A (tell9 (rep9 q k) 0).length c], .bool true]) (by simp [results, go_sem, e0]) rfl ?_
      have HM3 := HM2.out.wide (lo' := w.heap.size) (by omega) HM2.out.top (Nat.le_refl _)
      first | exact ⟨_, _, rfl, HM3, HF.out⟩ | exact ⟨rfl, HM3, HF.out⟩ | exact ⟨HM3, HF.out⟩ | exact ⟨_, ⟨_, rfl⟩, HM3, HF.out⟩ | exact ⟨⟨_, rfl⟩, HM3, HF.out⟩
theorem zero_tree9 {w w' : World} {e : Ending} (h : e = .returned (.tuple #[.agg #[.slice none 0 0], .bool false]) ∧ Below w.heap.size w w') : ∃ B d, e = .returned (.tuple #[.agg #[.slice B ([] : List (Int × Int × Int)).length d], .bool false]) ∧ NMade w' w.heap.size w'.heap.size B [] ∧ Below w.heap.size w w' :=
  ⟨none, 0, h.1, ⟨.inl ⟨rfl, rfl⟩, Nat.le_refl _⟩, h.2⟩
theorem halvingTree_both (n : Int) : ∃ (r0 : List (Int × Int × Int)) (r1 : Bool), r0.length ≤ 1048576 ∧
    (∀ (w : World), Calls Try.prog 52 #[.int .i64 n] w fun e w' => ∃ B d, e = .returned (.tuple #[.agg #[.slice B r0.length d], .bool r1]) ∧ NMade w' w.heap.size w'.heap.size B r0 ∧ Below w.heap.size w w') ∧
    (∀ (w : World), Calls Try.prog 51 #[.int .i64 n] w fun e w' => ∃ B d, e = .returned (.tuple #[.agg #[.slice B r0.length d], .bool r1]) ∧ NMade w' w.heap.size w'.heap.size B r0 ∧ Below w.heap.size w w') := by
  cases hn : inB n 1 12 with
  | false => exact ⟨[], false, by simp, fun w => (halvingTree_impl_no n w hn).mono fun _ _ => zero_tree9, fun w => (halvingTree_spec_no n w hn).mono fun _ _ => zero_tree9⟩
  | true =>
    have hb := inB_iff.1 hn
    obtain ⟨N, rfl⟩ : ∃ N : Nat, n = (N : Int) := ⟨n.toNat, by omega⟩
    exact ⟨_, true, by rw [tell9_len]; have := halv9_size N 0 N (by omega) (Nat.le_refl _); omega, fun w => halvingTree_impl N w (by omega), fun w => halvingTree_spec N w (by omega)⟩
theorem repeatTree_both (n q t : Int) : ∃ (r0 : List (Int × Int × Int)) (r1 : Bool), r0.length ≤ 1048576 ∧
    (∀ (w : World), Calls Try.prog 55 #[.int .i64 n, .int .i64 q, .int .i64 t] w fun e w' => ∃ B d, e = .returned (.tuple #[.agg #[.slice B r0.length d], .bool r1]) ∧ NMade w' w.heap.size w'.heap.size B r0 ∧ Below w.heap.size w w') ∧
    (∀ (w : World), Calls Try.prog 54 #[.int .i64 n, .int .i64 q, .int .i64 t] w fun e w' => ∃ B d, e = .returned (.tuple #[.agg #[.slice B r0.length d], .bool r1]) ∧ NMade w' w.heap.size w'.heap.size B r0 ∧ Below w.heap.size w w') := by
  cases hq : qOK n q with
  | false => exact ⟨[], false, by simp, fun w => (repeatTree_impl_q n q t w hq).mono fun _ _ => zero_tree9, fun w => (repeatTree_spec_q n q t w hq).mono fun _ _ => zero_tree9⟩
  | true =>
    by_cases h0 : t < 0
    · exact ⟨[], false, by simp, fun w => (repeatTree_impl_neg n q t w hq h0).mono fun _ _ => zero_tree9, fun w => (repeatTree_spec_t n q t w hq (inB_f1 (by omega))).mono fun _ _ => zero_tree9⟩
    · by_cases h6 : 6 < t
      · exact ⟨[], false, by simp, fun w => (repeatTree_impl_big n q t w hq h0 h6).mono fun _ _ => zero_tree9, fun w => (repeatTree_spec_t n q t w hq (inB_f2 (by omega))).mono fun _ _ => zero_tree9⟩
      · obtain ⟨T, rfl⟩ : ∃ T : Nat, t = (T : Int) := ⟨t.toNat, by omega⟩
        exact ⟨_, true, by rw [tell9_len]; have h1 := rep9_size q T; have h2 := Nat.pow_le_pow_right (show 0 < 2 by omega) (show T + 1 ≤ 7 by omega); omega, fun w => repeatTree_impl n q T w hq (by omega), fun w => repeatTree_spec n q T w hq (by omega)⟩
end Go.Proofs.Ytnomgnjfamideaa
