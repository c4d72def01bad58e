/- The counts of those that a question asks for: of impl, of spec. -/
import Derived.Test.YthpnkeecpaflfaaNeedB
import Derived.Test.YthpnkeecpaflfaaCounts
namespace Go.Proofs.Ythpnkeecpaflfaa
open Go.RowKit Go.ChangeShapes Go.WideShapes
set_option linter.unusedVariables false

def selStep (q : Int) (k : Nat) (l : List Int) (z : Int) : List Int := if inQ q k = true then cntStep l z else l
def selTo (zs : List Int) (q : Int) (n : Nat) : Nat → List Int
  | 0 => List.replicate n 0
  | k + 1 => selStep q k (selTo zs q n k) (zs.getD k (-1))
theorem selStep_len (q : Int) (k : Nat) (l : List Int) (z : Int) : (selStep q k l z).length = l.length := by
  unfold selStep; split <;> simp [cntStep_len]
theorem selTo_len (zs : List Int) (q : Int) (n : Nat) : ∀ k, (selTo zs q n k).length = n
  | 0 => by simp [selTo]
  | k + 1 => by rw [selTo, selStep_len, selTo_len zs q n k]
theorem bump_bd {l : List Int} {k : Nat} (ih : ∀ x ∈ l, 0 ≤ x ∧ x ≤ (k : Int)) (z : Int) : ∀ x ∈ cntStep l z, 0 ≤ x ∧ x ≤ ((k + 1 : Nat) : Int) := fun x hx => by
  unfold cntStep at hx
  split at hx
  · rcases List.mem_or_eq_of_mem_set hx with h | h
    · have := ih x h; omega
    · have := getD_bd ih (by omega) z.toNat
      omega
  · have := ih x hx; omega
theorem selTo_bd (zs : List Int) (q : Int) (n : Nat) : ∀ k, ∀ x ∈ selTo zs q n k, 0 ≤ x ∧ x ≤ (k : Int)
  | 0 => fun x hx => by
    have := List.eq_of_mem_replicate hx
    omega
  | k + 1 => fun x hx => by
    have ih := selTo_bd zs q n k
    unfold selTo selStep at hx
    split at hx
    · exact bump_bd ih _ x hx
    · have := ih x hx; omega
theorem selTo_nil (zs : List Int) (q : Int) (n : Nat) : ((selTo zs q n 0).map (Value.int .i64)).toArray = Array.replicate n (Value.int .i64 0) := by simp [selTo]
theorem sum_bump : ∀ (l : List Int) (i : Nat), i < l.length → sumI (l.set i (l.getD i 0 + 1)) = sumI l + 1
  | [], i, h => by simp at h
  | x :: l, 0, h => by simp [sumI]; omega
  | x :: l, i + 1, h => by
    have := sum_bump l i (by simpa using h)
    simp [sumI] at this ⊢
    omega
theorem fit_same : ∀ {l m : List Int}, fitL l m = true → ∀ i, fitL l (m.set i (m.getD i 0 + 1)) = true
  | [], [], _, i => by simp [fitL]
  | x :: l, y :: m, h, 0 => by simp [fitL] at h ⊢; exact ⟨by omega, h.2⟩
  | x :: l, y :: m, h, i + 1 => by
    simp only [fitL, Bool.and_eq_true] at h
    have := fit_same h.2 i
    simp [fitL] at h this ⊢
    exact ⟨h.1, this⟩
  | [], y :: m, h, i => by simp [fitL] at h
  | x :: l, [], h, i => by simp [fitL] at h
theorem fit_bump : ∀ {l m : List Int}, fitL l m = true → ∀ i, fitL (l.set i (l.getD i 0 + 1)) (m.set i (m.getD i 0 + 1)) = true
  | [], [], _, i => by simp [fitL]
  | x :: l, y :: m, h, 0 => by simp [fitL] at h ⊢; exact ⟨by omega, h.2⟩
  | x :: l, y :: m, h, i + 1 => by
    simp only [fitL, Bool.and_eq_true] at h
    have := fit_bump h.2 i
    simp [fitL] at h this ⊢
    exact ⟨h.1, this⟩
  | [], y :: m, h, i => by simp [fitL] at h
  | x :: l, [], h, i => by simp [fitL] at h
theorem fit_zero : ∀ n, fitL (List.replicate n 0) (List.replicate n 0) = true
  | 0 => rfl
  | n + 1 => by simp only [List.replicate_succ, fitL, fit_zero n]; rfl
theorem sel_fit (zs : List Int) (q : Int) (n : Nat) : ∀ k, fitL (selTo zs q n k) (cntTo zs n k) = true
  | 0 => fit_zero n
  | k + 1 => by
    have ih := sel_fit zs q n k
    unfold selTo cntTo selStep cntStep
    split
    · split
      · exact fit_bump ih _
      · exact ih
    · split
      · exact fit_same ih _
      · exact ih
theorem sum_zero : ∀ n, sumI (List.replicate n 0) = 0
  | 0 => rfl
  | n + 1 => by simp [List.replicate_succ, sumI, sum_zero n]
/-- The counts tell how many are open. -/
theorem cnt_sum (zs : List Int) (n : Nat) (h : ∀ k (hk : k < zs.length), zs[k] < (n : Int)) : ∀ k, k ≤ zs.length → sumI (cntTo zs n k) = ((filt (fun k => decide (0 ≤ zs.getD k (-1))) k).length : Int)
  | 0, _ => sum_zero n
  | k + 1, hk => by
    have ih := cnt_sum zs n h k (by omega)
    have hz := h k (by omega)
    have hgd := getD_at (zs := zs) (k := k) (by omega)
    unfold cntTo cntStep
    rw [hgd]
    split
    · rename_i h0
      rw [sum_bump _ _ (by rw [cntTo_len]; omega), ih, filt_yes (by show decide (0 ≤ zs.getD k (-1)) = true; rw [hgd]; exact decide_eq_true h0)]
      simp
    · rename_i h0
      rw [ih, filt_no (by show decide (0 ≤ zs.getD k (-1)) = false; rw [hgd]; exact decide_eq_false h0)]

set_option maxRecDepth 100000 in
set_option maxHeartbeats 4000000 in
theorem l4Of_any (A : Option Addr) (c lo hi : Nat) (zs : List Int) (M : Nat) (q : Int) (w : World) (hS : Ins w lo hi A zs) (hst : isSt zs (M : Int) = true) :
    Calls Try.prog 34 #[.agg #[.slice A zs.length c, .int .i64 (M : Int)], .int .i64 q] w fun e w' => ∃ g, e = .returned (.slice (some ⟨g, 0, none⟩) (M + 1) (M + 1)) ∧ w.heap.size ≤ g ∧ w'.heap[g]? = some (.cells ((selTo zs q (M + 1) zs.length).map (Value.int .i64)).toArray 3 (0, 0)) ∧ Below w.heap.size w w' := by
  have hl := isSt_len hst
  have hn12 : zs.length ≤ 12 := hl.2.1
  have hM : M ≤ 2 := by omega
  have hmk := makeInts1 M (by omega)
  have hh := hS.top
  have HA := Lib.hid (fun k (h : k < zs.length) => isSt_at hst h)
  have HX0 := Lib.hid (Arg.next (Below.refl w.heap.size w) (.slice A zs.length c) (.int .i64 (M : Int)) 26 w.heap.size rfl)
  have HI0 := Lib.hid (hS.step HX0.out.below)
  have hs0 : (w.alloc (.cells #[.slice A zs.length c, .int .i64 (M : Int)] 26)).heap.size = w.heap.size + 1 := by simp
  clear hS hst hl
  go_enter Try.func34, Try.ntmps34
  go_wp2_with fail
  clear hmk
  generalize w.alloc (.cells #[.slice A zs.length c, .int .i64 (M : Int)] 26) = wa at HX0 HI0 hs0 ⊢
  go_loopw [6] (fun i wr => ∃ (k : Nat), k ≤ zs.length ∧ i = .int .i64 k ∧ Hid (wr.heap[w.heap.size + 1]? = some (.cells ((selTo zs q (M + 1) k).map (Value.int .i64)).toArray 3 (0, 0))) ∧ Hid (Past (w.heap.size + 1) wa wr)) (fun i _ => zs.length - (intOf i).toNat)
  case atStart => exact ⟨0, Nat.zero_le _, rfl, Lib.hid (by rw [selTo_nil, ← hs0]; exact alloc_row wa _ _), Past.of_below ((Below.refl _ _).alloc (Nat.le_refl _) _)⟩
  case round =>
    obtain ⟨k, hk, rfl, HO, HP⟩ := hrel
    have hc0 := cell_past HP.out HX0.out.c0 (Nat.lt_succ_self _)
    by_cases hlt : k < zs.length
    · obtain ⟨b, o, rfl, _, hb, hc⟩ := (HI0.out.past HP.out (by omega)).ints.at_ hlt
      have hgd := getD_at hlt
      have hat := HA.out k hlt
      have HL := Lib.hid (selTo_len zs q (M + 1) k)
      have HD := Lib.hid (selTo_bd zs q (M + 1) k)
      by_cases hx : 0 ≤ zs[k]
      · cases hQ : inQ q k with
        | true =>
          have HF : Hid (selTo zs q (M + 1) (k + 1) = (selTo zs q (M + 1) k).set zs[k].toNat ((selTo zs q (M + 1) k).getD zs[k].toNat 0 + 1)) := by
            show selStep q k _ _ = _
            rw [hgd]
            unfold selStep
            rw [if_pos hQ]
            exact if_pos hx
          obtain ⟨i, hi⟩ : ∃ i : Nat, zs[k] = (i : Int) := ⟨zs[k].toNat, by omega⟩
          rw [hi] at hc hat HF
          rw [Int.toNat_natCast] at HF
          clear hx hi hgd
          have hiM : i < M + 1 := by omega
          have hne : ¬ (i : Int) = -1 := by omega
          have hbd := getD_bd HD.out (by omega) i
          have hrow := HO.out
          have hcell := getD_cell hrow (i := i) (by rw [HL.out]; exact hiM)
          have hfr := row_freeI hrow i
          have HO2 := Lib.hid (row_setI hrow i (.int .i64 ((selTo zs q (M + 1) k).getD i 0 + 1)))
          rw [map_set] at HO2
          have HP2 := Lib.hid (HP.out.trans (Past.of_within (within_set (Within.refl (w.heap.size + 1) (w.heap.size + 2) wr) (g := w.heap.size + 1) (Nat.le_refl _) (by omega) i (.int .i64 ((selTo zs q (M + 1) k).getD i 0 + 1))) (Nat.le_refl _)))
          clear hrow HL HD
          generalize (selTo zs q (M + 1) k).getD i 0 = z at hcell hbd HF HO2 HP2
          rw [show inQ q k = (bits .and .i64 (q / 2 ^ k) 1 == 1) from rfl] at hQ
          go_wp2
          go_roundw
          case rel => exact ⟨k + 1, by omega, by go_num, by rw [HF.out]; exact HO2.out, HP2.out⟩
          case measure => simp [intOf]; omega
        | false =>
          have HF : Hid (selTo zs q (M + 1) (k + 1) = selTo zs q (M + 1) k) := by
            show selStep q k _ _ = _
            unfold selStep
            rw [hQ]
            rfl
          have hne : ¬ zs[k] = -1 := by omega
          clear hgd
          rw [show inQ q k = (bits .and .i64 (q / 2 ^ k) 1 == 1) from rfl] at hQ
          go_wp2
          go_roundw
          case rel => exact ⟨k + 1, by omega, by go_num, by rw [HF.out]; exact HO.out, HP.out⟩
          case measure => simp [intOf]; omega
      · have HF : Hid (selTo zs q (M + 1) (k + 1) = selTo zs q (M + 1) k) := by
          show selStep q k _ _ = _
          rw [hgd]
          unfold selStep
          cases inQ q k
          · rfl
          · exact if_neg hx
        have hne : zs[k] = -1 := by omega
        rw [hne] at hc
        clear hgd
        go_wp2
        go_roundw
        case rel => exact ⟨k + 1, by omega, by go_num, by rw [HF.out]; exact HO.out, HP.out⟩
        case measure => simp [intOf]; omega
    · obtain rfl : k = zs.length := by omega
      go_wp2
      go_ret
      exact ⟨_, rfl, by omega, HO.out, HX0.out.below.trans (HP.out.below (by omega) (by omega))⟩

set_option maxRecDepth 100000 in
set_option maxHeartbeats 4000000 in
theorem splitBy_any (A : Option Addr) (c lo hi : Nat) (zs : List Int) (M : Nat) (q : Int) (w : World) (hS : Ins w lo hi A zs) (hst : isSt zs (M : Int) = true) :
    Calls Try.prog 31 #[.agg #[.slice A zs.length c, .int .i64 (M : Int)], .int .i64 q] w fun e w' => ∃ g, e = .returned (.slice (some ⟨g, 0, none⟩) (M + 1) (M + 1)) ∧ w.heap.size ≤ g ∧ w'.heap[g]? = some (.cells ((selTo zs q (M + 1) zs.length).map (Value.int .i64)).toArray 3 (0, 0)) ∧ Below w.heap.size w w' := by
  have hl := isSt_len hst
  have hn12 : zs.length ≤ 12 := hl.2.1
  have hM : M ≤ 2 := by omega
  have hmk := makeInts1 M (by omega)
  have hh := hS.top
  have HA := Lib.hid (fun k (h : k < zs.length) => isSt_at hst h)
  have HX0 := Lib.hid (Arg.next (Below.refl w.heap.size w) (.slice A zs.length c) (.int .i64 (M : Int)) 26 w.heap.size rfl)
  have HI0 := Lib.hid (hS.step HX0.out.below)
  have hs0 : (w.alloc (.cells #[.slice A zs.length c, .int .i64 (M : Int)] 26)).heap.size = w.heap.size + 1 := by simp
  clear hS hst hl
  go_enter Try.func31, Try.ntmps31
  go_wp2_with fail
  clear hmk
  generalize w.alloc (.cells #[.slice A zs.length c, .int .i64 (M : Int)] 26) = wa at HX0 HI0 hs0 ⊢
  go_loopw [15] (fun i wr => ∃ (k : Nat), k ≤ zs.length ∧ i = .int .i64 k ∧ Hid (wr.heap[w.heap.size + 1]? = some (.cells ((selTo zs q (M + 1) k).map (Value.int .i64)).toArray 3 (0, 0))) ∧ Hid (Past (w.heap.size + 1) wa wr)) (fun i _ => zs.length - (intOf i).toNat)
  case atStart => exact ⟨0, Nat.zero_le _, rfl, Lib.hid (by rw [selTo_nil, ← hs0]; exact alloc_row wa _ _), Past.of_below ((Below.refl _ _).alloc (Nat.le_refl _) _)⟩
  case round =>
    obtain ⟨k, hk, rfl, HO, HP⟩ := hrel
    have hc0 := cell_past HP.out HX0.out.c0 (Nat.lt_succ_self _)
    by_cases hlt : k < zs.length
    · obtain ⟨b, o, rfl, _, hb, hc⟩ := (HI0.out.past HP.out (by omega)).ints.at_ hlt
      have hgd := getD_at hlt
      have hat := HA.out k hlt
      have HL := Lib.hid (selTo_len zs q (M + 1) k)
      have HD := Lib.hid (selTo_bd zs q (M + 1) k)
      by_cases hx : 0 ≤ zs[k]
      · cases hQ : inQ q k with
        | true =>
          have HF : Hid (selTo zs q (M + 1) (k + 1) = (selTo zs q (M + 1) k).set zs[k].toNat ((selTo zs q (M + 1) k).getD zs[k].toNat 0 + 1)) := by
            show selStep q k _ _ = _
            rw [hgd]
            unfold selStep
            rw [if_pos hQ]
            exact if_pos hx
          obtain ⟨i, hi⟩ : ∃ i : Nat, zs[k] = (i : Int) := ⟨zs[k].toNat, by omega⟩
          rw [hi] at hc hat HF
          rw [Int.toNat_natCast] at HF
          clear hx hi hgd
          have hiM : i < M + 1 := by omega
          have hne : ¬ (i : Int) = -1 := by omega
          have hbd := getD_bd HD.out (by omega) i
          have hrow := HO.out
          have hcell := getD_cell hrow (i := i) (by rw [HL.out]; exact hiM)
          have hfr := row_freeI hrow i
          have HO2 := Lib.hid (row_setI hrow i (.int .i64 ((selTo zs q (M + 1) k).getD i 0 + 1)))
          rw [map_set] at HO2
          have HP2 := Lib.hid (HP.out.trans (Past.of_within (within_set (Within.refl (w.heap.size + 1) (w.heap.size + 2) wr) (g := w.heap.size + 1) (Nat.le_refl _) (by omega) i (.int .i64 ((selTo zs q (M + 1) k).getD i 0 + 1))) (Nat.le_refl _)))
          clear hrow HL HD
          generalize (selTo zs q (M + 1) k).getD i 0 = z at hcell hbd HF HO2 HP2
          have HQ := Lib.hid (fun W => inQuestion_any q k W (by omega))
          rw [hQ] at HQ
          go_wp2_with fail
          refine (HQ.out _).mono ?_
          rintro e w9 ⟨rfl, rfl⟩
          go_wp2
          go_roundw
          case rel => exact ⟨k + 1, by omega, by go_num, by rw [HF.out]; exact HO2.out, HP2.out⟩
          case measure => simp [intOf]; omega
        | false =>
          have HF : Hid (selTo zs q (M + 1) (k + 1) = selTo zs q (M + 1) k) := by
            show selStep q k _ _ = _
            unfold selStep
            rw [hQ]
            rfl
          have hne : ¬ zs[k] = -1 := by omega
          clear hgd
          have HQ := Lib.hid (fun W => inQuestion_any q k W (by omega))
          rw [hQ] at HQ
          go_wp2_with fail
          refine (HQ.out _).mono ?_
          rintro e w9 ⟨rfl, rfl⟩
          go_wp2
          go_roundw
          case rel => exact ⟨k + 1, by omega, by go_num, by rw [HF.out]; exact HO.out, HP.out⟩
          case measure => simp [intOf]; omega
      · have HF : Hid (selTo zs q (M + 1) (k + 1) = selTo zs q (M + 1) k) := by
          show selStep q k _ _ = _
          rw [hgd]
          unfold selStep
          cases inQ q k
          · rfl
          · exact if_neg hx
        have hne : zs[k] = -1 := by omega
        rw [hne] at hc
        clear hgd
        go_wp2
        go_roundw
        case rel => exact ⟨k + 1, by omega, by go_num, by rw [HF.out]; exact HO.out, HP.out⟩
        case measure => simp [intOf]; omega
    · obtain rfl : k = zs.length := by omega
      go_wp2
      go_ret
      exact ⟨_, rfl, by omega, HO.out, HX0.out.below.trans (HP.out.below (by omega) (by omega))⟩

end Go.Proofs.Ythpnkeecpaflfaa
