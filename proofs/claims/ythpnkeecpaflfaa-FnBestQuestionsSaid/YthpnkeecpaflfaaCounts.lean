/- How many open numbers have so many false answers. -/
import Derived.Test.YthpnkeecpaflfaaOpenN
namespace Go.Proofs.Ythpnkeecpaflfaa
open Go.RowKit Go.ChangeShapes Go.WideShapes
set_option linter.unusedVariables false

def cntStep (l : List Int) (z : Int) : List Int := if 0 ≤ z then l.set z.toNat (l.getD z.toNat 0 + 1) else l
def cntTo (zs : List Int) (n : Nat) : Nat → List Int
  | 0 => List.replicate n 0
  | k + 1 => cntStep (cntTo zs n k) (zs.getD k (-1))
theorem cntStep_len (l : List Int) (z : Int) : (cntStep l z).length = l.length := by unfold cntStep; split <;> simp
theorem cntTo_len (zs : List Int) (n : Nat) : ∀ k, (cntTo zs n k).length = n
  | 0 => by simp [cntTo]
  | k + 1 => by rw [cntTo, cntStep_len, cntTo_len zs n k]
theorem getD_bd {l : List Int} {b : Int} (h : ∀ x ∈ l, 0 ≤ x ∧ x ≤ b) (hb : 0 ≤ b) (i : Nat) : 0 ≤ l.getD i 0 ∧ l.getD i 0 ≤ b := by
  rcases Nat.lt_or_ge i l.length with hi | hi
  · have : l.getD i 0 = l[i] := by simp [List.getD, hi]
    rw [this]
    exact h _ (List.getElem_mem hi)
  · have : l.getD i 0 = 0 := by simp [List.getD, List.getElem?_eq_none hi]
    rw [this]
    omega
theorem cntTo_bd (zs : List Int) (n : Nat) : ∀ k, ∀ x ∈ cntTo zs n k, 0 ≤ x ∧ x ≤ (k : Int)
  | 0 => fun x hx => by
    have := List.eq_of_mem_replicate hx
    omega
  | k + 1 => fun x hx => by
    have ih := cntTo_bd zs n k
    rw [cntTo] at hx
    unfold cntStep at hx
    split at hx
    · rcases List.mem_or_eq_of_mem_set hx with h | h
      · have := ih x h; omega
      · have := getD_bd ih (by omega) (zs.getD k (-1)).toNat
        omega
    · have := ih x hx; omega
theorem map_set (l : List Int) (i : Nat) (v : Int) : ((l.map (Value.int .i64)).toArray).setIfInBounds i (.int .i64 v) = ((l.set i v).map (Value.int .i64)).toArray := by
  rw [List.setIfInBounds_toArray, List.map_set]
theorem getD_cell {w : World} {g i : Nat} {l : List Int} {t : TypeId} (h : w.heap[g]? = some (.cells (l.map (Value.int .i64)).toArray t (0, 0))) (hi : i < l.length) : w.cell? ⟨g, i, none⟩ = some (.int .i64 (l.getD i 0)) := by
  rw [row_cellI h]
  simp [List.getD, hi]
theorem makeInts1 (M : Nat) (h : M ≤ 1000) (w : World) :
    (Instr.makeSlice 24 (.int .i64 ((M : Int) + 1)) (.int .i64 ((M : Int) + 1))).run Try.prog w = .ok (.slice (some ⟨w.heap.size, 0, none⟩) (M + 1) (M + 1)) (w.alloc (.cells (Array.replicate (M + 1) (Value.int .i64 0)) 3)) := by
  have := makeInts (M + 1) (by omega) w
  simpa using this
theorem cntTo_nil (zs : List Int) (n : Nat) : ((cntTo zs n 0).map (Value.int .i64)).toArray = Array.replicate n (Value.int .i64 0) := by simp [cntTo]

set_option maxRecDepth 100000 in
set_option maxHeartbeats 4000000 in
theorem l2Counts_any (A : Option Addr) (c lo hi : Nat) (zs : List Int) (M : Nat) (w : World) (hS : Ins w lo hi A zs) (hst : isSt zs (M : Int) = true) :
    Calls Try.prog 26 #[.agg #[.slice A zs.length c, .int .i64 (M : Int)]] w fun e w' => ∃ g, e = .returned (.slice (some ⟨g, 0, none⟩) (M + 1) (M + 1)) ∧ w.heap.size ≤ g ∧ w'.heap[g]? = some (.cells ((cntTo zs (M + 1) zs.length).map (Value.int .i64)).toArray 3 (0, 0)) ∧ Below w.heap.size w w' := by
  have hl := isSt_len hst
  have hn12 : zs.length ≤ 12 := hl.2.1
  have hM : M ≤ 2 := by omega
  have hmk := makeInts1 M (by omega)
  have hh := hS.top
  have HA := Lib.hid (fun k (h : k < zs.length) => isSt_at hst h)
  have HX0 := Lib.hid (Arg.next (Below.refl w.heap.size w) (.slice A zs.length c) (.int .i64 (M : Int)) 26 w.heap.size rfl)
  have HI0 := Lib.hid (hS.step HX0.out.below)
  have hs0 : (w.alloc (.cells #[.slice A zs.length c, .int .i64 (M : Int)] 26)).heap.size = w.heap.size + 1 := by simp
  clear hS hst hl
  go_enter Try.func26, Try.ntmps26
  go_wp2_with fail
  clear hmk
  generalize w.alloc (.cells #[.slice A zs.length c, .int .i64 (M : Int)] 26) = wa at HX0 HI0 hs0 ⊢
  go_loopw [4] (fun i wr => ∃ (k : Nat), k ≤ zs.length ∧ i = .int .i64 k ∧ Hid (wr.heap[w.heap.size + 1]? = some (.cells ((cntTo zs (M + 1) k).map (Value.int .i64)).toArray 3 (0, 0))) ∧ Hid (Past (w.heap.size + 1) wa wr)) (fun i _ => zs.length - (intOf i).toNat)
  case atStart => exact ⟨0, Nat.zero_le _, rfl, Lib.hid (by rw [cntTo_nil, ← hs0]; exact alloc_row wa _ _), Past.of_below ((Below.refl _ _).alloc (Nat.le_refl _) _)⟩
  case round =>
    obtain ⟨k, hk, rfl, HO, HP⟩ := hrel
    have hc0 := cell_past HP.out HX0.out.c0 (Nat.lt_succ_self _)
    by_cases hlt : k < zs.length
    · obtain ⟨b, o, rfl, _, hb, hc⟩ := (HI0.out.past HP.out (by omega)).ints.at_ hlt
      have hgd := getD_at hlt
      have hat := HA.out k hlt
      have HL := Lib.hid (cntTo_len zs (M + 1) k)
      have HD := Lib.hid (cntTo_bd zs (M + 1) k)
      by_cases hx : 0 ≤ zs[k]
      · have HF : Hid (cntTo zs (M + 1) (k + 1) = (cntTo zs (M + 1) k).set zs[k].toNat ((cntTo zs (M + 1) k).getD zs[k].toNat 0 + 1)) := by
          show cntStep _ _ = _
          rw [hgd]
          exact if_pos hx
        obtain ⟨i, hi⟩ : ∃ i : Nat, zs[k] = (i : Int) := ⟨zs[k].toNat, by omega⟩
        rw [hi] at hc hat HF
        rw [Int.toNat_natCast] at HF
        clear hx hi hgd
        have hiM : i < M + 1 := by omega
        have hbd := getD_bd HD.out (by omega) i
        have hrow := HO.out
        have hcell := getD_cell hrow (i := i) (by rw [HL.out]; exact hiM)
        have hfr := row_freeI hrow i
        have HO2 := Lib.hid (row_setI hrow i (.int .i64 ((cntTo zs (M + 1) k).getD i 0 + 1)))
        rw [map_set] at HO2
        have HP2 := Lib.hid (HP.out.trans (Past.of_within (within_set (Within.refl (w.heap.size + 1) (w.heap.size + 2) wr) (g := w.heap.size + 1) (Nat.le_refl _) (by omega) i (.int .i64 ((cntTo zs (M + 1) k).getD i 0 + 1))) (Nat.le_refl _)))
        clear hrow HL HD
        generalize (cntTo zs (M + 1) k).getD i 0 = z at hcell hbd HF HO2 HP2
        go_wp2
        go_roundw
        case rel => exact ⟨k + 1, by omega, by go_num, by rw [HF.out]; exact HO2.out, HP2.out⟩
        case measure => simp [intOf]; omega
      · have HF : Hid (cntTo zs (M + 1) (k + 1) = cntTo zs (M + 1) k) := by
          show cntStep _ _ = _
          rw [hgd]
          exact if_neg hx
        clear hgd
        go_wp2
        go_roundw
        case rel => exact ⟨k + 1, by omega, by go_num, by rw [HF.out]; exact HO.out, HP.out⟩
        case measure => simp [intOf]; omega
    · obtain rfl : k = zs.length := by omega
      go_wp2
      go_ret
      exact ⟨_, rfl, by omega, HO.out, HX0.out.below.trans (HP.out.below (by omega) (by omega))⟩

set_option maxRecDepth 100000 in
set_option maxHeartbeats 4000000 in
theorem countsOf_impl (A : Option Addr) (c lo hi : Nat) (zs : List Int) (M : Nat) (w : World) (hS : Ins w lo hi A zs) (hst : isSt zs (M : Int) = true) :
    Calls Try.prog 18 #[.agg #[.slice A zs.length c, .int .i64 (M : Int)]] w fun e w' => ∃ g, e = .returned (.tuple #[.slice (some ⟨g, 0, none⟩) (M + 1) (M + 1), .bool true]) ∧ w.heap.size ≤ g ∧ w'.heap[g]? = some (.cells ((cntTo zs (M + 1) zs.length).map (Value.int .i64)).toArray 3 (0, 0)) ∧ Below w.heap.size w w' := by
  have hl := isSt_len hst
  have hn12 : zs.length ≤ 12 := hl.2.1
  have hM : M ≤ 2 := by omega
  have hmk := makeInts1 M (by omega)
  have hh := hS.top
  have HA := Lib.hid (fun k (h : k < zs.length) => isSt_at hst h)
  have HX0 := Lib.hid (Arg.next (Below.refl w.heap.size w) (.slice A zs.length c) (.int .i64 (M : Int)) 26 w.heap.size rfl)
  have HI0 := Lib.hid (hS.step HX0.out.below)
  have HC := Lib.hid (fun W h => isState_impl A c lo hi zs (M : Int) W h (by omega))
  rw [hst] at HC
  have h0c := HX0.out.c0
  have h1c := HX0.out.c1
  clear hS hst hl
  go_enter Try.func18, Try.ntmps18
  go_wp2_with fail
  generalize w.alloc (.cells #[.slice A zs.length c, .int .i64 (M : Int)] 26) = wa at HX0 HI0 h0c h1c ⊢
  refine (HC.out wa HI0.out).mono ?_
  rintro e wb ⟨rfl, hb⟩
  have HX := Lib.hid (HX0.out.step hb)
  have HI := Lib.hid (HI0.out.step hb)
  clear hb HX0 HI0 HC h0c h1c
  have hsb : w.heap.size + 1 ≤ wb.heap.size := HX.out.hi
  have h0 := HX.out.c0
  have h1 := HX.out.c1
  have h0' := (HX.out.step ((Below.refl _ _).alloc (Nat.le_refl _) (.cells (Array.replicate (M + 1) (Value.int .i64 0)) 3))).c0
  go_wp2_with fail
  clear hmk h0' h0 h1
  go_loopw [18] (fun i wr => ∃ (k : Nat), k ≤ zs.length ∧ i = .int .i64 k ∧ Hid (wr.heap[wb.heap.size]? = some (.cells ((cntTo zs (M + 1) k).map (Value.int .i64)).toArray 3 (0, 0))) ∧ Hid (Past wb.heap.size wb wr)) (fun i _ => zs.length - (intOf i).toNat)
  case atStart => exact ⟨0, Nat.zero_le _, rfl, Lib.hid (by rw [cntTo_nil]; exact alloc_row wb _ _), Past.of_below ((Below.refl _ _).alloc (Nat.le_refl _) _)⟩
  case round =>
    obtain ⟨k, hk, rfl, HO, HP⟩ := hrel
    by_cases hlt : k < zs.length
    · obtain ⟨b, o, rfl, _, hb, hc⟩ := (HI.out.past HP.out (by omega)).ints.at_ hlt
      have hgd := getD_at hlt
      have hat := HA.out k hlt
      have HL := Lib.hid (cntTo_len zs (M + 1) k)
      have HD := Lib.hid (cntTo_bd zs (M + 1) k)
      by_cases hx : 0 ≤ zs[k]
      · have HF : Hid (cntTo zs (M + 1) (k + 1) = (cntTo zs (M + 1) k).set zs[k].toNat ((cntTo zs (M + 1) k).getD zs[k].toNat 0 + 1)) := by
          show cntStep _ _ = _
          rw [hgd]
          exact if_pos hx
        obtain ⟨i, hi⟩ : ∃ i : Nat, zs[k] = (i : Int) := ⟨zs[k].toNat, by omega⟩
        rw [hi] at hc hat HF
        rw [Int.toNat_natCast] at HF
        clear hx hi hgd
        have hiM : i < M + 1 := by omega
        have hne : ¬ (i : Int) = -1 := by omega
        have hbd := getD_bd HD.out (by omega) i
        have hrow := HO.out
        have hcell := getD_cell hrow (i := i) (by rw [HL.out]; exact hiM)
        have hfr := row_freeI hrow i
        have HO2 := Lib.hid (row_setI hrow i (.int .i64 ((cntTo zs (M + 1) k).getD i 0 + 1)))
        rw [map_set] at HO2
        have HP2 := Lib.hid (HP.out.trans (Past.of_within (within_set (Within.refl wb.heap.size (wb.heap.size + 1) wr) (g := wb.heap.size) (Nat.le_refl _) (by omega) i (.int .i64 ((cntTo zs (M + 1) k).getD i 0 + 1))) (Nat.le_refl _)))
        clear hrow HL HD
        generalize (cntTo zs (M + 1) k).getD i 0 = z at hcell hbd HF HO2 HP2
        go_wp2
        go_roundw
        case rel => exact ⟨k + 1, by omega, by go_num, by rw [HF.out]; exact HO2.out, HP2.out⟩
        case measure => simp [intOf]; omega
      · have HF : Hid (cntTo zs (M + 1) (k + 1) = cntTo zs (M + 1) k) := by
          show cntStep _ _ = _
          rw [hgd]
          exact if_neg hx
        have hne : zs[k] = -1 := by omega
        rw [hne] at hc
        clear hgd
        go_wp2
        go_roundw
        case rel => exact ⟨k + 1, by omega, by go_num, by rw [HF.out]; exact HO.out, HP.out⟩
        case measure => simp [intOf]; omega
    · obtain rfl : k = zs.length := by omega
      go_wp2
      go_ret2
      exact ⟨_, rfl, by omega, HO.out, HX.out.below.trans (HP.out.below (by omega) (by omega))⟩
theorem cnt_ans {w w' : World} {g M : Nat} {l : List Int} {e : Ending} (hl : l.length = M + 1) (he : e = .returned (.tuple #[.slice (some ⟨g, 0, none⟩) (M + 1) (M + 1), .bool true])) (hg : w.heap.size ≤ g) (hr : w'.heap[g]? = some (.cells (l.map (Value.int .i64)).toArray 3 (0, 0))) (hb : Below w.heap.size w w') :
    ∃ B c', e = .returned (.tuple #[.slice B l.length c', .bool true]) ∧ Res w' w.heap.size w'.heap.size B l ∧ Below w.heap.size w w' :=
  ⟨_, M + 1, by rw [he, hl], ⟨.inr ⟨g, _, rfl, hg, row_ltI hr, hr, by simp, fun j x hx => by simp [hx]⟩, Nat.le_refl _⟩, hb⟩
end Go.Proofs.Ythpnkeecpaflfaa
