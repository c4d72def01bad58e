/- True words of all numbers: a slice of arrays, and a slice of numbers. -/
import Derived.Test.YtlhpbhmldcinmaaTrue
import Derived.Test.YtlhpbhmldcinmaaOpenN
namespace Go.Proofs.Ytlhpbhmldcinmaa
open Go.RowKit Go.ChangeShapes Go.WideShapes
set_option linter.unusedVariables false

/-- A row of n words. -/
def wrow (f : Nat → Nat) (n : Nat) : Array Value := ((List.range (n * 14)).map fun j => Value.bool ((f (j / 14)).testBit (j % 14))).toArray
theorem wrow_size (f : Nat → Nat) (n : Nat) : (wrow f n).size = n * 14 := by simp [wrow]
theorem wrow_get (f : Nat → Nat) {n j : Nat} (h : j < n * 14) : (wrow f n)[j]? = some (.bool ((f (j / 14)).testBit (j % 14))) := by simp [wrow, h]
theorem wrow_at (f : Nat → Nat) {n k i : Nat} (hk : k < n) (hi : i < 14) : (wrow f n)[k * 14 + i]? = some (.bool ((f k).testBit i)) := by
  rw [wrow_get f (by omega), show (k * 14 + i) / 14 = k by omega, show (k * 14 + i) % 14 = i by omega]
theorem wrow_ext {f g : Nat → Nat} {n : Nat} (h : ∀ k, k < n → f k = g k) : wrow f n = wrow g n := by
  unfold wrow
  congr 1
  exact List.map_congr_left fun j hj => by rw [h (j / 14) (by have := List.mem_range.1 hj; omega)]
theorem wrow_put (f : Nat → Nat) {n k : Nat} (v : Nat) (h : k < n) :
    ((wrow f n).toList.take (k * 14 + 0) ++ (bwv v.testBit).toList ++ (wrow f n).toList.drop (k * 14 + 0 + (bwv v.testBit).toList.length)).toArray = wrow (fun i => if i = k then v else f i) n := by
  have hs : (bwv v.testBit).toList.length = 14 := by simp [bwv_size]
  have hw : (wrow f n).toList.length = n * 14 := by simp [wrow_size]
  apply Array.ext_getElem?
  intro j
  rw [List.getElem?_toArray]
  by_cases h1 : j < k * 14
  · rw [List.append_assoc, List.getElem?_append_left (by simp [hw]; omega), List.getElem?_take_of_lt (by omega), Array.getElem?_toList, wrow_get f (by omega), wrow_get _ (by omega), if_neg (by omega)]
  · by_cases h2 : j < k * 14 + 14
    · rw [List.getElem?_append_left (by simp [hw, hs]; omega), List.getElem?_append_right (by simp [hw]; omega), Array.getElem?_toList, List.length_take, hw, show j - min (k * 14 + 0) (n * 14) = j - k * 14 by omega, bwv_at _ (by omega), wrow_get _ (by omega), if_pos (by omega), show j % 14 = j - k * 14 by omega]
    · rw [List.getElem?_append_right (by simp [hw, hs]; omega), List.getElem?_drop]
      rw [show (List.take (k * 14 + 0) (wrow f n).toList ++ (bwv v.testBit).toList).length = k * 14 + 14 by simp [hw, hs]; omega, hs, Array.getElem?_toList, show k * 14 + 0 + 14 + (j - (k * 14 + 14)) = j by omega]
      by_cases h3 : j < n * 14
      · rw [wrow_get f h3, wrow_get _ h3, if_neg (by omega)]
      · rw [Array.getElem?_eq_none (by rw [wrow_size]; omega), Array.getElem?_eq_none (by rw [wrow_size]; omega)]

/-- Words that lie in a block. -/
structure Wds (w : World) (b : Nat) (f : Nat → Nat) (n : Nat) : Prop where
  row : w.heap[b]? = some (.cells (wrow f n) 102 (0, 0))
theorem Wds.lt {w : World} {b n : Nat} {f : Nat → Nat} (h : Wds w b f n) : b < w.heap.size := row_ltI h.row
theorem Wds.below {w w' : World} {b B n : Nat} {f : Nat → Nat} (h : Wds w b f n) (hb : Below B w w') (hl : b < B) : Wds w' b f n := ⟨(hb.block b hl).trans h.row⟩
theorem Wds.step {w w' : World} {b n : Nat} {f : Nat → Nat} (h : Wds w b f n) (hb : Below w.heap.size w w') : Wds w' b f n := h.below hb h.lt
theorem Wds.past {w w' : World} {b B n : Nat} {f : Nat → Nat} (h : Wds w b f n) (hb : Past B w w') (hl : b < B) : Wds w' b f n := ⟨(hb.block b h.lt hl).trans h.row⟩
theorem Wds.put {w : World} {b n k : Nat} {f : Nat → Nat} (h : Wds w b f n) (v : Nat) (hk : k < n) : Wds (w.setRow b (wrow (fun i => if i = k then v else f i) n)) b (fun i => if i = k then v else f i) n := ⟨setRow_heap w b _ _ _ _ h.row⟩
theorem Wds.put_far {w : World} {b g n : Nat} {f : Nat → Nat} (h : Wds w b f n) (hne : b ≠ g) (xs : Array Value) : Wds (w.setRow g xs) b f n := ⟨(setRow_other w g b xs hne).trans h.row⟩
theorem Wds.ext {w : World} {b n : Nat} {f g : Nat → Nat} (h : Wds w b f n) (e : ∀ k, k < n → f k = g k) : Wds w b g n := ⟨by rw [← wrow_ext e]; exact h.row⟩
theorem size_word : ∀ w : World, (sizeOf 102).run Try.prog w = .ok 14 w := fun w => by
  have h := info_word
  cases hq : Try.prog.info? 102 with
  | none => rw [hq] at h; cases h
  | some i => rw [hq] at h; simp at h; simp [sizeOf, typeInfo, hq, h]
theorem isAgg_word : ∀ w : World, (isAgg 102).run Try.prog w = .ok true w := fun w => by
  unfold isAgg
  rw [Sem.run_bind, run_underlying under_word w]
  rfl
theorem run_load14at {w : World} {b n k : Nat} {f : Nat → Nat} (h : Wds w b f n) (hk : k < n) : (loadVar 102 ⟨b, k * 14, none⟩).run Try.prog w = .ok (.agg (bwv (f k).testBit)) w := by
  have hl : (loadCells ⟨b, k * 14, none⟩ (bwv (f k).testBit).toList.length).run Try.prog w = .ok (bwv (f k).testBit).toList.toArray w :=
    run_loadCells_list (P := Try.prog) w ⟨b, k * 14, none⟩ (bwv (f k).testBit).toList (fun j v hv => by
      have hj : j < 14 := by
        rcases Nat.lt_or_ge j 14 with h1 | h1
        · exact h1
        · rw [List.getElem?_eq_none (by simp [bwv_size]; omega)] at hv; cases hv
      have hadd : (⟨b, k * 14, none⟩ : Addr).add j = ⟨b, k * 14 + j, none⟩ := by unfold Addr.add; split <;> simp_all
      rw [Array.getElem?_toList, bwv_at _ hj] at hv
      rw [hadd, row_cellI h.row, wrow_at f hk hj, hv])
  simp only [Array.length_toList, Array.toArray_toList, bwv_size] at hl
  simp [loadVar, Sem.run_bind, hl]
theorem wpList_load14at {ops : Array Oper} {rest : List Oper} {o : Oper} {a : Act} {w : World} {Q : Exit → Act → World → Prop} (hgd : o.guard = none) (x : Operand) (ho : o.op = .load 102 x)
    (b n k : Nat) (f : Nat → Nat) (hx : a.eval x = .pointer (some ⟨b, k * 14, none⟩)) (h : Wds w b f n) (hk : k < n)
    (hK : wpList Try.prog ops Q rest (a.put o.dst (.agg (bwv (f k).testBit))) w) : wpList Try.prog ops Q (o :: rest) a w := by
  refine wpList_plain hgd fun K' hK' => ?_
  unfold Oper.wp execOp
  simp only [ho, hx, Instr.loadAt, Instr.sureAddr, Sem.run_bind, Sem.run_pure, Result.andThen_ok, run_load14at h hk]
  exact hK' _ _ hK
theorem run_store14at {w : World} {b n k : Nat} {f : Nat → Nat} (h : Wds w b f n) (v : Nat) (hk : k < n) : (storeVar 102 ⟨b, k * 14, none⟩ (.agg (bwv v.testBit))).run Try.prog w = .ok () (w.setRow b (wrow (fun i => if i = k then v else f i) n)) := by
  have h1 := run_storeCells_at (P := Try.prog) b (k * 14) 102 (bwv v.testBit).toList 0 (wrow f n) w h.row (by simp [bwv_size, wrow_size]; omega) (fun v hv => (Array.all_eq_true_iff_forall_mem.1 (bwv_one _)) v (by simpa using hv))
  rw [wrow_put f v hk] at h1
  simp [storeVar, Value.cells, bwv_size, h1]
theorem wpList_store14at {ops : Array Oper} {rest : List Oper} {o : Oper} {a : Act} {w : World} {Q : Exit → Act → World → Prop} (hgd : o.guard = none) (x y : Operand) (ho : o.op = .store 102 x y)
    (b n k v : Nat) (f : Nat → Nat) (hx : a.eval x = .pointer (some ⟨b, k * 14, none⟩)) (hy : a.eval y = .agg (bwv v.testBit)) (h : Wds w b f n) (hk : k < n)
    (hK : wpList Try.prog ops Q rest (a.put o.dst undef) (w.setRow b (wrow (fun i => if i = k then v else f i) n))) : wpList Try.prog ops Q (o :: rest) a w := by
  refine wpList_plain hgd fun K' hK' => ?_
  unfold Oper.wp execOp
  simp only [ho, hx, hy, Instr.storeAt, Instr.sureAddr, Sem.run_bind, Sem.run_pure, Result.andThen_ok, run_store14at h v hk]
  exact hK' _ _ hK
theorem infoW : (Try.prog.info? 102).map (fun i => (i.zero, i.size, i.bytes)) = some (some (.agg #[.bool false, .bool false, .bool false, .bool false, .bool false, .bool false, .bool false, .bool false, .bool false, .bool false, .bool false, .bool false, .bool false, .bool false]), 14, 14) := by kernel_rfl
theorem rep14 {m : Nat} (h : m < 14) : ([Value.bool false, .bool false, .bool false, .bool false, .bool false, .bool false, .bool false, .bool false, .bool false, .bool false, .bool false, .bool false, .bool false, .bool false] : List Value)[m]?.getD default = .bool false := by
  have e : ([Value.bool false, .bool false, .bool false, .bool false, .bool false, .bool false, .bool false, .bool false, .bool false, .bool false, .bool false, .bool false, .bool false, .bool false] : List Value) = List.replicate 14 (.bool false) := rfl
  rw [e, List.getElem?_replicate, if_pos h]
  rfl
theorem makeWords (n : Nat) (h : n ≤ 1048576) (w : World) :
    (Instr.makeSlice 105 (.int .i64 (n : Int)) (.int .i64 (n : Int))).run Try.prog w = .ok (.slice (some ⟨w.heap.size, 0, none⟩) n n) (w.alloc (.cells (wrow (fun _ => 0) n) 102)) := by
  obtain ⟨i, hi, hz, hs, hb⟩ := info_parts infoW
  have h1 := run_make (P := Try.prog) w 105 102 i _ Try.underlying105 hi hz .i64 .i64 (n : Int) (n : Int) (by omega) (by omega) (by rw [hb]; omega) (by omega)
  rw [h1]
  have e : madeCells (Value.agg #[.bool false, .bool false, .bool false, .bool false, .bool false, .bool false, .bool false, .bool false, .bool false, .bool false, .bool false, .bool false, .bool false, .bool false]).cells ((n : Int).toNat * i.size) = wrow (fun _ => 0) n := by
    rw [hs, Int.toNat_natCast]
    apply Array.ext_getElem?
    intro j
    by_cases hj : j < n * 14
    · rw [wrow_get _ hj]
      have hm : j % 14 < 14 := Nat.mod_lt _ (by omega)
      simp only [madeCells, Value.cells]
      rw [Array.getElem?_map, Array.getElem?_range, if_pos hj]
      simp
      exact rep14 hm
    · rw [Array.getElem?_eq_none (by rw [size_madeCells]; omega), Array.getElem?_eq_none (by rw [wrow_size]; omega)]
  rw [e, Int.toNat_natCast]

set_option maxRecDepth 100000 in
set_option maxHeartbeats 2000000 in
theorem allTrue_any (A : Option Addr) (c lo hi : Nat) (qs : List Int) (n : Nat) (w : World) (hS : Ins w lo hi A qs) (hl : qs.length ≤ 14) (hn : n ≤ 12) :
    Calls Try.prog 109 #[.int .i64 (n : Int), .slice A qs.length c] w fun e w' => e = .returned (.slice (some ⟨w.heap.size, 0, none⟩) n n) ∧ Wds w' w.heap.size (twN qs) n ∧ Below w.heap.size w w' := by
  have hmk := makeWords n (by omega)
  have HI := Lib.hid hS
  have htop := hS.top
  have HT := Lib.hid (fun k (hk : k ≤ 12) W h => trueAnswers_any A c lo hi qs k W h hl hk)
  have HW0 : Hid (Wds (w.alloc (.cells (wrow (fun _ => 0) n) 102)) w.heap.size (fun _ => 0) n) := Lib.hid ⟨alloc_row' _ _ _ _ rfl⟩
  have HB0 := Lib.hid ((Below.refl w.heap.size w).alloc (Nat.le_refl _) (.cells (wrow (fun _ => 0) n) 102))
  clear hS
  go_enter Try.func109, Try.ntmps109
  go_wp2_with fail
  clear hmk
  generalize w.alloc (.cells (wrow (fun _ => 0) n) 102) = wa at HW0 HB0 ⊢
  go_loopw [11] (fun i wr => ∃ (k : Nat), k ≤ n ∧ i = .int .i64 k ∧ Hid (Wds wr w.heap.size (fun i => if i < k then twN qs i else 0) n) ∧ Hid (Below w.heap.size w wr)) (fun i _ => n - (intOf i).toNat)
  case atStart => exact ⟨0, Nat.zero_le _, rfl, Lib.hid (HW0.out.ext fun i _ => by simp), HB0⟩
  case round =>
    clear HW0 HB0
    obtain ⟨k, hk, rfl, HW, HB⟩ := hrel
    by_cases hlt : k < n
    · have HTk := Lib.hid (HT.out k (by omega))
      have HI2 := Lib.hid (HI.out.step (HB.out.mono (Nat.le_refl _)))
      go_wp2_with fail
      refine (HTk.out _ HI2.out).mono ?_
      rintro e w1 ⟨rfl, hb⟩
      have HW1 := Lib.hid (HW.out.step hb)
      have HB1 := Lib.hid (below_trans HB.out hb)
      have HW2 := Lib.hid ((HW1.out.put (twN qs k) hlt).ext (g := fun i => if i < k + 1 then twN qs i else 0) (fun i hi => by
        by_cases e : i = k
        · subst e; simp
        · simp [e, show (i < k + 1) = (i < k) by rw [eq_iff_iff]; omega]))
      have HB2 := Lib.hid (below_setRow HB1.out (g := w.heap.size) (Nat.le_refl _) (wrow (fun i => if i = k then twN qs k else if i < k then twN qs i else 0) n))
      clear hb HB HW HI2 HTk HT
      go_wp2_with (with_reducible refine wpList_store14at rfl (.tmp 19) (.tmp 18) rfl w.heap.size n k (twN qs k) (fun i => if i < k then twN qs i else 0) rfl rfl HW1.out hlt ?_)
      go_roundw
      case rel => exact ⟨k + 1, by omega, by go_num, HW2, HB2⟩
      case measure => simp [intOf]; omega
    · obtain rfl : k = n := by omega
      have HW2 := Lib.hid (HW.out.ext (g := twN qs) (fun i hi => by simp [hi]))
      go_wp2
      go_ret
      exact ⟨rfl, HW2.out, HB.out⟩

set_option maxRecDepth 100000 in
set_option maxHeartbeats 2000000 in
theorem l5Words_any (A : Option Addr) (c lo hi : Nat) (qs : List Int) (n : Nat) (w : World) (hS : Ins w lo hi A qs) (hl : qs.length ≤ 14) (hn : n ≤ 12) :
    Calls Try.prog 81 #[.int .i64 (n : Int), .slice A qs.length c] w fun e w' => ∃ v, e = .returned v ∧ w'.ownsRow w.heap.size 3 1 v ((twL qs n).map Int.ofNat).length (((twL qs n).map Int.ofNat).map (Value.int .i64)) ∧ Below w.heap.size w w' := by
  obtain ⟨i0, hi0, hz0, hz1, hz2⟩ := info_parts infoI3
  have HI := Lib.hid hS
  have htop := hS.top
  have HT := Lib.hid (fun k (hk : k ≤ 12) W h => l5True_any A c lo hi qs k W h hl hk)
  have O0 := Lib.hid (O0_any w w.heap.size (Nat.le_refl _))
  clear hS
  go_enter Try.func81, Try.ntmps81
  go_wp2_with fail
  go_loopw [5, 6] (fun out i wr => ∃ (k : Nat), k ≤ n ∧ i = .int .i64 k ∧ Hid (wr.ownsRow w.heap.size 3 1 out ((twL qs k).map Int.ofNat).length (((twL qs k).map Int.ofNat).map (Value.int .i64))) ∧ Hid (Past w.heap.size w wr)) (fun _ i _ => n - (intOf i).toNat)
  case atStart => exact ⟨0, Nat.zero_le _, rfl, (by first | exact O0.out | exact O0), Past.of_below ((Below.refl _ _).alloc (Nat.le_refl _) _)⟩
  case round =>
    obtain ⟨k, hk, rfl, HO, HP⟩ := hrel
    have hsz := HP.out.size
    by_cases hlt : k < n
    · have HTk := Lib.hid (HT.out k (by omega))
      have HI2 := Lib.hid (HI.out.past HP.out htop)
      have hfl : ((twL qs k).map Int.ofNat).length = k := by simp [twL_len]
      have HF : Hid ((twL qs (k + 1)).map Int.ofNat = (twL qs k).map Int.ofNat ++ [(twN qs k : Int)]) := Lib.hid (by rw [twL_succ, List.map_append]; rfl)
      have hbd := twN_14 hl k
      generalize (twL qs k).map Int.ofNat = f at HO HF hfl
      generalize twN qs k = v at HTk HF hbd
      have hbd2 : v < 16384 := hbd
      have hown := HO.out
      go_wp2_with (first | (go_at_call 102; refine (HTk.out _ HI2.out).mono ?_; rintro e w1 ⟨rfl, rfl⟩) | (at_builtin; refine wpList_append_own _ rfl _ _ 53 rfl w.heap.size 3 i0 (.int .i64 0) 1 8 Try.underlying53 hi0 hz0 hz1 hz2 rfl (by decide) _ _ _ rfl (hown.alloc _) ⟨_, 0, none⟩ 1 1 [.int .i64 (v : Int)] rfl rfl (cell_one_new _ _ _) (by simp [Value.oneCell']) (by unfold maxLen; omega) (by omega) (by simp; omega) ?_; intro v' w1 hown' hgrow _))
      have HO2 := Lib.hid (own_snocI hown' rfl)
      have HP2 := Lib.hid (HP.out.trans (Past.grown hown hgrow))
      clear hown' hgrow hown HO
      go_wp2
      go_roundw
      case rel => exact ⟨k + 1, by omega, by go_num, by rw [HF.out]; exact HO2.out, HP2.out⟩
      case measure => simp [intOf]; omega
    · obtain rfl : k = n := by omega
      go_wp2
      go_ret
      exact ⟨_, rfl, HO.out, HP.out.below (Nat.le_refl _) (Nat.le_refl _)⟩
end Go.Proofs.Ytlhpbhmldcinmaa
