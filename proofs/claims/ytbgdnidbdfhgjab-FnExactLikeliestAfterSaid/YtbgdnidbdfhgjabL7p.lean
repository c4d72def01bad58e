/- ChancesAfter, of the program. -/
import Derived.Test.YtbgdnidbdfhgjabL7j
import Derived.Test.YtbgdnidbdfhgjabPrM
namespace Go.Proofs.Ytbgdnidbdfhgjab
open Go.RowKit Go.ChangeShapes Go.WideShapes Go.Maps
set_option linter.unusedVariables false

theorem cellsP_set : ∀ (l : List (Int × Int)) (k : Nat) (x : Int × Int), k < l.length → ((cellsP l).set (k * 2) (.int .i64 x.1)).set (k * 2 + 1) (.int .i64 x.2) = cellsP (l.set k x)
  | [], k, x, h => by simp at h
  | y :: r, 0, x, h => rfl
  | y :: r, k + 1, x, h => by
    have ih := cellsP_set r k x (by simpa using h)
    have e : (k + 1) * 2 = k * 2 + 1 + 1 := by omega
    rw [e]
    show Value.int .i64 y.1 :: Value.int .i64 y.2 :: ((cellsP r).set (k * 2) _).set (k * 2 + 1) _ = _
    rw [ih]
    rfl
theorem infoP : (Try.prog.info? 85).map (fun i => (i.zero, i.size, i.bytes)) = some (some (.agg #[.int .i64 0, .int .i64 0]), 2, 16) := by kernel_rfl
theorem makePairs (n : Nat) (h : n ≤ 1048576) (w : World) :
    (Instr.makeSlice 26 (.int .i64 (n : Int)) (.int .i64 (n : Int))).run Try.prog w = .ok (.slice (some ⟨w.heap.size, 0, none⟩) n n) (w.alloc (.cells (madeCells (Value.agg #[.int .i64 0, .int .i64 0]).cells (n * 2)) 85)) := by
  obtain ⟨i, hi, hz, hs, hb⟩ := info_parts infoP
  have h1 := run_make (P := Try.prog) w 26 85 i _ Try.underlying26 hi hz .i64 .i64 (n : Int) (n : Int) (by omega) (by omega) (by rw [hb]; omega) (by omega)
  rw [h1, hs, Int.toNat_natCast]
theorem madeP (n : Nat) : madeCells (Value.agg #[.int .i64 0, .int .i64 0]).cells (n * 2) = (cellsP (List.replicate n ((0 : Int), (0 : Int)))).toArray := by
  apply Array.ext
  · rw [size_madeCells, List.size_toArray, cellsP_len, List.length_replicate]
  · intro i h1 h2
    rw [size_madeCells] at h1
    have e : (cellsP (List.replicate n ((0 : Int), (0 : Int))))[i]? = some (Value.int .i64 0) := by
      have hj := cellsP_at (List.replicate n ((0 : Int), (0 : Int))) (i / 2) (0, 0) (by rw [List.getElem?_replicate, if_pos (by omega)])
      by_cases h : i % 2 = 0
      · rw [← hj.1, show i / 2 * 2 = i by omega]
      · rw [← hj.2, show i / 2 * 2 + 1 = i by omega]
    have e2 : (cellsP (List.replicate n ((0 : Int), (0 : Int)))).toArray[i] = Value.int .i64 0 := by
      rw [List.getElem_toArray]
      rw [List.getElem?_eq_getElem (by simpa using h2)] at e
      injection e
    rw [e2]
    simp only [madeCells, Array.getElem_map, Array.getElem_range]
    show (#[Value.int .i64 0, Value.int .i64 0] : Array Value)[i % 2]! = _
    by_cases h : i % 2 = 0
    · rw [h]; rfl
    · rw [show i % 2 = 1 by omega]; rfl
def rowPr (l : List (Int × Int)) (k : Nat) : List (Int × Int) := l.take k ++ List.replicate (l.length - k) (0, 0)
theorem rowPr_len (l : List (Int × Int)) {k : Nat} (h : k ≤ l.length) : (rowPr l k).length = l.length := by simp [rowPr]; omega
theorem rowPr_set {l : List (Int × Int)} {k : Nat} (h : k < l.length) : (rowPr l k).set k l[k] = rowPr l (k + 1) := by
  unfold rowPr
  have hl : (l.take k).length = k := by simp; omega
  have e1 : l.length - k = (l.length - (k + 1)) + 1 := by omega
  have e2 : l.take (k + 1) = l.take k ++ [l[k]] := List.take_succ_eq_append_getElem h
  rw [e2, e1, List.replicate_succ, List.set_append_right _ _ (by omega), hl, Nat.sub_self, List.set_cons_zero, List.append_assoc]
  rfl
theorem rowPr_full (l : List (Int × Int)) : rowPr l l.length = l := by simp [rowPr]
theorem rowPr_nil (l : List (Int × Int)) : rowPr l 0 = List.replicate l.length (0, 0) := by simp [rowPr]

/-- The chance of each number behind the answers, in lowest terms. -/
def chP (a b : Nat) (l : List (Int × Bool)) (n : Nat) : List (Int × Int) := (List.range n).map fun k => (((fr1 (g7 a b l k) (sumF (g7 a b l) n) : Nat) : Int), ((fr2 (g7 a b l k) (sumF (g7 a b l) n) : Nat) : Int))
theorem chP_len (a b : Nat) (l : List (Int × Bool)) (n : Nat) : (chP a b l n).length = n := by simp [chP]
theorem chP_at (a b : Nat) (l : List (Int × Bool)) {n k : Nat} (h : k < (chP a b l n).length) : (chP a b l n)[k] = (((fr1 (g7 a b l k) (sumF (g7 a b l) n) : Nat) : Int), ((fr2 (g7 a b l k) (sumF (g7 a b l) n) : Nat) : Int)) := by simp [chP]

set_option maxRecDepth 100000 in
set_option maxHeartbeats 4000000 in
theorem chancesAfter_impl (n a b : Nat) (A : Option Addr) (c lo hi : Nat) (l : List (Int × Bool)) (w : World) (hS : AIns w lo hi A l) (hg : Given n a b l) (hpos : 0 < sumF (g7 a b l) n) :
    Calls Try.prog 12 #[.int .i64 (n : Int), .slice A l.length c, .agg #[.int .i64 (a : Int), .int .i64 (b : Int)]] w fun e w' => ∃ B d, e = .returned (.tuple #[.slice B (chP a b l n).length d, .bool true]) ∧ PMade w' w.heap.size w'.heap.size B (chP a b l n) ∧ Below w.heap.size w w' := by
  have HT := Lib.hid (Two.new w (.int .i64 (a : Int)) (.int .i64 (b : Int)) 31 (w.heap.size) rfl)
  have HB := Lib.hid ((Below.refl w.heap.size w).alloc (Nat.le_refl _) (.cells #[.int .i64 (a : Int), .int .i64 (b : Int)] 31))
  have HI := Lib.hid (hS.step HB.out)
  have HD := Lib.hid (fun W h => drawsAfter_impl n a b A c lo hi l W h hg)
  rw [show decide (0 < sumF (g7 a b l) n) = true from decide_eq_true hpos] at HD
  have HC := Lib.hid (fun (W : World) (g : Nat) (k : Nat) (hk : k < n) (hI : Ins W g (g + 1) (some ⟨g, 0, none⟩) (zsN (g7 a b l) n)) => sum_pow (g7 a b l) hk (by have := hg.n12; omega) ▸ chanceOf_any (some ⟨g, 0, none⟩) n g (g + 1) (g7 a b l) n (2 ^ k) W hI (by have := hg.n12; omega) (fun i _ => hg.bd i) hpos)
  have HA := Lib.hid (fun k h => chP_at a b l (n := n) (k := k) h)
  have HL := Lib.hid (chP_len a b l n)
  have hn12 := hg.n12
  have hmk := makePairs n (by omega)
  have hRW : madeCells (Value.agg #[.int .i64 0, .int .i64 0]).cells (n * 2) = (cellsP (rowPr (chP a b l n) 0)).toArray := by rw [madeP, rowPr_nil, HL.out]
  generalize madeCells (Value.agg #[.int .i64 0, .int .i64 0]).cells (n * 2) = RW at hmk hRW
  have HRW := Lib.hid hRW
  generalize chP a b l n = L at HA HL HRW ⊢
  clear hS hg hRW
  go_enter Try.func12, Try.ntmps12
  go_wp2_with fail
  generalize w.alloc (.cells #[.int .i64 (a : Int), .int .i64 (b : Int)] 31) = w0 at HT HB HI ⊢
  have h0 := HT.out.c0
  have h1 := HT.out.c1
  with_reducible refine (HD.out _ HI.out).mono ?_
  rintro e w1 ⟨g, rfl, hgl, hrow, hb⟩
  replace HB := Lib.hid (below_trans HB.out hb)
  have HW := Lib.hid (row_ins70 hrow)
  have hb1 := (Below.refl w1.heap.size w1).alloc (Nat.le_refl _) (.cells RW 85)
  have HR := Lib.hid (alloc_row' w1 RW 85 w1.heap.size rfl)
  rw [HRW.out] at HR
  have hgw := HW.out.top
  have hsz := HB.out.size
  clear hrow hb h0 h1 HD HI HT
  go_wp2_with fail
  replace HW := Lib.hid (HW.out.step hb1)
  replace HB := Lib.hid (below_trans HB.out hb1)
  rw [← HRW.out] at HR
  generalize w1.alloc (.cells RW 85) = w2 at HR HW HB ⊢
  rw [HRW.out] at HR
  generalize w1.heap.size = gr at HR hgw hsz ⊢
  clear hmk hb1 HRW
  go_loopw [26] (fun i wr => ∃ k : Nat, k ≤ n ∧ i = .int .i64 (k : Int) ∧ Hid (wr.heap[gr]? = some (.cells (cellsP (rowPr L k)).toArray 85 (0, 0))) ∧ Hid (Ins wr g (g + 1) (some ⟨g, 0, none⟩) (zsN (g7 a b l) n)) ∧ Hid (Below w.heap.size w wr)) (fun i _ => n - (intOf i).toNat)
  case atStart => exact ⟨0, by omega, rfl, HR, HW, HB⟩
  case round =>
    clear HR HW HB
    obtain ⟨k, hk, rfl, HR, HW, HB⟩ := hrel
    rename World => wr
    by_cases hlt : k < n
    · have hp2 := pow13 k (by omega)
      have hwp : IntKind.i64.wrap ((2 : Int) ^ k) = 2 ^ k := IntWalk.i64_in _ (by omega)
      have hkl : k < L.length := by rw [HL.out]; exact hlt
      have hat := HA.out k hkl
      have HF := Lib.hid (rowPr_set hkl)
      have HRL := Lib.hid (rowPr_len L (Nat.le_of_lt hkl))
      have HC2 := Lib.hid (fun W h => HC.out W g k hlt h)
      rw [hat] at HF
      generalize fr1 (g7 a b l k) (sumF (g7 a b l) n) = X at HF HC2
      generalize fr2 (g7 a b l k) (sumF (g7 a b l) n) = Y at HF HC2
      clear hat
      have HKL := Lib.hid hkl
      clear hkl
      go_wp2_with fail
      refine (HC2.out _ HW.out).mono ?_
      rintro e w3 ⟨rfl, hb⟩
      have hr3 := (hb.block gr (row_ltI HR.out)).trans HR.out
      have HW3 := Lib.hid (HW.out.step hb)
      have HB3 := Lib.hid (below_trans HB.out hb)
      clear hb HR HW HB HC2
      have hlen : (cellsP (rowPr L k)).length = L.length * 2 := by rw [cellsP_len, HRL.out]
      have hkl := HKL.out
      obtain ⟨u0, hu0⟩ : ∃ u, w3.cell? ⟨gr, k * 2, none⟩ = some u := by
        rw [row_cellI hr3]
        exact ⟨_, Array.getElem?_eq_getElem (by rw [List.size_toArray]; omega)⟩
      obtain ⟨u1, hu1⟩ : ∃ u, w3.cell? ⟨gr, k * 2 + 1, none⟩ = some u := by
        rw [row_cellI hr3]
        exact ⟨_, Array.getElem?_eq_getElem (by rw [List.size_toArray]; omega)⟩
      have hf0 := row_freeI hr3 (k * 2)
      have hf1 := row_freeI hr3 (k * 2 + 1)
      have hset := row_setI (row_setI hr3 (k * 2) (.int .i64 (X : Int))) (k * 2 + 1) (.int .i64 (Y : Int))
      rw [List.setIfInBounds_toArray, List.setIfInBounds_toArray, cellsP_set (rowPr L k) k ((X : Int), (Y : Int)) (by rw [HRL.out]; exact hkl), HF.out] at hset
      have HR2 := Lib.hid hset
      have HW2 := Lib.hid (within_set (within_set (Within.refl gr (gr + 1) w3) (Nat.le_refl gr) (Nat.lt_succ_self _) (k * 2) (.int .i64 (X : Int))) (Nat.le_refl gr) (Nat.lt_succ_self _) (k * 2 + 1) (.int .i64 (Y : Int)))
      have HWn := Lib.hid (HW3.out.within HW2.out (.inl (by omega)))
      have HBn := Lib.hid (HB3.out.trans (HW2.out.below (by omega) HB3.out.size))
      clear hset hr3 hlen hkl HW3 HB3 HW2
      go_wp2
      go_roundw
      case rel => exact ⟨k + 1, by omega, by go_num, HR2, HWn, HBn⟩
      case measure => simp [intOf]; omega
    · obtain rfl : k = n := by omega
      have hfull := rowPr_full L
      rw [HL.out] at hfull
      rw [hfull] at HR
      go_wp2
      go_ret2
      refine ⟨some ⟨gr, 0, none⟩, k, by rw [HL.out]; rfl, ⟨.inr ⟨gr, _, rfl, by omega, row_ltI HR.out, HR.out, by rw [List.size_toArray, cellsP_len]; omega, fun j x hx => ?_⟩, Nat.le_refl _⟩, HB.out⟩
      have := cellsP_at L j x hx
      exact ⟨by simpa using this.1, by simpa using this.2⟩
end Go.Proofs.Ytbgdnidbdfhgjab
