/- Rows of nodes and trees: what the laws' helpers do with them. -/
import Derived.Test.YtdkffkgoalgjmacL9T
namespace Go.Proofs.Ytdkffkgoalgjmac
open Go.RowKit Go.ChangeShapes Go.WideShapes
set_option linter.unusedVariables false

theorem setcell_cell {w : World} {g i j : Nat} {cs : Array Value} {t : TypeId} (h : w.heap[g]? = some (.cells cs t (0, 0))) (x : Value) (hj : j < cs.size) : ∃ u, (w.setCell ⟨g, i, none⟩ x).cell? ⟨g, j, none⟩ = some u := by
  rw [row_cellI (row_setI h i x)]
  exact ⟨_, Array.getElem?_eq_getElem (by rw [Array.size_setIfInBounds]; exact hj)⟩

set_option maxRecDepth 100000 in
set_option maxHeartbeats 4000000 in
theorem markRowN (g cap n : Nat) (cur : Array Value) (w : World) (h : w.heap[g]? = some (.cells cur 125 (0, 0))) (hn : n * 3 ≤ cur.size) (hn2 : n ≤ 1048576) :
    Calls Try.prog 65 #[.slice (some ⟨g, 0, none⟩) n cap, .int .i64 1] w fun e w' => e = .returned (.int .i64 ((n : Int) * 3 + 1)) ∧ w'.heap[g]? = some (.cells (markArr cur (n * 3)) 125 (0, 0)) ∧ Within g (g + 1) w w' := by
  have H := Lib.hid h
  clear h
  go_enter Try.func65, Try.ntmps65
  go_wp2_with fail
  go_loopw [1, 5] (fun q i wr => ∃ k p : Nat, k ≤ n ∧ Hid (p = k * 3 + 1) ∧ i = .int .i64 k ∧ q = .int .i64 (p : Int) ∧ Hid (wr.heap[g]? = some (.cells (markArr cur (k * 3)) 125 (0, 0))) ∧ Hid (Within g (g + 1) w wr)) (fun _ i _ => n - (intOf i).toNat)
  case atStart => exact ⟨0, 1, Nat.zero_le _, Lib.hid rfl, rfl, rfl, H, Within.refl _ _ w⟩
  case round =>
    obtain ⟨k, p, hk, hp, rfl, rfl, HR, HG⟩ := hrel
    by_cases hlt : k < n
    · have hr := HR.out
      have hs : (markArr cur (k * 3)).size = cur.size := markArr_size cur (k * 3)
      have hp2 : p ≤ 4000000 := by have := hp.out; omega
      obtain ⟨u0, hu0⟩ : ∃ u, wr.cell? ⟨g, k * 3, none⟩ = some u := by
        rw [row_cellI hr]; exact ⟨_, Array.getElem?_eq_getElem (by omega)⟩
      have hr1 := row_setI hr (k * 3) (.int .i64 (p : Int))
      obtain ⟨u1, hu1⟩ : ∃ u, (wr.setCell ⟨g, k * 3, none⟩ (.int .i64 (p : Int))).cell? ⟨g, k * 3 + 1, none⟩ = some u := setcell_cell hr _ (by omega)
      have hr2 := row_setI hr1 (k * 3 + 1) (.int .i64 ((p : Int) + 1))
      obtain ⟨u2, hu2⟩ : ∃ u, ((wr.setCell ⟨g, k * 3, none⟩ (.int .i64 (p : Int))).setCell ⟨g, k * 3 + 1, none⟩ (.int .i64 ((p : Int) + 1))).cell? ⟨g, k * 3 + 2, none⟩ = some u := setcell_cell hr1 _ (by rw [Array.size_setIfInBounds]; omega)
      have hf0 := row_freeI hr (k * 3)
      have hf1 := row_freeI hr1 (k * 3 + 1)
      have hf2 := row_freeI hr2 (k * 3 + 2)
      have HR2 : Hid (∀ z : Int, z = (p : Int) + 2 → (((wr.setCell ⟨g, k * 3, none⟩ (.int .i64 (p : Int))).setCell ⟨g, k * 3 + 1, none⟩ (.int .i64 ((p : Int) + 1))).setCell ⟨g, k * 3 + 2, none⟩ (.int .i64 z)).heap[g]? = some (.cells (markArr cur ((k + 1) * 3)) 125 (0, 0))) := Lib.hid (fun z hz => by
        have h5 := row_setI hr2 (k * 3 + 2) (.int .i64 z)
        rw [h5, show (k + 1) * 3 = k * 3 + 2 + 1 by omega]
        have hp3 := hp.out
        show _ = some (Obj.cells (((((markArr cur (k * 3)).setIfInBounds (k * 3) (.int .i64 (((k * 3 : Nat) : Int) + 1))).setIfInBounds (k * 3 + 1) (.int .i64 (((k * 3 + 1 : Nat) : Int) + 1))).setIfInBounds (k * 3 + 2) (.int .i64 (((k * 3 + 2 : Nat) : Int) + 1)))) 125 (0, 0))
        rw [show (p : Int) = ((k * 3 : Nat) : Int) + 1 by omega, show ((k * 3 : Nat) : Int) + 1 + 1 = ((k * 3 + 1 : Nat) : Int) + 1 by omega, show z = ((k * 3 + 2 : Nat) : Int) + 1 by omega])
      have HG2 : Hid (∀ z : Int, Within g (g + 1) w (((wr.setCell ⟨g, k * 3, none⟩ (.int .i64 (p : Int))).setCell ⟨g, k * 3 + 1, none⟩ (.int .i64 ((p : Int) + 1))).setCell ⟨g, k * 3 + 2, none⟩ (.int .i64 z))) := Lib.hid (fun z => within_set (within_set (within_set HG.out (Nat.le_refl g) (Nat.lt_succ_self _) (k * 3) _) (Nat.le_refl g) (Nat.lt_succ_self _) (k * 3 + 1) _) (Nat.le_refl g) (Nat.lt_succ_self _) (k * 3 + 2) _)
      clear hr hr1 hr2 HR HG hs
      go_wp2
      go_roundw
      case rel => exact ⟨k + 1, p + 3, by omega, Lib.hid (by have := hp.out; omega), by go_num, by go_num, HR2.out _ (by omega), HG2.out _⟩
      case measure => simp [intOf]; omega
    · obtain rfl : k = n := by omega
      go_wp2
      go_ret
      rw [show (k : Int) * 3 + 1 = (p : Int) by have := hp.out; omega]
      exact ⟨rfl, HR.out, HG.out⟩
def marksN (n : Nat) : List (Int × Int × Int) := (List.range n).map fun (j : Nat) => ((j : Int) * 3 + 1, (j : Int) * 3 + 2, (j : Int) * 3 + 3)
theorem marksN_len (n : Nat) : (marksN n).length = n := by simp [marksN]
theorem marksN_get {n j : Nat} {x : Int × Int × Int} (h : (marksN n)[j]? = some x) : j < n ∧ x = ((j : Int) * 3 + 1, (j : Int) * 3 + 2, (j : Int) * 3 + 3) := by
  unfold marksN at h
  rw [List.getElem?_map] at h
  rcases Nat.lt_or_ge j n with hj | hj
  · rw [List.getElem?_range hj] at h
    simp at h
    exact ⟨hj, h.symm⟩
  · rw [List.getElem?_eq_none (by simpa using hj)] at h
    cases h
theorem markNoneN (cap : Nat) (w : World) :
    Calls Try.prog 65 #[.slice none 0 cap, .int .i64 1] w fun e w' => e = .returned (.int .i64 1) ∧ w' = w := by
  go_enter Try.func65, Try.ntmps65
  go_wp2_with fail
  go_loopw [1, 5] (fun q i wr => i = .int .i64 0 ∧ q = .int .i64 1 ∧ wr = w) (fun _ i _ => 1)
  case atStart => exact ⟨rfl, rfl, rfl⟩
  case round =>
    obtain ⟨rfl, rfl, rfl⟩ := hrel
    go_wp2
    go_ret
    exact ⟨rfl, rfl⟩
theorem markNMade_any (A : Option Addr) (cap lo hi : Nat) (l : List (Int × Int × Int)) (w : World) (h : NMade w lo hi A l) (hn : l.length ≤ 1048576) :
    Calls Try.prog 65 #[.slice A l.length cap, .int .i64 1] w fun e w' => e = .returned (.int .i64 ((l.length : Int) * 3 + 1)) ∧ NMade w' lo hi A (marksN l.length) ∧ Within lo hi w w' := by
  rcases h.own with ⟨rfl, rfl⟩ | ⟨g, cur, rfl, h1, h2, hr, hs, hc⟩
  · refine (markNoneN cap w).mono ?_
    rintro e w' ⟨rfl, hww⟩
    have hww := hww.symm
    subst hww
    exact ⟨rfl, ⟨.inl ⟨rfl, rfl⟩, h.top⟩, Within.refl _ _ _⟩
  · refine (markRowN g cap l.length cur w hr hs hn).mono ?_
    rintro e w' ⟨rfl, hr', hw⟩
    refine ⟨rfl, ⟨.inr ⟨g, _, rfl, h1, h2, hr', by rw [marksN_len, markArr_size]; exact hs, fun j x hx => ?_⟩, Nat.le_trans h.top hw.size⟩, ⟨hw.os, hw.tape, hw.output, hw.size, fun i hi hd => hw.block i hi (by omega)⟩⟩
    obtain ⟨hj, rfl⟩ := marksN_get hx
    have h3 := markArr_at cur (l.length * 3) (j * 3) (by omega) (by omega)
    have h4 := markArr_at cur (l.length * 3) (j * 3 + 1) (by omega) (by omega)
    have h5 := markArr_at cur (l.length * 3) (j * 3 + 2) (by omega) (by omega)
    refine ⟨?_, ?_, ?_⟩
    · rw [h3]; simp
    · rw [h4]; simp; omega
    · rw [h5]; simp; omega
set_option maxHeartbeats 2000000 in
theorem toTree_any (A : Option Addr) (c lo hi : Nat) (l : List (Int × Int × Int)) (w : World) (hS : NIns w lo hi A l) (hn : l.length ≤ 1048576) :
    Calls Try.prog 10 #[.agg #[.slice A l.length c]] w fun e w' => ∃ B, e = .returned (.agg #[.slice B l.length l.length]) ∧ NMade w' w.heap.size w'.heap.size B l ∧ Below w.heap.size w w' := by
  have hb1 := (Below.refl w.heap.size w).alloc (Nat.le_refl _) (.cells #[.slice A l.length c] 24)
  have hb2 := hb1.alloc hb1.size (.cells #[.slice none 0 0] 33)
  have HT2 := Lib.hid (One.new (w.alloc (.cells #[.slice A l.length c] 24)) (.slice none 0 0) 33 (w.heap.size + 1) (by simp))
  replace HT2 := Lib.hid (HT2.out.step ((Below.refl _ _).alloc (Nat.le_refl _) (.cells #[.slice none 0 0] 33)))
  have HT3 := Lib.hid (One.new ((w.alloc (.cells #[.slice A l.length c] 24)).alloc (.cells #[.slice none 0 0] 33)) (.slice none 0 0) 33 (w.heap.size + 2) (by simp))
  have HB := Lib.hid (hb2.alloc hb2.size (.cells #[.slice none 0 0] 33))
  have HI := Lib.hid (hS.step HB.out)
  have HC := Lib.hid (fun W h => toNodeS_any A c lo hi l W h hn)
  clear hS hb1 hb2
  go_enter Try.func10, Try.ntmps10
  go_wp2_with fail
  generalize ((w.alloc (.cells #[.slice A l.length c] 24)).alloc (.cells #[.slice none 0 0] 33)).alloc (.cells #[.slice none 0 0] 33) = w0 at HT2 HT3 HB HI ⊢
  have hsz0 := HT3.out.lt
  have hszw := HB.out.size
  refine (HC.out _ HI.out).mono ?_
  rintro e w1 ⟨B, rfl, hm, hb⟩
  replace HT2 := Lib.hid (HT2.out.step hb)
  replace HT3 := Lib.hid (HT3.out.step hb)
  replace HB := Lib.hid (below_trans HB.out hb)
  obtain ⟨hs3, hw3⟩ := stored1 HT3.out (.slice B l.length l.length)
  have HT3' := Lib.hid hs3
  have HT2' := Lib.hid (HT2.out.within hw3 (.inl (by omega)))
  obtain ⟨hs2, hw2⟩ := stored1 HT2'.out (.slice B l.length l.length)
  have HM := Lib.hid ((hm.within hw3 (.inr (by omega))).within hw2 (.inr (by omega)))
  have HB3 := Lib.hid ((HB.out.trans (hw3.below (by omega) HB.out.size)).trans (hw2.below (by omega) (Nat.le_trans HB.out.size hw3.size)))
  have h3c := HT3.out.c0
  have h3f := HT3.out.f0
  have h2c := HT2'.out.c0
  have h2f := HT2'.out.f0
  have e0 := hs2.c0
  clear hm hb hs3 hw3 hs2 hw2
  go_wp2
  refine bodyPost_ret (v := .agg #[.slice B l.length l.length]) (by simp [results, go_sem, e0]) rfl ?_
  exact ⟨B, rfl, HM.out.wide (by omega) (by have := HM.out.top; exact this) (Nat.le_refl _), HB3.out⟩
set_option maxHeartbeats 1000000 in
theorem eqTree_same (A A' : Option Addr) (c c' lo hi lo' hi' : Nat) (l : List (Int × Int × Int)) (w : World) (hS : NIns w lo hi A l) (hS' : NIns w lo' hi' A' l) (hn : l.length ≤ 1048576) :
    Calls Try.prog 13 #[.agg #[.slice A l.length c], .agg #[.slice A' l.length c']] w fun e w' => e = .returned (.bool true) ∧ Below w.heap.size w w' := by
  have HB := Lib.hid (((Below.refl w.heap.size w).alloc (Nat.le_refl _) (.cells #[.slice A l.length c] 33)).alloc (by simp) (.cells #[.slice A' l.length c'] 33))
  have HI := Lib.hid (hS.step HB.out)
  have HI' := Lib.hid (hS'.step HB.out)
  have HC := Lib.hid (fun W h h' => eqNodeS_same A A' c c' lo hi lo' hi' l W h h' hn)
  clear hS hS'
  go_enter Try.func13, Try.ntmps13
  go_wp2_with fail
  refine (HC.out _ HI.out HI'.out).mono ?_
  rintro e w' ⟨rfl, hb⟩
  replace HB := Lib.hid (below_trans HB.out hb)
  clear hb
  go_wp2
  go_ret
  exact ⟨rfl, HB.out⟩
theorem markTree_any (A : Option Addr) (c lo hi : Nat) (l : List (Int × Int × Int)) (w : World) (h : NMade w lo hi A l) (hn : l.length ≤ 1048576) :
    Calls Try.prog 14 #[.agg #[.slice A l.length c], .int .i64 1] w fun e w' => e = .returned (.int .i64 ((l.length : Int) * 3 + 1)) ∧ NMade w' lo hi A (marksN l.length) ∧ Within lo hi w w' := by
  have HB := Lib.hid ((Below.refl w.heap.size w).alloc (Nat.le_refl _) (.cells #[.slice A l.length c] 33))
  have HI := Lib.hid (h.step HB.out)
  have HC := Lib.hid (fun W h => markNMade_any A c lo hi l W h hn)
  clear h
  go_enter Try.func14, Try.ntmps14
  go_wp2_with fail
  refine (HC.out _ HI.out).mono ?_
  rintro e w' ⟨rfl, hm, hw⟩
  have HM := Lib.hid hm
  have HW := Lib.hid ((Within.of_below (lo := lo) (hi := hi) HB.out).trans hw)
  clear hm hw
  go_wp2
  go_ret
  exact ⟨rfl, HM.out, HW.out⟩
end Go.Proofs.Ytdkffkgoalgjmac
