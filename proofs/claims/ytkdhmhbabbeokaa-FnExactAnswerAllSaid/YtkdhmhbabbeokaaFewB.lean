/- FewestFalse: both functions; marks in a slice of answers. -/
import Derived.Test.YtkdhmhbabbeokaaFewI
namespace Go.Proofs.Ytkdhmhbabbeokaa
open Go.RowKit Go.ChangeShapes Go.WideShapes Go.Maps
set_option linter.unusedVariables false

set_option maxRecDepth 100000 in
set_option maxHeartbeats 2000000 in
theorem markAskedS_any (A : Option Addr) (c lo hi : Nat) (l : List (Int × Bool)) (w : World) (h : ARes w lo hi A l) (hn : l.length ≤ 1048576) :
    Calls Try.prog 53 #[.slice A l.length c, .int .i64 1] w fun e w' => e = .returned (.int .i64 (((2 * l.length + 1 : Nat)) : Int)) ∧ True ∧ Within lo hi w w' := by
  obtain ⟨g, rfl, h1, h2, hr⟩ := h.own
  have HR0 : Hid (∃ cur : Array Value, w.heap[g]? = some (.cells cur 58 (0, 0)) ∧ cur.size = l.length * 2) := ⟨_, hr, by rw [List.size_toArray, cellsA_len]⟩
  clear hr h
  go_enter Try.func53, Try.ntmps53
  go_wp2
  go_loopw [1, 5] (fun q i wr => ∃ k p : Nat, k ≤ l.length ∧ Hid (p = 2 * k + 1) ∧ i = .int .i64 k ∧ q = .int .i64 (p : Int) ∧ Hid (∃ cur : Array Value, wr.heap[g]? = some (.cells cur 58 (0, 0)) ∧ cur.size = l.length * 2) ∧ Hid (Within g (g + 1) w wr)) (fun _ i _ => l.length - (intOf i).toNat)
  case atStart => exact ⟨0, 1, Nat.zero_le _, rfl, rfl, rfl, HR0.out, Within.refl _ _ _⟩
  case round =>
    obtain ⟨k, p, hk, hp, rfl, rfl, HR, HW⟩ := hrel
    by_cases hlt : k < l.length
    · obtain ⟨cur, hr, hs⟩ := HR.out
      have hp2 : p ≤ 3000000 := by have := hp.out; omega
      obtain ⟨u0, hu0⟩ : ∃ u, wr.cell? ⟨g, k * 2, none⟩ = some u := by
        rw [row_cellI hr]; exact ⟨_, Array.getElem?_eq_getElem (by omega)⟩
      obtain ⟨u2, hu2⟩ : ∃ u, wr.cell? ⟨g, k * 2 + 1, none⟩ = some u := by
        rw [row_cellI hr]; exact ⟨_, Array.getElem?_eq_getElem (by omega)⟩
      have hf0 := row_freeI hr (k * 2)
      have hf2 := row_freeI hr (k * 2 + 1)
      have hr2 := row_setI hr (k * 2) (.int .i64 (p : Int))
      obtain ⟨u1, hu1⟩ : ∃ u, (wr.setCell ⟨g, k * 2, none⟩ (.int .i64 (p : Int))).cell? ⟨g, k * 2 + 1, none⟩ = some u := by
        rw [row_cellI hr2]; exact ⟨_, Array.getElem?_eq_getElem (by rw [Array.size_setIfInBounds]; omega)⟩
      have hf1 := row_freeI hr2 (k * 2 + 1)
      have HR2 : Hid (∀ b : Value, ∃ cur : Array Value, ((wr.setCell ⟨g, k * 2, none⟩ (.int .i64 (p : Int))).setCell ⟨g, k * 2 + 1, none⟩ b).heap[g]? = some (.cells cur 58 (0, 0)) ∧ cur.size = l.length * 2) := fun b => ⟨_, row_setI hr2 (k * 2 + 1) b, by rw [Array.size_setIfInBounds, Array.size_setIfInBounds]; exact hs⟩
      have HW2 : Hid (∀ b : Value, Within g (g + 1) w ((wr.setCell ⟨g, k * 2, none⟩ (.int .i64 (p : Int))).setCell ⟨g, k * 2 + 1, none⟩ b)) := fun b => within_set (within_set HW.out (Nat.le_refl g) (Nat.lt_succ_self _) (k * 2) _) (Nat.le_refl g) (Nat.lt_succ_self _) (k * 2 + 1) b
      clear hr hr2 HR HW
      go_wp2
      go_roundw
      case rel => exact ⟨k + 1, p + 2, by omega, Lib.hid (by have := hp.out; omega), by go_num, by go_num, HR2.out _, HW2.out _⟩
      case measure => simp [intOf]; omega
    · obtain rfl : k = l.length := by omega
      go_wp2
      go_ret
      rw [← hp.out]
      exact ⟨rfl, trivial, ⟨HW.out.os, HW.out.tape, HW.out.output, HW.out.size, fun i hi hd => HW.out.block i hi (by omega)⟩⟩

set_option maxHeartbeats 1000000 in
theorem fewestFalse_impl_no (n : Int) (A : Option Addr) (c lo hi : Nat) (l : List (Int × Bool)) (w : World) (hS : AIns w lo hi A l) (hl : l.length ≤ 1048576) (hok : okA n l = false) :
    Calls Try.prog 60 #[.int .i64 n, .slice A l.length c] w fun e w' => ∃ B, e = .returned (.tuple #[.int .i64 0, .slice B 0 0, .bool false]) ∧ Res w' w.heap.size w'.heap.size B [] ∧ Below w.heap.size w w' := by
  have HA := Lib.hid (fun W h => areAnswers_any n A c lo hi l W h hl)
  rw [hok] at HA
  have HS := Lib.hid hS
  clear hS hok
  go_enter Try.func60, Try.ntmps60
  go_wp2_with fail
  refine (HA.out w HS.out).mono ?_
  rintro e wb ⟨rfl, hb⟩
  have HB := Lib.hid hb
  clear hb
  go_wp2
  refine bodyPost_ret (v := .tuple #[.int .i64 0, .slice (some ⟨wb.heap.size, 0, none⟩) 0 0, .bool false]) (by simp [results, go_sem]) rfl ?_
  exact ⟨_, rfl, empty_res wb w.heap.size HB.out.size, HB.out.alloc HB.out.size _⟩
set_option maxHeartbeats 1000000 in
theorem fewestFalse_spec_no (n : Int) (A : Option Addr) (c lo hi : Nat) (l : List (Int × Bool)) (w : World) (hS : AIns w lo hi A l) (hl : l.length ≤ 1048576) (hok : okA n l = false) :
    Calls Try.prog 59 #[.int .i64 n, .slice A l.length c] w fun e w' => ∃ B, e = .returned (.tuple #[.int .i64 0, .slice B 0 0, .bool false]) ∧ Res w' w.heap.size w'.heap.size B [] ∧ Below w.heap.size w w' := by
  have HA := Lib.hid (fun W h => l2Answers_any n A c lo hi l W h hl)
  rw [hok] at HA
  have hb0 := (Below.refl w.heap.size w).alloc (Nat.le_refl _) (.cells #[] 3)
  have HS := Lib.hid (hS.step hb0)
  have HB0 := Lib.hid hb0
  have HR0 := Lib.hid (empty_res w w.heap.size (Nat.le_refl _))
  clear hS hok hb0
  go_enter Try.func59, Try.ntmps59
  go_wp2_with fail
  generalize w.alloc (.cells #[] 3) = wa at HS HB0 HR0 ⊢
  refine (HA.out wa HS.out).mono ?_
  rintro e wb ⟨rfl, hb⟩
  have HB := Lib.hid (below_trans HB0.out hb)
  have HR := Lib.hid (HR0.out.step hb)
  have hsz := hb.size
  clear hb
  go_wp2
  refine bodyPost_ret (v := .tuple #[.int .i64 0, .slice (some ⟨w.heap.size, 0, none⟩) 0 0, .bool false]) (by simp [results, go_sem]) rfl ?_
  exact ⟨_, rfl, ⟨HR.out.own.wide (Nat.le_refl _) hsz, Nat.le_refl _⟩, HB.out⟩
theorem few_ans {w w' : World} {v : Value} {a : Int} {zs : List Int} {b : Bool} {e : Ending} (he : e = .returned (.tuple #[.int .i64 a, v, .bool b])) (ho : w'.ownsRow w.heap.size 3 1 v zs.length (zs.map (Value.int .i64))) (hb : Below w.heap.size w w') :
    ∃ B c', e = .returned (.tuple #[.int .i64 a, .slice B zs.length c', .bool b]) ∧ Res w' w.heap.size w'.heap.size B zs ∧ Below w.heap.size w w' := by
  obtain ⟨A, c, rfl, _, hr⟩ := own_res ho rfl
  exact ⟨A, c, he, hr, hb⟩
theorem fewestFalse_both (n : Int) (l : List (Int × Bool)) (h : l.length ≤ 1048576) : ∃ (r0 : Int) (r1 : List Int) (r2 : Bool), r1.length ≤ 1048576 ∧
    (∀ (w : World) (B : Option Addr) (c lo hi : Nat), AIns w lo hi B l → Calls Try.prog 60 #[.int .i64 n, .slice B l.length c] w fun e w' => ∃ B c', e = .returned (.tuple #[.int .i64 r0, .slice B r1.length c', .bool r2]) ∧ Res w' w.heap.size w'.heap.size B r1 ∧ Below w.heap.size w w') ∧
    (∀ (w : World) (B : Option Addr) (c lo hi : Nat), AIns w lo hi B l → Calls Try.prog 59 #[.int .i64 n, .slice B l.length c] w fun e w' => ∃ B c', e = .returned (.tuple #[.int .i64 r0, .slice B r1.length c', .bool r2]) ∧ Res w' w.heap.size w'.heap.size B r1 ∧ Below w.heap.size w w') := by
  cases hok : okA n l with
  | true =>
    have hok2 := okA_iff hok
    have hb := inB_iff.1 hok2.1
    obtain ⟨k, rfl⟩ : ∃ k : Nat, n = (k : Int) := ⟨n.toNat, by omega⟩
    have hlen := fewTo_len (fun s => cntF l s l.length) k
    refine ⟨((fewTo (fun s => cntF l s l.length) k).1 : Int), (fewTo (fun s => cntF l s l.length) k).2, true, by omega, fun w B c lo hi hS => ?_, fun w B c lo hi hS => ?_⟩
    rotate_left
    · refine (fewestFalse_spec k B c lo hi l w hS hok (by omega) hok2.2).mono ?_
      rintro e w' ⟨v, he, ho, hb⟩
      exact few_ans he ho hb
    · refine (fewestFalse_impl k B c lo hi l w hS hok (by omega) (by omega) hok2.2).mono ?_
      rintro e w' ⟨v, he, ho, hb⟩
      exact few_ans he ho hb
  | false =>
    refine ⟨0, [], false, by simp, fun w B c lo hi hS => ?_, fun w B c lo hi hS => ?_⟩
    · refine (fewestFalse_impl_no n B c lo hi l w hS h hok).mono ?_
      rintro e w' ⟨B, he, hr, hb⟩
      exact ⟨B, 0, he, hr, hb⟩
    · refine (fewestFalse_spec_no n B c lo hi l w hS h hok).mono ?_
      rintro e w' ⟨B, he, hr, hb⟩
      exact ⟨B, 0, he, hr, hb⟩
end Go.Proofs.Ytkdhmhbabbeokaa
