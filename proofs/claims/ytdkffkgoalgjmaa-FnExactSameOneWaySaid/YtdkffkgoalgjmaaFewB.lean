/- FewestFalse: both functions; marks in a slice of answers. -/
import Derived.Test.YtdkffkgoalgjmaaFewI
namespace Go.Proofs.Ytdkffkgoalgjmaa
open Go.RowKit Go.ChangeShapes Go.WideShapes Go.Maps
set_option linter.unusedVariables false

set_option maxRecDepth 100000 in
set_option maxHeartbeats 2000000 in
theorem markAskedS_any (A : Option Addr) (c lo hi : Nat) (l : List (Int × Bool)) (w : World) (h : ARes w lo hi A l) (hn : l.length ≤ 1048576) :
    Calls Try.prog 28 #[.slice A l.length c, .int .i64 1] w fun e w' => e = .returned (.int .i64 (((2 * l.length + 1 : Nat)) : Int)) ∧ True ∧ Within lo hi w w' := by
  obtain ⟨g, rfl, h1, h2, hr⟩ := h.own
  have HR0 : Hid (∃ cur : Array Value, w.heap[g]? = some (.cells cur 32 (0, 0)) ∧ cur.size = l.length * 2) := ⟨_, hr, by rw [List.size_toArray, cellsA_len]⟩
  clear hr h
  go_enter Try.func28, Try.ntmps28
  go_wp2
  go_loopw [1, 5] (fun q i wr => ∃ k p : Nat, k ≤ l.length ∧ Hid (p = 2 * k + 1) ∧ i = .int .i64 k ∧ q = .int .i64 (p : Int) ∧ Hid (∃ cur : Array Value, wr.heap[g]? = some (.cells cur 32 (0, 0)) ∧ cur.size = l.length * 2) ∧ Hid (Within g (g + 1) w wr)) (fun _ i _ => l.length - (intOf i).toNat)
  case atStart => exact ⟨0, 1, Nat.zero_le _, rfl, rfl, rfl, HR0.out, Within.refl _ _ _⟩
  case round =>
    obtain ⟨k, p, hk, hp, rfl, rfl, HR, HW⟩ := hrel
    by_cases hlt : k < l.length
    · obtain ⟨cur, hr, hs⟩ := HR.out
      have hp2 : p ≤ 3000000 := by have := hp.out; omega
      obtain ⟨u0, hu0⟩ : ∃ u, wr.cell? ⟨g, k * 2, none⟩ = some u := by
        rw [row_cellI hr]; exact ⟨_, Array.getElem?_eq_getElem (by omega)⟩
      obtain ⟨u2, hu2⟩ : ∃ u, wr.cell? ⟨g, k * 2 + 1, none⟩ = some u := by
        rw [row_cellI hr]; exact ⟨_, Array.getElem?_eq_getElem (by omega)⟩
      have hf0 := row_freeI hr (k * 2)
      have hf2 := row_freeI hr (k * 2 + 1)
      have hr2 := row_setI hr (k * 2) (.int .i64 (p : Int))
      obtain ⟨u1, hu1⟩ : ∃ u, (wr.setCell ⟨g, k * 2, none⟩ (.int .i64 (p : Int))).cell? ⟨g, k * 2 + 1, none⟩ = some u := by
        rw [row_cellI hr2]; exact ⟨_, Array.getElem?_eq_getElem (by rw [Array.size_setIfInBounds]; omega)⟩
      have hf1 := row_freeI hr2 (k * 2 + 1)
      have HR2 : Hid (∀ b : Value, ∃ cur : Array Value, ((wr.setCell ⟨g, k * 2, none⟩ (.int .i64 (p : Int))).setCell ⟨g, k * 2 + 1, none⟩ b).heap[g]? = some (.cells cur 32 (0, 0)) ∧ cur.size = l.length * 2) := fun b => ⟨_, row_setI hr2 (k * 2 + 1) b, by rw [Array.size_setIfInBounds, Array.size_setIfInBounds]; exact hs⟩
      have HW2 : Hid (∀ b : Value, Within g (g + 1) w ((wr.setCell ⟨g, k * 2, none⟩ (.int .i64 (p : Int))).setCell ⟨g, k * 2 + 1, none⟩ b)) := fun b => within_set (within_set HW.out (Nat.le_refl g) (Nat.lt_succ_self _) (k * 2) _) (Nat.le_refl g) (Nat.lt_succ_self _) (k * 2 + 1) b
      clear hr hr2 HR HW
      go_wp2
      go_roundw
      case rel => exact ⟨k + 1, p + 2, by omega, Lib.hid (by have := hp.out; omega), by go_num, by go_num, HR2.out _, HW2.out _⟩
      case measure => simp [intOf]; omega
    · obtain rfl : k = l.length := by omega
      go_wp2
      go_ret
      rw [← hp.out]
      exact ⟨rfl, trivial, ⟨HW.out.os, HW.out.tape, HW.out.output, HW.out.size, fun i hi hd => HW.out.block i hi (by omega)⟩⟩

theorem few_ans {w w' : World} {v : Value} {a : Int} {zs : List Int} {b : Bool} {e : Ending} (he : e = .returned (.tuple #[.int .i64 a, v, .bool b])) (ho : w'.ownsRow w.heap.size 3 1 v zs.length (zs.map (Value.int .i64))) (hb : Below w.heap.size w w') :
    ∃ B c', e = .returned (.tuple #[.int .i64 a, .slice B zs.length c', .bool b]) ∧ Res w' w.heap.size w'.heap.size B zs ∧ Below w.heap.size w w' := by
  obtain ⟨A, c, rfl, _, hr⟩ := own_res ho rfl
  exact ⟨A, c, he, hr, hb⟩
end Go.Proofs.Ytdkffkgoalgjmaa
