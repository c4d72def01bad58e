/- The state behind an answer, in the model. -/
import Derived.Test.YthpnkeecpaflfaaAfter
import Derived.Deep.CutRange
namespace Go.Proofs.Ythpnkeecpaflfaa
open Go.RowKit Go.ChangeShapes Go.WideShapes
set_option linter.unusedVariables false

theorem own_at {w : World} {g : Nat} {l : List Int} (h : Own w g (g + 1) (some ⟨g, 0, none⟩) l) : ∃ cur, w.heap[g]? = some (.cells cur 3 (0, 0)) ∧ l.length ≤ cur.size ∧ ∀ (j : Nat) (x : Int), l[j]? = some x → cur[j]? = some (Value.int .i64 x) := by
  rcases h with ⟨h, _⟩ | ⟨g', cur, e, h1, h2, hr, hs, hc⟩
  · cases h
  · obtain rfl : g' = g := by omega
    exact ⟨cur, hr, hs, hc⟩
theorem own_cell {w : World} {g k : Nat} {l : List Int} (h : Own w g (g + 1) (some ⟨g, 0, none⟩) l) (hk : k < l.length) : w.cell? ⟨g, k, none⟩ = some (.int .i64 (l.getD k 0)) := by
  obtain ⟨cur, hr, _, hc⟩ := own_at h
  rw [row_cellI hr]
  exact hc k _ (by simp [List.getD, hk])
theorem own_free {w : World} {g : Nat} {l : List Int} (h : Own w g (g + 1) (some ⟨g, 0, none⟩) l) (k : Nat) : w.frozen? ⟨g, k, none⟩ = false := by
  obtain ⟨cur, hr, _, _⟩ := own_at h
  exact row_freeI hr k
theorem own_lt {w : World} {g : Nat} {l : List Int} (h : Own w g (g + 1) (some ⟨g, 0, none⟩) l) : g < w.heap.size := by
  obtain ⟨cur, hr, _, _⟩ := own_at h
  exact row_ltI hr
theorem own_set {w : World} {g k : Nat} {l : List Int} (h : Own w g (g + 1) (some ⟨g, 0, none⟩) l) (hk : k < l.length) (v : Int) : Own (w.setCell ⟨g, k, none⟩ (.int .i64 v)) g (g + 1) (some ⟨g, 0, none⟩) (l.set k v) := by
  obtain ⟨cur, hr, hs, hc⟩ := own_at h
  refine .inr ⟨g, _, rfl, Nat.le_refl _, Nat.lt_succ_self _, row_setI hr k _, by simpa using hs, fun j x hx => ?_⟩
  by_cases e : k = j
  · subst e
    rw [List.getElem?_set_self hk] at hx
    injection hx with hx
    subst hx
    rw [Array.getElem?_setIfInBounds_self_of_lt (by omega)]
  · rw [List.getElem?_set_ne e] at hx
    rw [Array.getElem?_setIfInBounds_ne e]
    exact hc j x hx
theorem own_same {w w' : World} {g : Nat} {l : List Int} (h : Own w g (g + 1) (some ⟨g, 0, none⟩) l) (hw : w'.heap[g]? = w.heap[g]?) : Own w' g (g + 1) (some ⟨g, 0, none⟩) l := by
  obtain ⟨cur, hr, hs, hc⟩ := own_at h
  exact .inr ⟨g, cur, rfl, Nat.le_refl _, Nat.lt_succ_self _, hw.trans hr, hs, hc⟩
theorem set_getD {l : List Int} {k : Nat} {v : Int} (h : k < l.length) : (l.set k v).getD k 0 = v := by
  rw [List.getD, List.getElem?_set_self h]
  rfl
theorem l1Own_row (A : Option Addr) (c lo hi : Nat) (zs : List Int) (w : World) (hS : Ins w lo hi A zs) (h1 : 1 ≤ zs.length) (hn : zs.length ≤ 12) :
    Calls Try.prog 27 #[.slice A zs.length c] w fun e w' => ∃ g c', e = .returned (.slice (some ⟨g, 0, none⟩) zs.length c') ∧ w.heap.size ≤ g ∧ Own w' g (g + 1) (some ⟨g, 0, none⟩) zs ∧ Below w.heap.size w w' := by
  refine (l1Own_any A c lo hi zs w hS h1 hn).mono ?_
  rintro e w' ⟨v, rfl, ho, hb⟩
  obtain ⟨B, c', rfl, _, hr⟩ := own_res ho rfl
  rcases hr.own with ⟨_, h⟩ | ⟨g, cur, rfl, g1, g2, r1, r2, r3⟩
  · rw [h] at h1; simp at h1
  · exact ⟨g, c', rfl, g1, .inr ⟨g, cur, rfl, Nat.le_refl _, Nat.lt_succ_self _, r1, r2, r3⟩, hb⟩

end Go.Proofs.Ythpnkeecpaflfaa
