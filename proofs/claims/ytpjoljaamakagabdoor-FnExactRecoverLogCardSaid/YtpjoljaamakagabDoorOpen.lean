/- Arguments opened: slices of integers, states. -/
import Derived.Test.YtpjoljaamakagabDoorStates
import Derived.ChangeSame
import Derived.Deep.SlicePairs
import Derived.OpenShut
namespace Go.Proofs.YtpjoljaamakagabDoor
open Go.RowKit Go.ChangeShapes Go.WideShapes Go.ChangeAt
set_option linter.unusedVariables false

theorem lt_of_cellI {w : World} {a : Addr} {v : Value} (h : w.cell? a = some v) : a.block < w.heap.size := by
  rcases Nat.lt_or_ge a.block w.heap.size with hl | hg
  · exact hl
  · simp [World.cell?, Array.getElem?_eq_none hg] at h
theorem ints_of_trod {H : Type} {enc : TypeId × Value → H} {W : World} {a : Option Addr} {len cap : Nat} {x : DataW H × List MemPlace} {fuel : Nat}
    (hf : DataW.trod enc Tryd.prog W 0 (fun _ => true) true fuel 90 [.slice a len cap] = some x) :
    ∃ zs : List Int, len = zs.length ∧ Ints W 0 W.heap.size a zs ∧ zs.length ≤ cap ∧ cap ≤ maxLen := by
  rcases open_ints Tryd.underlying90 Tryd.underlying3 (by kernel_rfl) hf with ⟨hcs, _⟩ | ⟨x, l, c, zs, hcs, _, hl, hm, hz, _, hcell, hws⟩
  · simp at hcs
    obtain ⟨rfl, rfl, rfl⟩ := hcs
    exact ⟨[], rfl, Ints.nil, Nat.le_refl _, by unfold maxLen; omega⟩
  · simp at hcs
    obtain ⟨rfl, rfl, rfl⟩ := hcs
    have hz' : zs.length = cap := by simpa using hz
    refine ⟨zs.take len, by simp; omega, ?_, by simp; omega, hm⟩
    intro h0
    obtain ⟨b, off, spot⟩ := x
    have hc := hcell 0 (by simp at h0; omega)
    have hspot : spot = none := by simpa [Addr.add] using World.cell?_spot hc
    subst hspot
    refine ⟨b, off, rfl, Nat.zero_le _, ?_, fun j y hy => ?_⟩
    · have := lt_of_cellI hc
      simpa [Addr.add] using this
    · have h2 : j < len := by
        rcases Nat.lt_or_ge j (zs.take len).length with h | h
        · simp at h; omega
        · rw [List.getElem?_eq_none h] at hy; cases hy
      have hj : j < zs.length := by omega
      have e : zs.getD j 0 = y := by
        rw [List.getElem?_take_of_lt h2] at hy
        simp [List.getD, hy]
      have h3 := hcell j hj
      rw [e] at h3
      by_cases hj0 : j = 0
      · subst hj0
        simpa [Addr.add] using h3
      · simpa [Addr.add, hj0] using h3
theorem ints_ofT {H : Type} {enc : TypeId × Value → H} {W : World} {a : Option Addr} {len cap : Nat} {d : DataW H} {ps : List MemPlace}
    (h : DataW.Trod enc Tryd.prog W 0 (fun _ => true) true 90 (.slice a len cap) d ps) :
    ∃ zs : List Int, len = zs.length ∧ Ints W 0 W.heap.size a zs ∧ zs.length ≤ cap ∧ cap ≤ maxLen := by
  obtain ⟨fuel, hf⟩ := h
  exact ints_of_trod hf
end Go.Proofs.YtpjoljaamakagabDoor
