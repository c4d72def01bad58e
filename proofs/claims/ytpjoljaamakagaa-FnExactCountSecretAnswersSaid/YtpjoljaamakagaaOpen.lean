/- Arguments opened: slices of integers, states. -/
import Derived.Test.YtpjoljaamakagaaStates
import Derived.ChangeSame
import Derived.Deep.SlicePairs
import Derived.OpenShut
namespace Go.Proofs.Ytpjoljaamakagaa
open Go.RowKit Go.ChangeShapes Go.WideShapes Go.ChangeAt
set_option linter.unusedVariables false

theorem lt_of_cellI {w : World} {a : Addr} {v : Value} (h : w.cell? a = some v) : a.block < w.heap.size := by
  rcases Nat.lt_or_ge a.block w.heap.size with hl | hg
  · exact hl
  · simp [World.cell?, Array.getElem?_eq_none hg] at h
theorem ints_of_trod {H : Type} {enc : TypeId × Value → H} {W : World} {a : Option Addr} {len cap : Nat} {x : DataW H × List MemPlace} {fuel : Nat}
    (hf : DataW.trod enc Try.prog W 0 (fun _ => true) true fuel 29 [.slice a len cap] = some x) :
    ∃ zs : List Int, len = zs.length ∧ Ints W 0 W.heap.size a zs ∧ zs.length ≤ cap ∧ cap ≤ maxLen := by
  rcases open_ints Try.underlying29 Try.underlying3 (by kernel_rfl) hf with ⟨hcs, _⟩ | ⟨x, l, c, zs, hcs, _, hl, hm, hz, _, hcell, hws⟩
  · simp at hcs
    obtain ⟨rfl, rfl, rfl⟩ := hcs
    exact ⟨[], rfl, Ints.nil, Nat.le_refl _, by unfold maxLen; omega⟩
  · simp at hcs
    obtain ⟨rfl, rfl, rfl⟩ := hcs
    have hz' : zs.length = cap := by simpa using hz
    refine ⟨zs.take len, by simp; omega, ?_, by simp; omega, hm⟩
    intro h0
    obtain ⟨b, off, spot⟩ := x
    have hc := hcell 0 (by simp at h0; omega)
    have hspot : spot = none := by simpa [Addr.add] using World.cell?_spot hc
    subst hspot
    refine ⟨b, off, rfl, Nat.zero_le _, ?_, fun j y hy => ?_⟩
    · have := lt_of_cellI hc
      simpa [Addr.add] using this
    · have h2 : j < len := by
        rcases Nat.lt_or_ge j (zs.take len).length with h | h
        · simp at h; omega
        · rw [List.getElem?_eq_none h] at hy; cases hy
      have hj : j < zs.length := by omega
      have e : zs.getD j 0 = y := by
        rw [List.getElem?_take_of_lt h2] at hy
        simp [List.getD, hy]
      have h3 := hcell j hj
      rw [e] at h3
      by_cases hj0 : j = 0
      · subst hj0
        simpa [Addr.add] using h3
      · simpa [Addr.add, hj0] using h3
theorem ints_ofT {H : Type} {enc : TypeId × Value → H} {W : World} {a : Option Addr} {len cap : Nat} {d : DataW H} {ps : List MemPlace}
    (h : DataW.Trod enc Try.prog W 0 (fun _ => true) true 29 (.slice a len cap) d ps) :
    ∃ zs : List Int, len = zs.length ∧ Ints W 0 W.heap.size a zs ∧ zs.length ≤ cap ∧ cap ≤ maxLen := by
  obtain ⟨fuel, hf⟩ := h
  exact ints_of_trod hf
set_option maxRecDepth 100000 in
theorem state_of_trod {H : Type} {enc : TypeId × Value → H} {W : World} {base : Nat} {v : Value} {d : DataW H} {ps : List MemPlace}
    (hv : Value.okWide Try.prog W .any base 31 v) (h : DataW.Trod enc Try.prog W 0 (fun _ => true) true 31 v d ps) :
    ∃ (a : Option Addr) (c : Nat) (zs : List Int) (m : Int), v = .agg #[.slice a zs.length c, .int .i64 m] ∧ Ints W 0 W.heap.size a zs ∧ zs.length ≤ c ∧ c ≤ maxLen ∧ (Lit.int .i64 m).wf = true := by
  obtain ⟨cs, rfl, hsz⟩ := okWide_struct Try.underlying31 hv
  rw [show Try.prog.cellsOf 31 = 2 by kernel_rfl] at hsz
  obtain ⟨l⟩ := cs
  match l, hsz with
  | [c0, c1], _ =>
  obtain ⟨fuel, hf⟩ := h
  obtain ⟨y0, y1, n, hx, _, hy0, hy1⟩ := trod_struct2 Try.underlying31 hf
  have e1 : Try.prog.cellsOf 29 = 1 := by kernel_rfl
  have e2 : Try.prog.cellsOf 3 = 1 := by kernel_rfl
  simp [Value.cells, e1, e2] at hy0 hy1
  obtain ⟨m, em, rfl, wm⟩ := DataW.trod_int Try.underlying3 hy1
  simp at em
  subst em
  rcases open_ints Try.underlying29 Try.underlying3 (by kernel_rfl) hy0 with ⟨hcs, _⟩ | ⟨x, l, c, zs, hcs, _⟩
  · simp at hcs
    subst hcs
    obtain ⟨zs, e, h1, h2, h3⟩ := ints_of_trod hy0
    cases zs with
    | nil => exact ⟨none, 0, [], m, rfl, h1, by simp, h3, wm⟩
    | cons z r => simp at e
  · simp at hcs
    subst hcs
    obtain ⟨zs, rfl, h1, h2, h3⟩ := ints_of_trod hy0
    exact ⟨some x, c, zs, m, rfl, h1, h2, h3, wm⟩
end Go.Proofs.Ytpjoljaamakagaa
