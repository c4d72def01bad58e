/- Arguments opened: slices of answers. -/
import Derived.Test.YtdkffkgoalgjmaaAsks
import Derived.Test.YtdkffkgoalgjmaaOpen
namespace Go.Proofs.Ytdkffkgoalgjmaa
open Go.RowKit Go.ChangeShapes Go.WideShapes Go.ChangeAt Go.Deep
set_option linter.unusedVariables false

theorem askeds_of_trod {H : Type} {enc : TypeId × Value → H} {W : World} {a : Option Addr} {len cap : Nat} {d : DataW H} {ps : List MemPlace}
    (h : DataW.Trod enc Try.prog W 0 (fun _ => true) true 37 (.slice a len cap) d ps) :
    ∃ l : List (Int × Bool), len = l.length ∧ Asks W 0 W.heap.size a l ∧ l.length ≤ cap ∧ cap ≤ maxLen := by
  obtain ⟨fuel, hf⟩ := h
  rcases open_slice_pairs Try.underlying37 Try.underlying26 (by kernel_rfl) rfl rfl (by kernel_rfl) (by kernel_rfl) hf with ⟨hcs, _⟩ | ⟨x, l, c, m, n, V0, V1, D0, D1, P0, P1, hcs, _, hl, hm, hmm, _, hcell⟩
  · simp [Value.cells] at hcs
    obtain ⟨rfl, rfl, rfl⟩ := hcs
    exact ⟨[], rfl, fun h => absurd h (by simp), Nat.le_refl _, by unfold maxLen; omega⟩
  · simp [Value.cells] at hcs
    obtain ⟨rfl, rfl, rfl⟩ := hcs
    have hmc : m = cap := by simpa using hmm
    have hv : ∀ i, ∃ p : Int × Bool, i < m → V0 i = .int .i64 p.1 ∧ V1 i = .bool p.2 := fun i => by
      by_cases hi : i < m
      · obtain ⟨_, _, t0, t1⟩ := hcell i hi
        obtain ⟨q, e0, _, _⟩ := DataW.trod_int Try.underlying3 t0
        obtain ⟨b, e1, _⟩ := DataW.trod_bool Try.underlying4 t1
        simp at e0 e1
        exact ⟨(q, b), fun _ => ⟨e0, e1⟩⟩
      · exact ⟨(0, false), fun h => absurd h hi⟩
    refine ⟨(List.range len).map fun i => Classical.choose (hv i), by simp, ?_, by simpa using hl, hm⟩
    intro h0
    have hlen : 0 < len := by simpa using h0
    obtain ⟨b, off, spot⟩ := x
    have hc := (hcell 0 (by omega)).1
    have hspot : spot = none := by simpa [Addr.add] using World.cell?_spot hc
    subst hspot
    refine ⟨b, off, rfl, Nat.zero_le _, ?_, fun j y hy => ?_⟩
    · have := lt_of_cellI hc
      simpa [Addr.add] using this
    · have hj : j < len := by
        rcases Nat.lt_or_ge j len with h | h
        · exact h
        · rw [List.getElem?_eq_none (by simpa using h)] at hy; cases hy
      have e : Classical.choose (hv j) = y := by simpa [List.getElem?_range, hj] using hy
      obtain ⟨c0, c1, _, _⟩ := hcell j (by omega)
      obtain ⟨e0, e1⟩ := Classical.choose_spec (hv j) (by omega)
      rw [e] at e0 e1
      rw [e0] at c0
      rw [e1] at c1
      refine ⟨?_, ?_⟩
      · by_cases hj0 : j = 0
        · subst hj0; simpa [Addr.add] using c0
        · simp only [Addr.add] at c0
          rw [if_neg (show ¬ j * 2 = 0 by omega)] at c0
          exact c0
      · simpa [Addr.add, Nat.add_assoc] using c1
end Go.Proofs.Ytdkffkgoalgjmaa
