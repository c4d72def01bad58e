/- Arguments opened: trees. -/
import Derived.Test.YtdkffkgoalgjmacL9T
import Derived.Test.YtdkffkgoalgjmacOpenA
namespace Go.Proofs.Ytdkffkgoalgjmac
open Go.RowKit Go.ChangeShapes Go.WideShapes Go.ChangeAt Go.Deep
set_option linter.unusedVariables false

theorem open_slice_triples {H : Type} {enc : TypeId × Value → H} {P : Program} {w : World} {base : Nat} {spare : Nat → Bool} {held : Bool} {t e : TypeId} {f0 f1 f2 : Field} {fuel : Nat} {cs : List Value} {x : DataW H × List MemPlace} (ht : P.underlying t = some (.slice e)) (he : P.underlying e = some (.struct #[f0, f1, f2]))
    (ce : P.cellsOf e = 3) (o0 : f0.offset = 0) (o1 : f1.offset = 1) (o2 : f2.offset = 2) (c0 : P.cellsOf f0.type = 1) (c1 : P.cellsOf f1.type = 1) (c2 : P.cellsOf f2.type = 1)
    (h : DataW.trod enc P w base spare held fuel t cs = some x) :
    (cs = [.slice none 0 0]) ∨
    ∃ (a : Addr) (len cap m n : Nat), cs = [.slice (some a) len cap] ∧ len ≤ cap ∧ cap ≤ maxLen ∧ m = (if spare a.block then cap else len) ∧
      ∀ i, i < m → ∃ (v0 v1 v2 : Value) (x0 x1 x2 : DataW H × List MemPlace), w.cell? (a.add (i * 3)) = some v0 ∧ w.cell? (a.add (i * 3 + 1)) = some v1 ∧ w.cell? (a.add (i * 3 + 2)) = some v2 ∧
        DataW.trod enc P w base spare held n f0.type [v0] = some x0 ∧ DataW.trod enc P w base spare held n f1.type [v1] = some x1 ∧ DataW.trod enc P w base spare held n f2.type [v2] = some x2 := by
  rcases open_slice ht h with h0 | ⟨a, len, cap, m, n, D, Pl, rfl, hb, hl, hm, hmm, rfl, hx⟩
  · exact Or.inl h0.1
  right
  refine ⟨a, len, cap, m, n - 1, rfl, hl, hm, hmm, fun i hi => ?_⟩
  obtain ⟨cs', h1, h2⟩ := hx i hi
  rw [ce] at h1
  obtain ⟨_, hlen, hcell⟩ := World.cells?_some h1
  obtain ⟨xs, k, hk, hxy, _, hxl, hf⟩ := DataW.trod_struct he h2
  have hk' : k = n - 1 := by omega
  subst hk'
  match xs, hxl, cs', hlen with
  | [y0, y1, y2], _, [v0, v1, v2], _ =>
    have g0 := hf 0 f0 rfl
    have g1 := hf 1 f1 rfl
    have g2 := hf 2 f2 rfl
    simp [o0, o1, o2, c0, c1, c2] at g0 g1 g2
    have e0 := hcell 0 (by omega)
    have e1 := hcell 1 (by omega)
    have e2 := hcell 2 (by omega)
    rw [add_add] at e0 e1 e2
    exact ⟨v0, v1, v2, y0, y1, y2, by simpa using e0, by simpa using e1, by simpa using e2, g0, g1, g2⟩
theorem nodes_of_trod {H : Type} {enc : TypeId × Value → H} {W : World} {a : Option Addr} {len cap : Nat} {x : DataW H × List MemPlace} {fuel : Nat}
    (hf : DataW.trod enc Try.prog W 0 (fun _ => true) true fuel 22 [.slice a len cap] = some x) :
    ∃ l : List (Int × Int × Int), len = l.length ∧ Nds W 0 W.heap.size a l ∧ l.length ≤ cap ∧ cap ≤ maxLen := by
  rcases open_slice_triples Try.underlying22 Try.underlying127 (by kernel_rfl) rfl rfl rfl (by kernel_rfl) (by kernel_rfl) (by kernel_rfl) hf with hcs | ⟨x, l, c, m, n, hcs, hl, hm, hmm, hcell⟩
  · simp at hcs
    obtain ⟨rfl, rfl, rfl⟩ := hcs
    exact ⟨[], rfl, fun h => absurd h (by simp), Nat.le_refl _, by unfold maxLen; omega⟩
  · simp at hcs
    obtain ⟨rfl, rfl, rfl⟩ := hcs
    have hmc : m = cap := by simpa using hmm
    have hv : ∀ i, ∃ p : Int × Int × Int, i < m → W.cell? (x.add (i * 3)) = some (.int .i64 p.1) ∧ W.cell? (x.add (i * 3 + 1)) = some (.int .i64 p.2.1) ∧ W.cell? (x.add (i * 3 + 2)) = some (.int .i64 p.2.2) := fun i => by
      by_cases hi : i < m
      · obtain ⟨v0, v1, v2, x0, x1, x2, h0, h1, h2, t0, t1, t2⟩ := hcell i hi
        obtain ⟨q0, e0, _, _⟩ := DataW.trod_int Try.underlying3 t0
        obtain ⟨q1, e1, _, _⟩ := DataW.trod_int Try.underlying3 t1
        obtain ⟨q2, e2, _, _⟩ := DataW.trod_int Try.underlying3 t2
        simp at e0 e1 e2
        subst e0 e1 e2
        exact ⟨(q0, q1, q2), fun _ => ⟨h0, h1, h2⟩⟩
      · exact ⟨(0, 0, 0), fun h => absurd h hi⟩
    refine ⟨(List.range len).map fun i => Classical.choose (hv i), by simp, ?_, by simpa using hl, hm⟩
    intro h0
    have hlen : 0 < len := by simpa using h0
    obtain ⟨b, off, spot⟩ := x
    have hc := (Classical.choose_spec (hv 0) (by omega)).1
    have hspot : spot = none := by simpa [Addr.add] using World.cell?_spot hc
    subst hspot
    refine ⟨b, off, rfl, Nat.zero_le _, ?_, fun j y hy => ?_⟩
    · have := lt_of_cellI hc
      simpa [Addr.add] using this
    · have hj : j < len := by
        rcases Nat.lt_or_ge j len with h | h
        · exact h
        · rw [List.getElem?_eq_none (by simpa using h)] at hy; cases hy
      have e : Classical.choose (hv j) = y := by simpa [List.getElem?_range, hj] using hy
      obtain ⟨c0, c1, c2⟩ := Classical.choose_spec (hv j) (by omega)
      rw [e] at c0 c1 c2
      refine ⟨?_, ?_, ?_⟩
      · by_cases hj0 : j = 0
        · subst hj0; simpa [Addr.add] using c0
        · simp only [Addr.add] at c0
          rw [if_neg (show ¬ j * 3 = 0 by omega)] at c0
          exact c0
      · simpa [Addr.add, Nat.add_assoc] using c1
      · simpa [Addr.add, Nat.add_assoc] using c2
set_option maxRecDepth 100000 in
theorem tree_of_trod {H : Type} {enc : TypeId × Value → H} {W : World} {base : Nat} {v : Value} {d : DataW H} {ps : List MemPlace}
    (hv : Value.okWide Try.prog W .any base 24 v) (h : DataW.Trod enc Try.prog W 0 (fun _ => true) true 24 v d ps) :
    ∃ (a : Option Addr) (c : Nat) (l : List (Int × Int × Int)), v = .agg #[.slice a l.length c] ∧ Nds W 0 W.heap.size a l ∧ l.length ≤ c ∧ c ≤ maxLen := by
  obtain ⟨cs, rfl, hsz⟩ := okWide_struct Try.underlying24 hv
  rw [show Try.prog.cellsOf 24 = 1 by kernel_rfl] at hsz
  obtain ⟨l⟩ := cs
  match l, hsz with
  | [c0], _ =>
  obtain ⟨fuel, hf⟩ := h
  obtain ⟨xs, k, hk, hxy, _, hxl, hfd⟩ := DataW.trod_struct Try.underlying24 hf
  have e1 : Try.prog.cellsOf 22 = 1 := by kernel_rfl
  match xs, hxl with
  | [y0], _ =>
  have g0 := hfd 0 _ rfl
  simp [Value.cells, e1] at g0
  rcases open_slice_triples Try.underlying22 Try.underlying127 (by kernel_rfl) rfl rfl rfl (by kernel_rfl) (by kernel_rfl) (by kernel_rfl) g0 with hcs | ⟨x, l, c, m, n, hcs, _⟩
  · simp at hcs
    subst hcs
    obtain ⟨zs, e, h1, h2, h3⟩ := nodes_of_trod g0
    cases zs with
    | nil => exact ⟨none, 0, [], rfl, h1, by simp, h3⟩
    | cons z r => simp at e
  · simp at hcs
    subst hcs
    obtain ⟨zs, rfl, h1, h2, h3⟩ := nodes_of_trod g0
    exact ⟨some x, c, zs, rfl, h1, h2, h3⟩
end Go.Proofs.Ytdkffkgoalgjmac
