/- The map of false answers by number. -/
import Derived.Test.YtdkffkgoalgjmacMany
import Derived.Carry
import Derived.WideMake
namespace Go.Proofs.Ytdkffkgoalgjmac
open Go.RowKit Go.ChangeShapes Go.WideShapes Go.Maps
set_option linter.unusedVariables false

/-- What the map holds for s behind j answers and the first i numbers of the next. -/
def cnt2 (l : List (Int × Bool)) (s j i : Nat) : Nat := cntF l s j + (if s < i ∧ ((l.getD j (0, false)).2 != inQ (l.getD j (0, false)).1 s) = true then 1 else 0)
theorem cnt2_zero (l : List (Int × Bool)) (s j : Nat) : cnt2 l s j 0 = cntF l s j := by simp [cnt2]
theorem cnt2_full {l : List (Int × Bool)} {s j n : Nat} (h : s < n) : cnt2 l s j n = cntF l s (j + 1) := by simp [cnt2, cntF, h]
theorem cnt2_le (l : List (Int × Bool)) (s j i : Nat) : cnt2 l s j i ≤ j + 1 := by
  have := cntF_le l s j
  unfold cnt2
  split <;> omega
theorem cnt2_other {l : List (Int × Bool)} {s j i : Nat} (h : s ≠ i) : cnt2 l s j (i + 1) = cnt2 l s j i := by
  unfold cnt2
  have : (s < i + 1 ∧ ((l.getD j (0, false)).2 != inQ (l.getD j (0, false)).1 s) = true) ↔ (s < i ∧ ((l.getD j (0, false)).2 != inQ (l.getD j (0, false)).1 s) = true) := by
    constructor
    · intro ⟨a, b⟩; exact ⟨by omega, b⟩
    · intro ⟨a, b⟩; exact ⟨by omega, b⟩
  simp only [this]
theorem cnt2_no {l : List (Int × Bool)} {j i : Nat} (h : ((l.getD j (0, false)).2 != inQ (l.getD j (0, false)).1 i) = false) (s : Nat) : cnt2 l s j (i + 1) = cnt2 l s j i := by
  by_cases e : s = i
  · subst e; unfold cnt2; simp only [h]; simp
  · exact cnt2_other e
theorem cnt2_yes {l : List (Int × Bool)} {j i : Nat} (h : ((l.getD j (0, false)).2 != inQ (l.getD j (0, false)).1 i) = true) : cnt2 l i j (i + 1) = cnt2 l i j i + 1 := by
  unfold cnt2; simp only [h]; simp

/-- The map in block M. -/
def MapIs (w : World) (M : Nat) (l : List (Int × Bool)) (n j i : Nat) : Prop :=
  ∃ (D : DataW Unit) (N : Nat), w.ownsMap Try.prog 3 (plainElem Try.prog 3) M N D ∧ N ≤ j * 12 + i ∧ ∀ s : Nat, s < n → D.atKey (.int .i64 (s : Int)) (.lit (.int .i64 0)) = .lit (.int .i64 (cnt2 l s j i : Int))
theorem MapIs.made (w : World) (l : List (Int × Bool)) (n : Nat) : MapIs (w.alloc (.map #[] 0)) w.heap.size l n 0 0 :=
  ⟨.map [], 0, World.ownsMap_made _ _ _ _, Nat.le_refl _, fun s _ => by rw [cnt2_zero]; rfl⟩
theorem MapIs.heap {w w' : World} {M n j i : Nat} {l : List (Int × Bool)} (h : MapIs w M l n j i) (hw : w'.heap[M]? = w.heap[M]?) : MapIs w' M l n j i := by
  obtain ⟨D, N, ⟨es, clock, hb, r⟩, hN, hs⟩ := h
  exact ⟨D, N, ⟨es, clock, hw.trans hb, r⟩, hN, hs⟩
theorem MapIs.lt {w : World} {M n j i : Nat} {l : List (Int × Bool)} (h : MapIs w M l n j i) : M < w.heap.size := by
  obtain ⟨D, N, ho, _, _⟩ := h
  exact ho.lt
theorem MapIs.skip {w : World} {M n j i : Nat} {l : List (Int × Bool)} (h : MapIs w M l n j i) (hp : ((l.getD j (0, false)).2 != inQ (l.getD j (0, false)).1 i) = false) : MapIs w M l n j (i + 1) := by
  obtain ⟨D, N, ho, hN, hs⟩ := h
  exact ⟨D, N, ho, by omega, fun s h => by rw [hs s h, cnt2_no hp]⟩
theorem MapIs.next {w : World} {M n j : Nat} {l : List (Int × Bool)} (h : MapIs w M l n j n) (hn : n ≤ 12) : MapIs w M l n (j + 1) 0 := by
  obtain ⟨D, N, ho, hN, hs⟩ := h
  exact ⟨D, N, ho, by omega, fun s h => by rw [hs s h, cnt2_full h, cnt2_zero]⟩
theorem keyI (s : Nat) (h : s ≤ 12) : keyOf Try.prog 3 (.int .i64 (s : Int)) = some (.int .i64 (s : Int)) :=
  keyOf_int_mk Try.underlying3 (by
    have : ∀ s : Nat, s ≤ 12 → (Lit.int .i64 (s : Int)).wf = true := by decide +kernel
    exact this s h)
theorem keyedI : Keyed Try.prog 3 := int_keyed Try.underlying3
theorem zeroI (w : World) : (zeroValue 3).run Try.prog w = .ok (.int .i64 0) w := by kernel_rfl
theorem MapIs.at_ {n j i s : Nat} {l : List (Int × Bool)} {D : DataW Unit} {c : Int} (hs : ∀ s : Nat, s < n → D.atKey (.int .i64 (s : Int)) (.lit (.int .i64 0)) = .lit (.int .i64 (cnt2 l s j i : Int))) (h : s < n) (hat : D.atKey (.int .i64 (s : Int)) (.lit (.int .i64 0)) = .lit (.int .i64 c)) : c = (cnt2 l s j i : Int) := by
  rw [hs s h] at hat
  injection hat with hat
  injection hat with _ hat
  exact hat.symm
theorem wf_small (c : Nat) (h : c ≤ 30) : (Lit.int .i64 (c : Int)).wf = true := by
  have : ∀ c : Nat, c ≤ 30 → (Lit.int .i64 (c : Int)).wf = true := by decide +kernel
  exact this c h

end Go.Proofs.Ytdkffkgoalgjmac
