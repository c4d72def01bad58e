/- Trees of questions: the way to a node, of both sides. -/
import Derived.Test.YtnomgnjfamideabL9F
import Derived.Test.YtnomgnjfamideabL6A
import Derived.Deep.Cut
namespace Go.Proofs.Ytnomgnjfamideab
open Go.RowKit Go.ChangeShapes Go.WideShapes Go.Maps
set_option linter.unusedVariables false

theorem infoAsk9 : (Try.prog.info? 72).map (fun i => (i.zero, i.size, i.bytes)) = some (some (.agg #[.int .i64 0, .bool false]), 2, 16) := by kernel_rfl
/-- Whether a list is a tree and has a node. -/
def nodeB (n : Int) (ns : List (Int × Int × Int)) (k : Int) : Bool := isT9 n ns && inB k 0 ((ns.length : Int) - 1)
theorem nodeB_no {n : Int} {ns : List (Int × Int × Int)} {k : Int} (h : isT9 n ns = false) : nodeB n ns k = false := by simp [nodeB, h]
theorem nodeB_of {n : Int} {ns : List (Int × Int × Int)} {k : Int} (h : nodeB n ns k = true) : ∃ (t : T9) (p : Nat), Tree9 n ns t ∧ k = (p : Int) ∧ p < ns.length := by
  unfold nodeB at h
  rw [Bool.and_eq_true, inB_iff] at h
  obtain ⟨t, ht⟩ := isT9_of h.1
  exact ⟨t, k.toNat, ht, by omega, by omega⟩
theorem kept9 {w w' : World} {b : Nat} {cs : Array Value} {T : TypeId} {row : Option Nat} {o : Obj} (hr : w.heap[b]? = some (.cells cs T (0, 0))) (hne : some b ≠ row) (hg : (w.alloc o).grownBy w' row) : w'.heap[b]? = some (.cells cs T (0, 0)) :=
  (hg.block b (Nat.lt_of_lt_of_le (row_ltI hr) (Nat.le_of_lt (by simp))) hne).trans ((((Below.refl _ w).alloc (Nat.le_refl _) o).block b (row_ltI hr)).trans hr)
theorem One.past {B : Nat} {w w' : World} {b : Nat} {x : Value} {t : TypeId} (h : One w b x t) (hp : Past B w w') (hb : b < B) : One w' b x t := ⟨(hp.block b h.lt hb).trans h.row⟩
theorem AMade.low {w : World} {lo lo' hi : Nat} {A : Option Addr} {l : List (Int × Bool)} (h : AMade w lo hi A l) (h1 : lo' ≤ lo) : AMade w lo' hi A l := by
  refine ⟨?_, h.top⟩
  rcases h.own with hn | ⟨g, cur, e, g1, r⟩
  · exact .inl hn
  · exact .inr ⟨g, cur, e, Nat.le_trans h1 g1, r⟩
end Go.Proofs.Ytnomgnjfamideab
