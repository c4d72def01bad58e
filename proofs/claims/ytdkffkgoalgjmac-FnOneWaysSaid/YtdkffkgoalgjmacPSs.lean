/- ParseState: the specification's function. -/
import Derived.Test.YtdkffkgoalgjmacPSp
namespace Go.Proofs.Ytdkffkgoalgjmac
open Go.RowKit Go.ChangeShapes Go.WideShapes
set_option linter.unusedVariables false

/-- A block of two cells. -/
structure TwoS (w : World) (b : Nat) (x y : Value) : Prop where
  row : w.heap[b]? = some (.cells #[x, y] 28 (0, 0))
theorem TwoS.lt {w : World} {b : Nat} {x y : Value} (h : TwoS w b x y) : b < w.heap.size := row_ltI h.row
theorem TwoS.step {w w' : World} {b : Nat} {x y : Value} (h : TwoS w b x y) (hb : Below w.heap.size w w') : TwoS w' b x y := ⟨(hb.block b h.lt).trans h.row⟩
theorem TwoS.new (w : World) (x y : Value) (b : Nat) (hb : b = w.heap.size) : TwoS (w.alloc (.cells #[x, y] 28)) b x y := ⟨alloc_row' _ _ _ _ hb⟩
theorem TwoS.c0 {w : World} {b : Nat} {x y : Value} (h : TwoS w b x y) : w.cell? ⟨b, 0, none⟩ = some x := two0 h.row
theorem TwoS.c1 {w : World} {b : Nat} {x y : Value} (h : TwoS w b x y) : w.cell? ⟨b, 1, none⟩ = some y := two1 h.row
theorem TwoS.f0 {w : World} {b : Nat} {x y : Value} (h : TwoS w b x y) : w.frozen? ⟨b, 0, none⟩ = false := row_freeI h.row 0
theorem TwoS.f1 {w : World} {b : Nat} {x y : Value} (h : TwoS w b x y) : w.frozen? ⟨b, 1, none⟩ = false := row_freeI h.row 1
theorem TwoS.grown {w w' : World} {b : Nat} {x y : Value} {r : Option Nat} (h : TwoS w b x y) (hg : w.grownBy w' r) (hne : r ≠ some b) : TwoS w' b x y := ⟨(hg.block b h.lt (fun e => hne e.symm)).trans h.row⟩
theorem TwoS.set0 {w : World} {b : Nat} {x y : Value} (h : TwoS w b x y) (u : Value) : TwoS (w.setCell ⟨b, 0, none⟩ u) b u y := ⟨by
  have := row_setI h.row 0 u
  simpa using this⟩
theorem ne_box {w : World} {B n b : Nat} {v x y : Value} {xs : List Value} (h : w.ownsRow B 3 1 v n xs) (hT : TwoS w b x y) : v.ownBlock ≠ some b := by
  intro e
  rcases h.2 with ⟨rfl, _⟩ | ⟨g, cap, cur, rfl, _, hg, _⟩
  · cases e
  · have e' : g = b := by injection e
    subst e'
    rw [hT.row] at hg
    injection hg with hg
    injection hg with _ ht
    exact absurd ht (by decide)
theorem grown_set {w : World} {b i : Nat} (u : Value) : w.grownBy (w.setCell ⟨b, i, none⟩ u) (some b) :=
  ⟨rfl, rfl, rfl, by simp [World.setCell], fun k hk hne => Below.heap_setCell w ⟨b, i, none⟩ u k (fun e => hne (by rw [show k = b from e]))⟩
theorem past_set {B b i : Nat} {a w : World} (h : Past B a w) (hb : B ≤ b) (u : Value) : Past B a (w.setCell ⟨b, i, none⟩ u) :=
  h.trans (Past.of_within (within_set (Within.refl b (b + 1) w) (Nat.le_refl _) (Nat.lt_succ_self _) i u) hb)

theorem liesTo_at {s : ByteArray} {j k : Nat} (hj : j = k + 2) (h : j < s.size) : liesTo s (k + 1) = liesTo s k ++ [lieB s[j]] := by
  subst hj
  exact liesTo_succ h
theorem upTo_at {s : ByteArray} {j k : Nat} (hu : UpTo s k) (hj : j = k + 2) (h : j < s.size) (hb : s[j] = 45 ∨ 48 ≤ s[j].toNat) : UpTo s (k + 1) := by
  subst hj
  intro i hi hlt
  by_cases e : i = k
  · subst e; exact hb
  · exact hu i hi (by omega)
theorem upTo_bad {s : ByteArray} {j k : Nat} (hj : j = k + 2) (h : j < s.size) (h1 : s[j].toNat ≠ 45) (h2 : s[j].toNat < 48) : ¬ Good s := by
  subst hj
  intro hg
  rcases hg.all k h (by omega) with e | e
  · exact h1 (by rw [e]; rfl)
  · omega
theorem res_wide {w : World} {lo hi lo' : Nat} {A : Option Addr} {zs : List Int} (h : Res w lo hi A zs) (h1 : lo' ≤ lo) (h2 : hi ≤ w.heap.size) : Res w lo' w.heap.size A zs :=
  ⟨by
    rcases h.own with ⟨a, b⟩ | ⟨g, cur, a, b, c, d⟩
    · exact .inl ⟨a, b⟩
    · exact .inr ⟨g, cur, a, Nat.le_trans h1 b, Nat.lt_of_lt_of_le c h2, d⟩, Nat.le_refl _⟩
theorem past_le {B B' : Nat} {a b : World} (h : Past B a b) (hb : B' ≤ B) : Past B' a b := ⟨h.os, h.tape, h.output, h.size, fun i h1 h2 => h.block i h1 (by omega)⟩
theorem good_ends {s : ByteArray} (h : Good s) : inB (s.size : Int) 3 14 = true := inB_t (by have := h.lo; omega) (by have := h.hi; omega)

end Go.Proofs.Ytdkffkgoalgjmac
