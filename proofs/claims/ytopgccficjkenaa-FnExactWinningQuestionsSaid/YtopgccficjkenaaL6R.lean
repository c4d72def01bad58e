/- Rows that grow by append: where they lie, that they are apart. -/
import Derived.Test.YtopgccficjkenaaOwn
import Derived.Test.YtopgccficjkenaaAfter2
import Derived.Deep.AppendLies
namespace Go.Proofs.Ytopgccficjkenaa
open Go.RowKit Go.ChangeShapes Go.WideShapes
set_option linter.unusedVariables false

theorem ownsRow_past6 {w w' : World} {B n : Nat} {v : Value} {e : TypeId} {xs : List Value} (h : w.ownsRow B e 1 v n xs) (hp : Past w.heap.size w w') : w'.ownsRow B e 1 v n xs :=
  ⟨h.1, h.2.imp id fun ⟨g, cap, cur, a, b, hg, r⟩ => ⟨g, cap, cur, a, b, (hp.block g (row_ltI hg) (row_ltI hg)).trans hg, r⟩⟩
theorem own_rowS6 {w : World} {B n : Nat} {v : Value} {zs : List Int} (h : w.ownsRow B 3 1 v n (zs.map (Value.int .i64))) (hn : n = zs.length) (h0 : 0 < n) : ∃ g c, v = .slice (some ⟨g, 0, none⟩) zs.length c ∧ B ≤ g ∧ Own w g (g + 1) (some ⟨g, 0, none⟩) zs := by
  subst hn
  rcases h.2 with ⟨rfl, h1⟩ | ⟨g, cap, cur, rfl, hb, hg, hl, hm, hs, ht⟩
  · omega
  · refine ⟨g, cap, rfl, hb, .inr ⟨g, cur, rfl, Nat.le_refl _, Nat.lt_succ_self _, hg, by omega, fun j x hx => ?_⟩⟩
    have hj : j < zs.length := by
      rcases Nat.lt_or_ge j zs.length with h1 | h1
      · exact h1
      · rw [List.getElem?_eq_none h1] at hx; cases hx
    have e : (cur.toList.take (zs.length * 1))[j]? = some (Value.int .i64 x) := by rw [ht]; simp [hx]
    rw [List.getElem?_take_of_lt (by omega)] at e
    simpa using e
theorem past_alloc6 {B : Nat} {a w : World} (h : Past B a w) (o : Obj) : Past B a (w.alloc o) := h.trans (Past.of_below ((Below.refl _ w).alloc (Nat.le_refl _) o))
theorem past_base6 {B B' : Nat} {a w : World} (h : Past B a w) (hb : B' ≤ B) : Past B' a w := ⟨h.os, h.tape, h.output, h.size, fun i hi hl => h.block i hi (by omega)⟩
theorem ownsRow_within6 {w w' : World} {B n lo hi : Nat} {v : Value} {e : TypeId} {xs : List Value} (h : w.ownsRow B e 1 v n xs) (hw : Within lo hi w w') (hB : hi ≤ B) : w'.ownsRow B e 1 v n xs :=
  ⟨h.1, h.2.imp id fun ⟨g, cap, cur, a, b, hg, r⟩ => ⟨g, cap, cur, a, b, (hw.block g (row_ltI hg) (.inr (by omega))).trans hg, r⟩⟩
theorem ownsRow_slice6 {w : World} {B n : Nat} {v : Value} {e : TypeId} {xs : List Value} (h : w.ownsRow B e 1 v n xs) : ∃ A c, v = .slice A n c := by
  rcases h.2 with ⟨rfl, h0⟩ | ⟨g, cap, cur, rfl, _⟩
  · exact ⟨none, 0, by rw [h0]⟩
  · exact ⟨_, cap, rfl⟩
theorem ownsRow_at6 {w : World} {B n k : Nat} {v : Value} {zs : List Int} (h : w.ownsRow B 3 1 v n (zs.map (Value.int .i64))) (hk : k < zs.length) : ∃ g cap, v = .slice (some ⟨g, 0, none⟩) n cap ∧ B ≤ g ∧ w.cell? ⟨g, k, none⟩ = some (.int .i64 zs[k]) := by
  have hn : n = zs.length := by have := h.1; simp at this; omega
  obtain ⟨g, c, hv, hb, ho⟩ := own_rowS6 (zs := zs) h hn (by omega)
  have := own_cell ho hk
  rw [show zs.getD k 0 = zs[k] by simp [List.getD, hk]] at this
  exact ⟨g, c, by rw [hv, hn], hb, this⟩
structure Apart6 (w : World) (v v' : Value) : Prop where
  ne : v.ownBlock ≠ v'.ownBlock
  l : ∀ q, v.ownBlock = some q → q < w.heap.size
  r : ∀ q, v'.ownBlock = some q → q < w.heap.size
theorem Apart6.size {w w' : World} {v v' : Value} (h : Apart6 w v v') (hs : w.heap.size ≤ w'.heap.size) : Apart6 w' v v' := ⟨h.ne, fun q e => Nat.lt_of_lt_of_le (h.l q e) hs, fun q e => Nat.lt_of_lt_of_le (h.r q e) hs⟩
theorem ownsRow_other6 {w w' : World} {B n : Nat} {v : Value} {e : TypeId} {xs : List Value} {q : Option Nat} (h : w.ownsRow B e 1 v n xs) (hg : w.grownBy w' q) (hne : v.ownBlock ≠ q) : w'.ownsRow B e 1 v n xs :=
  ⟨h.1, h.2.imp id fun ⟨g, cap, cur, a, b, hr, r⟩ => ⟨g, cap, cur, a, b, (hg.block g (row_ltI hr) (fun e => hne (by rw [a]; exact e))).trans hr, r⟩⟩
theorem ownsRow_cell6 {w : World} {B n g c k : Nat} {zs : List Int} (h : w.ownsRow B 3 1 (.slice (some ⟨g, 0, none⟩) n c) n (zs.map (Value.int .i64))) (hk : k < zs.length) : w.cell? ⟨g, k, none⟩ = some (.int .i64 zs[k]) := by
  obtain ⟨g', c', e, _, hc⟩ := ownsRow_at6 h hk
  injection e with e
  injection e with e
  injection e with e _
  subst e
  exact hc
theorem apart_next6 {w w' : World} {v v' : Value} {g n c H : Nat} (h : Apart6 w v v') (hb : v.ownBlock = some g ∨ g = H) (hH : w.heap.size = H) (hg : g < w'.heap.size) (hs : w.heap.size ≤ w'.heap.size) : Apart6 w' (.slice (some ⟨g, 0, none⟩) n c) v' :=
  ⟨fun e => by
    rcases hb with hb | hb
    · exact h.ne (hb.trans e)
    · have := h.r g e.symm
      omega, fun q e => by
    have e : g = q := by injection e
    omega, fun q e => Nat.lt_of_lt_of_le (h.r q e) hs⟩
theorem Apart6.symm {w : World} {v v' : Value} (h : Apart6 w v v') : Apart6 w v' v := ⟨fun e => h.ne e.symm, h.r, h.l⟩
end Go.Proofs.Ytopgccficjkenaa
