/- What stands of rows whose elements have more than a cell. -/
import Derived.Test.YtpjoljaamakagaaOwn
import Derived.Test.YtpjoljaamakagaaAfter2
namespace Go.Proofs.Ytpjoljaamakagaa
open Go.RowKit Go.ChangeShapes Go.WideShapes Go.Maps
set_option linter.unusedVariables false

theorem past8 {sz : Nat} {w w' : World} {B n : Nat} {v : Value} {e : TypeId} {xs : List Value} (h : w.ownsRow B e sz v n xs) (hp : Past w.heap.size w w') : w'.ownsRow B e sz v n xs :=
  ⟨h.1, h.2.imp id fun ⟨g, cap, cur, a, b, hg, r⟩ => ⟨g, cap, cur, a, b, (hp.block g (row_ltI hg) (row_ltI hg)).trans hg, r⟩⟩
theorem within8 {sz : Nat} {w w' : World} {B n lo hi : Nat} {v : Value} {e : TypeId} {xs : List Value} (h : w.ownsRow B e sz v n xs) (hw : Within lo hi w w') (hB : hi ≤ B) : w'.ownsRow B e sz v n xs :=
  ⟨h.1, h.2.imp id fun ⟨g, cap, cur, a, b, hg, r⟩ => ⟨g, cap, cur, a, b, (hw.block g (row_ltI hg) (.inr (by omega))).trans hg, r⟩⟩
theorem base8 {sz : Nat} {w : World} {B B' n : Nat} {v : Value} {e : TypeId} {xs : List Value} (h : w.ownsRow B e sz v n xs) (hB : B' ≤ B) : w.ownsRow B' e sz v n xs :=
  ⟨h.1, h.2.imp id fun ⟨g, cap, cur, a, b, r⟩ => ⟨g, cap, cur, a, Nat.le_trans hB b, r⟩⟩
theorem row_two8 {sz : Nat} {w w' : World} {B n b : Nat} {v x y : Value} {e T : TypeId} {xs : List Value} (h : w.ownsRow B e sz v n xs) (t : Two w b x y T) (hne : e ≠ T) (hw : Within b (b + 1) w w') : w'.ownsRow B e sz v n xs :=
  ⟨h.1, h.2.imp id fun ⟨g, cap, cur, a, b', hg, r⟩ => ⟨g, cap, cur, a, b', (hw.block g (row_ltI hg) (by
    have : g ≠ b := by
      rintro rfl
      have e2 := hg.symm.trans t.row
      injection e2 with e2
      injection e2 with _ e3
      exact hne e3
    omega)).trans hg, r⟩⟩
theorem grown_ne8 {sz : Nat} {w : World} {B n g : Nat} {v : Value} {e T : TypeId} {xs : List Value} {cs : Array Value} (h : w.ownsRow B e sz v n xs) (t : w.heap[g]? = some (.cells cs T (0, 0))) (hne : e ≠ T) : some g ≠ v.ownBlock := by
  intro hk
  rcases h.2 with ⟨rfl, _⟩ | ⟨g', cap, cur, rfl, _, hg, _⟩
  · cases hk
  · have hk : g = g' := by injection hk
    subst hk
    have e2 := hg.symm.trans t
    injection e2 with e2
    injection e2 with _ e3
    exact hne e3
theorem grown_block8 {sz : Nat} {w w' : World} {B n g : Nat} {v : Value} {e T : TypeId} {xs : List Value} {cs : Array Value} {o : Obj} (h : w.ownsRow B e sz v n xs) (t : w.heap[g]? = some (.cells cs T (0, 0))) (hne : e ≠ T) (hg : (w.alloc o).grownBy w' v.ownBlock) : w'.heap[g]? = w.heap[g]? :=
  (hg.block g (Nat.lt_of_lt_of_le (row_ltI t) (Nat.le_of_lt (by simp))) (grown_ne8 h t hne)).trans (((Below.refl _ w).alloc (Nat.le_refl _) o).block g (row_ltI t))
theorem grown_two8 {sz : Nat} {w w' : World} {B n b : Nat} {v x y : Value} {e T : TypeId} {xs : List Value} {o : Obj} (h : w.ownsRow B e sz v n xs) (t : Two w b x y T) (hne : e ≠ T) (hg : (w.alloc o).grownBy w' v.ownBlock) : Two w' b x y T :=
  ⟨(grown_block8 h t.row hne hg).trans t.row⟩
theorem grown_own8 {sz : Nat} {w w' : World} {B n g : Nat} {v : Value} {e : TypeId} {xs : List Value} {o : Obj} {L : List Int} (h : w.ownsRow B e sz v n xs) (t : Own w g (g + 1) (some ⟨g, 0, none⟩) L) (hne : e ≠ 3) (hg : (w.alloc o).grownBy w' v.ownBlock) : Own w' g (g + 1) (some ⟨g, 0, none⟩) L := by
  obtain ⟨cur, hr, _⟩ := own_at t
  exact own_same t (grown_block8 h hr hne hg)
theorem within_grown8 {sz : Nat} {w w' : World} {B n : Nat} {v : Value} {xs : List Value} {e : TypeId} (h : w.ownsRow B e sz v n xs) (hg : w.grownBy w' v.ownBlock) : Within B w.heap.size w w' :=
  ⟨hg.os, hg.tape, hg.output, hg.size, fun i hi hd => hg.block i hi (by
    rcases h.2 with ⟨rfl, _⟩ | ⟨g, cap, cur, rfl, hb, hgr, _⟩
    · intro hk; cases hk
    · intro hk
      have hk : i = g := by injection hk
      omega)⟩
theorem pastGrown8 {sz : Nat} {B n : Nat} {w w1 : World} {v : Value} {xs : List Value} {e : TypeId} {o : Obj} (h : w.ownsRow B e sz v n xs) (hg : (w.alloc o).grownBy w1 v.ownBlock) : Past B w w1 :=
  (Past.of_below ((Below.refl _ _).alloc (Nat.le_refl _) o)).trans (Past.of_within (within_grown8 (h.alloc o) hg) (Nat.le_refl _))
theorem ownsRow_slice8 {sz : Nat} {w : World} {B n : Nat} {v : Value} {e : TypeId} {xs : List Value} (h : w.ownsRow B e sz v n xs) : ∃ A c, v = .slice A n c := by
  rcases h.2 with ⟨rfl, h0⟩ | ⟨g, cap, cur, rfl, _⟩
  · exact ⟨none, 0, by rw [h0]⟩
  · exact ⟨_, cap, rfl⟩
theorem ownBlock_lt8 {sz : Nat} {w : World} {B n : Nat} {v : Value} {e : TypeId} {xs : List Value} (h : w.ownsRow B e sz v n xs) {g : Nat} (hk : some g = v.ownBlock) : g < w.heap.size := by
  rcases h.2 with ⟨rfl, _⟩ | ⟨g', cap, cur, rfl, _, hg, _⟩
  · cases hk
  · have hk : g = g' := by injection hk
    subst hk
    exact row_ltI hg
end Go.Proofs.Ytpjoljaamakagaa
