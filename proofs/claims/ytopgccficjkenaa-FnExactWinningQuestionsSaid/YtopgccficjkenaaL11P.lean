/- The map of what is known of the states of a race. -/
import Derived.Test.YtopgccficjkenaaL11N
import Derived.Test.YtopgccficjkenaaL6g
namespace Go.Proofs.Ytopgccficjkenaa
open Go.RowKit Go.ChangeShapes Go.WideShapes Go.Maps
set_option linter.unusedVariables false

def oV (o : OutR) : Value := .agg #[.bool o.wins, .int .i64 (o.long : Int), .int .i64 (o.short : Int), .int .i64 (o.many : Int)]
def zeroOV : Value := .agg #[.bool false, .int .i64 0, .int .i64 0, .int .i64 0]
/-- The map of what is known in block B. -/
structure OMapD (w : World) (B : Nat) (qs : List Int) (D : DataW Value) : Prop where
  owns : w.ownsMap Try.prog 9 heldP B (Maps.size D) D
  size : Maps.size D ≤ cntS D
  told : ∀ (M : Nat) (zs : List Int), Short M zs → has D (klS M zs) = true → D.atKey (klS M zs) (.held zeroOV) = .held (oV (raceL M qs zs))
def OMapM (w : World) (B : Nat) (qs : List Int) : Prop := ∃ D, OMapD w B qs D
theorem OMapM.made (w : World) (qs : List Int) : OMapM (w.alloc (.map #[] 0)) w.heap.size qs :=
  ⟨.map [], World.ownsMap_made _ _ _ _, Nat.zero_le _, fun M zs _ h => by cases h⟩
theorem OMapM.heap {w w' : World} {B : Nat} {qs : List Int} (h : OMapM w B qs) (hw : w'.heap[B]? = w.heap[B]?) : OMapM w' B qs := by
  obtain ⟨D, ⟨es, clock, hb, r⟩, h2, h3⟩ := h
  exact ⟨D, ⟨es, clock, hw.trans hb, r⟩, h2, h3⟩
theorem OMapM.lt {w : World} {B : Nat} {qs : List Int} (h : OMapM w B qs) : B < w.heap.size := by
  obtain ⟨D, ho, _, _⟩ := h
  exact ho.lt
theorem OMapM.step {w w' : World} {B : Nat} {qs : List Int} (h : OMapM w B qs) (hb : Below w.heap.size w w') : OMapM w' B qs := h.heap (hb.block _ h.lt)
theorem OMapM.within {w w' : World} {B lo hi : Nat} {qs : List Int} (h : OMapM w B qs) (hw : Within lo hi w w') (hd : B < lo ∨ hi ≤ B) : OMapM w' B qs := h.heap (hw.block _ h.lt hd)
theorem OMapD.put {w w' : World} {B : Nat} {qs : List Int} {D : DataW Value} (h : OMapD w B qs D) {M : Nat} {zs : List Int} (hs : Short M zs) (ho : w'.ownsMap Try.prog 9 heldP B (Maps.size D + 1) (D.put (klS M zs) (.held (oV (raceL M qs zs))))) : OMapM w' B qs := by
  have hi := h.owns.isMap
  have ht := h.owns.tidy keyedText
  refine ⟨_, own_tight6 ho, ?_, ?_⟩
  · rw [size_put ht]
    have hz := h.size
    have hmono : ∀ x : Nat × List Int, has D (klS x.1 x.2) = true → has (D.put (klS M zs) (.held (oV (raceL M qs zs)))) (klS x.1 x.2) = true := fun x hx => by
      by_cases e : klS x.1 x.2 = klS M zs
      · rw [e]; exact has_put_same hi (klS_key M zs) _
      · rw [has_put_other e]; exact hx
    cases hh : has D (klS M zs) with
    | true =>
      simp only [if_true]
      exact Nat.le_trans hz (List.countP_mono_left fun x _ hx => hmono x hx)
    | false =>
      simp only [Bool.false_eq_true, if_false]
      have := countP_step (p := fun s : Nat × List Int => has D (klS s.1 s.2)) (q := fun s : Nat × List Int => has (D.put (klS M zs) (.held (oV (raceL M qs zs)))) (klS s.1 s.2)) hmono (a := (M, zs)) hh (has_put_same hi (klS_key M zs) _) (allL_mem hs)
      unfold cntS at *
      omega
  · intro N ys hy hh
    by_cases e : klS N ys = klS M zs
    · obtain ⟨rfl, rfl⟩ := klS_inj hy hs e
      exact atKey_put_same hi (klS_key N ys) _ _
    · rw [has_put_other e] at hh
      rw [atKey_put_other e]
      exact h.told N ys hy hh
theorem oHeld (o : OutR) : heldP (oV o) = some (.held (oV o), []) := rfl
theorem zeroOV_run (w : World) : (zeroValue 70).run Try.prog w = .ok zeroOV w := by kernel_rfl
theorem makeOuts (w : World) : (Instr.makeMap 79 none).run Try.prog w = .ok (.map (some w.heap.size)) (w.alloc (.map #[] 0)) := by
  simp [Instr.makeMap, Result.andThen]
/-- What is looked up. -/
theorem OMapD.look {w : World} {B : Nat} {qs : List Int} {D : DataW Value} (h : OMapD w B qs D) {M : Nat} {zs : List Int} (hs : Short M zs) :
    (has D (klS M zs) = true ∧ (Instr.lookup 79 (.map (some B)) (.string (txV M zs)) true).run Try.prog w = .ok (.tuple #[oV (raceL M qs zs), .bool true]) w) ∨
    (has D (klS M zs) = false ∧ (Instr.lookup 79 (.map (some B)) (.string (txV M zs)) true).run Try.prog w = .ok (.tuple #[zeroOV, .bool false]) w) := by
  obtain ⟨v, ps, hrun, hv⟩ := h.owns.look_ok keyedText Try.underlying79 (zeroOV_run w) (zd := .held zeroOV) (zp := []) rfl (keyTxt (M := M) (by have := hs.len; omega : zs.length ≤ 12))
  simp only [heldP, Option.some.injEq, Prod.mk.injEq] at hv
  cases hh : has D (klS M zs) with
  | true =>
    rw [hh] at hrun
    rw [h.told M zs hs hh] at hv
    obtain ⟨hv, _⟩ := hv
    injection hv with hv
    subst hv
    exact .inl ⟨rfl, hrun⟩
  | false =>
    rw [hh] at hrun
    rw [atKey_of_not_has hh] at hv
    obtain ⟨hv, _⟩ := hv
    injection hv with hv
    subst hv
    exact .inr ⟨rfl, hrun⟩

/-- A block of four cells. -/
structure FourR (w : World) (b : Nat) (x y z u : Value) (t : TypeId) : Prop where
  row : w.heap[b]? = some (.cells #[x, y, z, u] t (0, 0))
section
variable {w w' : World} {b lo hi : Nat} {x y z u x' y' z' u' : Value} {t : TypeId}
theorem FourR.lt (h : FourR w b x y z u t) : b < w.heap.size := row_ltI h.row
theorem FourR.step (h : FourR w b x y z u t) (hb : Below w.heap.size w w') : FourR w' b x y z u t := ⟨(hb.block b h.lt).trans h.row⟩
theorem FourR.within (h : FourR w b x y z u t) (hb : Within lo hi w w') (hd : b < lo ∨ hi ≤ b) : FourR w' b x y z u t := ⟨(hb.block b h.lt hd).trans h.row⟩
theorem FourR.new (w : World) (x y z u : Value) (t : TypeId) (b : Nat) (hb : b = w.heap.size) : FourR (w.alloc (.cells #[x, y, z, u] t)) b x y z u t := ⟨alloc_row' _ _ _ _ hb⟩
theorem FourR.c0 (h : FourR w b x y z u t) : w.cell? ⟨b, 0, none⟩ = some x := by rw [row_cellI h.row]; rfl
theorem FourR.c1 (h : FourR w b x y z u t) : w.cell? ⟨b, 1, none⟩ = some y := by rw [row_cellI h.row]; rfl
theorem FourR.c2 (h : FourR w b x y z u t) : w.cell? ⟨b, 2, none⟩ = some z := by rw [row_cellI h.row]; rfl
theorem FourR.c3 (h : FourR w b x y z u t) : w.cell? ⟨b, 3, none⟩ = some u := by rw [row_cellI h.row]; rfl
theorem FourR.f (h : FourR w b x y z u t) (i : Nat) : w.frozen? ⟨b, i, none⟩ = false := row_freeI h.row i
/-- All four cells are stored. -/
theorem FourR.set (h : FourR w b x y z u t) (x' y' z' u' : Value) :
    FourR ((((w.setCell ⟨b, 0, none⟩ x').setCell ⟨b, 1, none⟩ y').setCell ⟨b, 2, none⟩ z').setCell ⟨b, 3, none⟩ u') b x' y' z' u' t ∧
    Within b (b + 1) w ((((w.setCell ⟨b, 0, none⟩ x').setCell ⟨b, 1, none⟩ y').setCell ⟨b, 2, none⟩ z').setCell ⟨b, 3, none⟩ u') := by
  refine ⟨⟨?_⟩, within_set (within_set (within_set (within_set (Within.refl _ _ w) (Nat.le_refl _) (Nat.lt_succ_self _) 0 x') (Nat.le_refl _) (Nat.lt_succ_self _) 1 y') (Nat.le_refl _) (Nat.lt_succ_self _) 2 z') (Nat.le_refl _) (Nat.lt_succ_self _) 3 u'⟩
  have := row_setI (row_setI (row_setI (row_setI h.row 0 x') 1 y') 2 z') 3 u'
  simpa using this
end
end Go.Proofs.Ytopgccficjkenaa
