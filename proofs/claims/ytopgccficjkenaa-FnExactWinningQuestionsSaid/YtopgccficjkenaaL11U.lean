/- The table of what is known of all states, as the specification keeps it. -/
import Derived.Test.YtopgccficjkenaaL11N
import Derived.Test.YtopgccficjkenaaL6b
import Derived.Laws.MakeOwn
namespace Go.Proofs.Ytopgccficjkenaa
open Go.RowKit Go.ChangeShapes Go.WideShapes
set_option linter.unusedVariables false

/-- A block of five cells. -/
structure FiveR (w : World) (b : Nat) (x y z u v : Value) (t : TypeId) : Prop where
  row : w.heap[b]? = some (.cells #[x, y, z, u, v] t (0, 0))
section
variable {w w' : World} {b lo hi : Nat} {x y z u v : Value} {t : TypeId}
theorem FiveR.lt (h : FiveR w b x y z u v t) : b < w.heap.size := row_ltI h.row
theorem FiveR.step (h : FiveR w b x y z u v t) (hb : Below w.heap.size w w') : FiveR w' b x y z u v t := ⟨(hb.block b h.lt).trans h.row⟩
theorem FiveR.within (h : FiveR w b x y z u v t) (hb : Within lo hi w w') (hd : b < lo ∨ hi ≤ b) : FiveR w' b x y z u v t := ⟨(hb.block b h.lt hd).trans h.row⟩
theorem FiveR.new (w : World) (x y z u v : Value) (t : TypeId) (b : Nat) (hb : b = w.heap.size) : FiveR (w.alloc (.cells #[x, y, z, u, v] t)) b x y z u v t := ⟨alloc_row' _ _ _ _ hb⟩
theorem FiveR.c0 (h : FiveR w b x y z u v t) : w.cell? ⟨b, 0, none⟩ = some x := by rw [row_cellI h.row]; rfl
theorem FiveR.c1 (h : FiveR w b x y z u v t) : w.cell? ⟨b, 1, none⟩ = some y := by rw [row_cellI h.row]; rfl
theorem FiveR.c2 (h : FiveR w b x y z u v t) : w.cell? ⟨b, 2, none⟩ = some z := by rw [row_cellI h.row]; rfl
theorem FiveR.c3 (h : FiveR w b x y z u v t) : w.cell? ⟨b, 3, none⟩ = some u := by rw [row_cellI h.row]; rfl
theorem FiveR.c4 (h : FiveR w b x y z u v t) : w.cell? ⟨b, 4, none⟩ = some v := by rw [row_cellI h.row]; rfl
theorem FiveR.f (h : FiveR w b x y z u v t) (i : Nat) : w.frozen? ⟨b, i, none⟩ = false := row_freeI h.row i
/-- One cell is stored. -/
theorem FiveR.set1 (h : FiveR w b x y z u v t) (y' : Value) : FiveR (w.setCell ⟨b, 1, none⟩ y') b x y' z u v t ∧ Within b (b + 1) w (w.setCell ⟨b, 1, none⟩ y') :=
  ⟨⟨by have := row_setI h.row 1 y'; simpa using this⟩, within_set (Within.refl _ _ w) (Nat.le_refl _) (Nat.lt_succ_self _) 1 y'⟩
theorem FiveR.set2 (h : FiveR w b x y z u v t) (y' : Value) : FiveR (w.setCell ⟨b, 2, none⟩ y') b x y y' u v t ∧ Within b (b + 1) w (w.setCell ⟨b, 2, none⟩ y') :=
  ⟨⟨by have := row_setI h.row 2 y'; simpa using this⟩, within_set (Within.refl _ _ w) (Nat.le_refl _) (Nat.lt_succ_self _) 2 y'⟩
theorem FiveR.set3 (h : FiveR w b x y z u v t) (y' : Value) : FiveR (w.setCell ⟨b, 3, none⟩ y') b x y z y' v t ∧ Within b (b + 1) w (w.setCell ⟨b, 3, none⟩ y') :=
  ⟨⟨by have := row_setI h.row 3 y'; simpa using this⟩, within_set (Within.refl _ _ w) (Nat.le_refl _) (Nat.lt_succ_self _) 3 y'⟩
theorem FiveR.set4 (h : FiveR w b x y z u v t) (y' : Value) : FiveR (w.setCell ⟨b, 4, none⟩ y') b x y z u y' t ∧ Within b (b + 1) w (w.setCell ⟨b, 4, none⟩ y') :=
  ⟨⟨by have := row_setI h.row 4 y'; simpa using this⟩, within_set (Within.refl _ _ w) (Nat.le_refl _) (Nat.lt_succ_self _) 4 y'⟩
/-- All five are stored. -/
theorem FiveR.set (h : FiveR w b x y z u v t) (x' y' z' u' v' : Value) :
    FiveR (((((w.setCell ⟨b, 0, none⟩ x').setCell ⟨b, 1, none⟩ y').setCell ⟨b, 2, none⟩ z').setCell ⟨b, 3, none⟩ u').setCell ⟨b, 4, none⟩ v') b x' y' z' u' v' t ∧
    Within b (b + 1) w (((((w.setCell ⟨b, 0, none⟩ x').setCell ⟨b, 1, none⟩ y').setCell ⟨b, 2, none⟩ z').setCell ⟨b, 3, none⟩ u').setCell ⟨b, 4, none⟩ v') := by
  refine ⟨⟨?_⟩, within_set (within_set (within_set (within_set (within_set (Within.refl _ _ w) (Nat.le_refl _) (Nat.lt_succ_self _) 0 x') (Nat.le_refl _) (Nat.lt_succ_self _) 1 y') (Nat.le_refl _) (Nat.lt_succ_self _) 2 z') (Nat.le_refl _) (Nat.lt_succ_self _) 3 u') (Nat.le_refl _) (Nat.lt_succ_self _) 4 v'⟩
  have := row_setI (row_setI (row_setI (row_setI (row_setI h.row 0 x') 1 y') 2 z') 3 u') 4 v'
  simpa using this
end

def zeroR : OutR := ⟨false, 0, 0, 0⟩
def foR (T : Bool) (o : OutR) : OutR := if T then o else zeroR
theorem foR_t (o : OutR) : foR true o = o := rfl
/-- The value of what is known. -/
def fV (o : OutR) : Value := .agg #[.bool true, .bool o.wins, .int .i64 (o.long : Int), .int .i64 (o.short : Int), .int .i64 (o.many : Int)]
/-- Five cells of the table. -/
structure Row5 (cs : Array Value) (k : Nat) (t : Bool) (o : OutR) : Prop where
  c0 : cs[k * 5]? = some (.bool t)
  c1 : cs[k * 5 + 1]? = some (.bool o.wins)
  c2 : cs[k * 5 + 2]? = some (.int .i64 (o.long : Int))
  c3 : cs[k * 5 + 3]? = some (.int .i64 (o.short : Int))
  c4 : cs[k * 5 + 4]? = some (.int .i64 (o.many : Int))
structure FTab (w : World) (B M n : Nat) (qs : List Int) (T : Nat → Bool) : Prop where
  row : ∃ cs, w.heap[B]? = some (.cells cs 75 (0, 0)) ∧ cs.size = (M + 2) ^ n * 5 ∧ ∀ k, k < (M + 2) ^ n → Row5 cs k (T k) (foR (T k) (raceL M qs (stOf M n k)))
  closed : ∀ zs, Short M zs → zs.length = n → T (keyS M zs) = true → ∀ q ∈ choL qs zs, ∀ y, T (keyS M (afters zs (M : Int) q y)) = true
section
variable {w w' : World} {B M n : Nat} {qs : List Int} {T : Nat → Bool}
theorem FTab.lt (h : FTab w B M n qs T) : B < w.heap.size := by
  obtain ⟨cs, hr, _⟩ := h.row
  exact row_ltI hr
theorem FTab.heap (h : FTab w B M n qs T) (hw : w'.heap[B]? = w.heap[B]?) : FTab w' B M n qs T := by
  obtain ⟨cs, hr, r⟩ := h.row
  exact ⟨⟨cs, hw.trans hr, r⟩, h.closed⟩
theorem FTab.step (h : FTab w B M n qs T) (hb : Below w.heap.size w w') : FTab w' B M n qs T := h.heap (hb.block _ h.lt)
theorem FTab.within {lo hi : Nat} (h : FTab w B M n qs T) (hw : Within lo hi w w') (hd : B < lo ∨ hi ≤ B) : FTab w' B M n qs T := h.heap (hw.block _ h.lt hd)
structure At5 (w : World) (B k : Nat) (t : Bool) (o : OutR) : Prop where
  c0 : w.cell? ⟨B, k * 5, none⟩ = some (.bool t)
  c1 : w.cell? ⟨B, k * 5 + 1, none⟩ = some (.bool o.wins)
  c2 : w.cell? ⟨B, k * 5 + 2, none⟩ = some (.int .i64 (o.long : Int))
  c3 : w.cell? ⟨B, k * 5 + 3, none⟩ = some (.int .i64 (o.short : Int))
  c4 : w.cell? ⟨B, k * 5 + 4, none⟩ = some (.int .i64 (o.many : Int))
theorem FTab.at5 (h : FTab w B M n qs T) {zs : List Int} (hs : Short M zs) (hn : zs.length = n) : At5 w B (keyS M zs) (T (keyS M zs)) (foR (T (keyS M zs)) (raceL M qs zs)) := by
  obtain ⟨cs, hr, _, hc⟩ := h.row
  subst hn
  have := hc (keyS M zs) (keyTo_lt hs.fit)
  rw [stOf_keyTo hs.fit] at this
  exact ⟨by rw [row_cellI hr]; exact this.c0, by rw [row_cellI hr]; exact this.c1, by rw [row_cellI hr]; exact this.c2, by rw [row_cellI hr]; exact this.c3, by rw [row_cellI hr]; exact this.c4⟩
theorem FTab.free (h : FTab w B M n qs T) (i : Nat) : w.frozen? ⟨B, i, none⟩ = false := by
  obtain ⟨cs, hr, _⟩ := h.row
  exact row_freeI hr i
def ftSet (w : World) (B k : Nat) (o : OutR) : World :=
  ((((w.setCell ⟨B, k * 5, none⟩ (.bool true)).setCell ⟨B, k * 5 + 1, none⟩ (.bool o.wins)).setCell ⟨B, k * 5 + 2, none⟩ (.int .i64 (o.long : Int))).setCell ⟨B, k * 5 + 3, none⟩ (.int .i64 (o.short : Int))).setCell ⟨B, k * 5 + 4, none⟩ (.int .i64 (o.many : Int))
theorem FTab.put (h : FTab w B M n qs T) {zs : List Int} (hs : Short M zs) (hn : zs.length = n) (hcl : ∀ q ∈ choL qs zs, ∀ y, T (keyS M (afters zs (M : Int) q y)) = true) :
    FTab (ftSet w B (keyS M zs) (raceL M qs zs)) B M n qs (fun j => T j || decide (j = keyS M zs)) ∧ Within B (B + 1) w (ftSet w B (keyS M zs) (raceL M qs zs)) := by
  obtain ⟨cs, hr, hsz, hc⟩ := h.row
  subst hn
  have hk := keyTo_lt hs.fit
  have hst := stOf_keyTo hs.fit
  generalize hkk : keyS M zs = k at hk hst
  unfold ftSet
  refine ⟨⟨⟨_, row_setI (row_setI (row_setI (row_setI (row_setI hr (k * 5) _) (k * 5 + 1) _) (k * 5 + 2) _) (k * 5 + 3) _) (k * 5 + 4) _, by simpa using hsz, fun j hj => ?_⟩, ?_⟩, within_set (within_set (within_set (within_set (within_set (Within.refl _ _ w) (Nat.le_refl _) (Nat.lt_succ_self _) _ _) (Nat.le_refl _) (Nat.lt_succ_self _) _ _) (Nat.le_refl _) (Nat.lt_succ_self _) _ _) (Nat.le_refl _) (Nat.lt_succ_self _) _ _) (Nat.le_refl _) (Nat.lt_succ_self _) _ _⟩
  · by_cases e : j = k
    · subst e
      rw [decide_eq_true rfl, Bool.or_true, foR_t, hst]
      refine ⟨?_, ?_, ?_, ?_, ?_⟩
      · rw [Array.getElem?_setIfInBounds_ne (by omega), Array.getElem?_setIfInBounds_ne (by omega), Array.getElem?_setIfInBounds_ne (by omega), Array.getElem?_setIfInBounds_ne (by omega), Array.getElem?_setIfInBounds_self_of_lt (by omega)]
      · rw [Array.getElem?_setIfInBounds_ne (by omega), Array.getElem?_setIfInBounds_ne (by omega), Array.getElem?_setIfInBounds_ne (by omega), Array.getElem?_setIfInBounds_self_of_lt (by simp only [Array.size_setIfInBounds]; omega)]
      · rw [Array.getElem?_setIfInBounds_ne (by omega), Array.getElem?_setIfInBounds_ne (by omega), Array.getElem?_setIfInBounds_self_of_lt (by simp only [Array.size_setIfInBounds]; omega)]
      · rw [Array.getElem?_setIfInBounds_ne (by omega), Array.getElem?_setIfInBounds_self_of_lt (by simp only [Array.size_setIfInBounds]; omega)]
      · rw [Array.getElem?_setIfInBounds_self_of_lt (by simp only [Array.size_setIfInBounds]; omega)]
    · rw [decide_eq_false e, Bool.or_false]
      have hq := hc j hj
      refine ⟨?_, ?_, ?_, ?_, ?_⟩
      · rw [Array.getElem?_setIfInBounds_ne (by omega), Array.getElem?_setIfInBounds_ne (by omega), Array.getElem?_setIfInBounds_ne (by omega), Array.getElem?_setIfInBounds_ne (by omega), Array.getElem?_setIfInBounds_ne (by omega)]; exact hq.c0
      · rw [Array.getElem?_setIfInBounds_ne (by omega), Array.getElem?_setIfInBounds_ne (by omega), Array.getElem?_setIfInBounds_ne (by omega), Array.getElem?_setIfInBounds_ne (by omega), Array.getElem?_setIfInBounds_ne (by omega)]; exact hq.c1
      · rw [Array.getElem?_setIfInBounds_ne (by omega), Array.getElem?_setIfInBounds_ne (by omega), Array.getElem?_setIfInBounds_ne (by omega), Array.getElem?_setIfInBounds_ne (by omega), Array.getElem?_setIfInBounds_ne (by omega)]; exact hq.c2
      · rw [Array.getElem?_setIfInBounds_ne (by omega), Array.getElem?_setIfInBounds_ne (by omega), Array.getElem?_setIfInBounds_ne (by omega), Array.getElem?_setIfInBounds_ne (by omega), Array.getElem?_setIfInBounds_ne (by omega)]; exact hq.c3
      · rw [Array.getElem?_setIfInBounds_ne (by omega), Array.getElem?_setIfInBounds_ne (by omega), Array.getElem?_setIfInBounds_ne (by omega), Array.getElem?_setIfInBounds_ne (by omega), Array.getElem?_setIfInBounds_ne (by omega)]; exact hq.c4
  · intro ys hy hl ht q hq y
    rw [Bool.or_eq_true] at ht ⊢
    left
    rcases ht with ht | ht
    · exact h.closed ys hy hl ht q hq y
    · have e : keyS M ys = keyS M zs := by rw [hkk]; exact of_decide_eq_true ht
      have e2 : ys = zs := by
        have h1 := stOf_keyTo hy.fit
        have h2 := stOf_keyTo hs.fit
        rw [← h1, ← h2, hl, e]
      subst e2
      exact hcl q hq y
end
theorem infoF11 : (Try.prog.info? 75).map (fun i => (i.zero, i.size, i.bytes)) = some (some (.agg #[.bool false, .bool false, .int .i64 0, .int .i64 0, .int .i64 0]), 5, 32) := by kernel_rfl
theorem makeFacts (t : Nat) (h : t ≤ 1000) (w : World) :
    (Instr.makeSlice 76 (.int .i64 (t : Int)) (.int .i64 (t : Int))).run Try.prog w = .ok (.slice (some ⟨w.heap.size, 0, none⟩) t t) (w.alloc (.cells (madeCells #[.bool false, .bool false, .int .i64 0, .int .i64 0, .int .i64 0] (t * 5)) 75)) := by
  obtain ⟨i, hi, hz, hs, hb⟩ := info_parts infoF11
  have := run_make (P := Try.prog) w 76 75 i _ Try.underlying76 hi hz .i64 .i64 (t : Int) (t : Int) (by omega) (Int.le_refl _) (by rw [hb]; omega) (by omega)
  rw [hs] at this
  simp only [Int.toNat_natCast] at this
  exact this
theorem FTab.made (w : World) (M n : Nat) (qs : List Int) : FTab (w.alloc (.cells (madeCells #[.bool false, .bool false, .int .i64 0, .int .i64 0, .int .i64 0] ((M + 2) ^ n * 5)) 75)) w.heap.size M n qs (fun _ => false) := by
  refine ⟨⟨_, alloc_row' _ _ _ _ rfl, size_madeCells _ _, fun k hk => ?_⟩, fun _ _ _ h => by cases h⟩
  have hh : ∀ i, i < 5 → (madeCells #[.bool false, .bool false, .int .i64 0, .int .i64 0, .int .i64 0] ((M + 2) ^ n * 5))[k * 5 + i]? = (#[.bool false, .bool false, .int .i64 0, .int .i64 0, .int .i64 0] : Array Value)[i]? := fun i hi => by
    unfold madeCells
    rw [Array.getElem?_map, Array.getElem?_range, if_pos (by omega)]
    have : (k * 5 + i) % 5 = i := by omega
    simp [this]
    match i, hi with
    | 0, _ => rfl
    | 1, _ => rfl
    | 2, _ => rfl
    | 3, _ => rfl
    | 4, _ => rfl
  exact ⟨hh 0 (by omega), hh 1 (by omega), hh 2 (by omega), hh 3 (by omega), hh 4 (by omega)⟩

/-- What is summed up of a state while its questions are looked through. -/
structure AccR where
  safe : Bool
  long : Int
  short : Int
  many : Int
def accStep (a : AccR) (x : OutR) : AccR := ⟨a.safe && !x.wins, max a.long ((x.long : Int) + 1), if a.short < 0 ∨ (x.short : Int) + 1 < a.short then (x.short : Int) + 1 else a.short, a.many + x.many⟩
/-- Behind the first k questions. -/
def accTo (f : Int → OutR) (l : List Int) : Nat → AccR
  | 0 => ⟨false, 0, -1, 0⟩
  | k + 1 => ⟨(orTo f l (k + 1)).wins, (orTo f l (k + 1)).long, (orTo f l (k + 1)).short, (orTo f l (k + 1)).many⟩
/-- While the answers to a question are. -/
def accIn (a : AccR) (n y : OutR) : Nat → AccR
  | 0 => ⟨true, a.long, a.short, a.many⟩
  | 1 => accStep ⟨true, a.long, a.short, a.many⟩ n
  | _ + 2 => accStep (accStep ⟨true, a.long, a.short, a.many⟩ n) y
theorem acc_step {M : Nat} {qs zs : List Int} {k : Nat} (n y : OutR) {q : Int} (hq : (choL qs zs).getD k 0 = q) (h : raceB M qs zs q = bothR n y) :
    accTo (raceB M qs zs) (choL qs zs) (k + 1) = ⟨(accTo (raceB M qs zs) (choL qs zs) k).safe || (accIn (accTo (raceB M qs zs) (choL qs zs) k) n y 2).safe, (accIn (accTo (raceB M qs zs) (choL qs zs) k) n y 2).long, (accIn (accTo (raceB M qs zs) (choL qs zs) k) n y 2).short, (accIn (accTo (raceB M qs zs) (choL qs zs) k) n y 2).many⟩ := by
  obtain ⟨nw, nl, nsh, nm⟩ := n
  obtain ⟨yw, yl, ysh, ym⟩ := y
  cases k with
  | zero =>
    simp only [accTo, orTo, accIn, accStep, hq, h, bothR, AccR.mk.injEq]
    refine ⟨by cases nw <;> cases yw <;> rfl, by omega, ?_, by omega⟩
    simp only [show ((-1 : Int) < 0) = True by simp, true_or, if_true]
    split <;> omega
  | succ k =>
    rw [show accTo (raceB M qs zs) (choL qs zs) (k + 1 + 1) = ⟨(orTo (raceB M qs zs) (choL qs zs) (k + 2)).wins, (orTo (raceB M qs zs) (choL qs zs) (k + 2)).long, (orTo (raceB M qs zs) (choL qs zs) (k + 2)).short, (orTo (raceB M qs zs) (choL qs zs) (k + 2)).many⟩ from rfl]
    rw [orTo, hq, h]
    simp only [accTo]
    generalize orTo (raceB M qs zs) (choL qs zs) (k + 1) = o
    obtain ⟨ow, ol, os, om⟩ := o
    simp only [accIn, accStep, OutR.or, bothR, AccR.mk.injEq]
    refine ⟨by cases nw <;> cases yw <;> cases ow <;> rfl, by omega, ?_, by omega⟩
    split <;> split <;> omega
end Go.Proofs.Ytopgccficjkenaa
