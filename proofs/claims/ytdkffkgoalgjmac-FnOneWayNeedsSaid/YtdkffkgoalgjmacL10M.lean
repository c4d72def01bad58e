/- The map of one-way plans; a one-way plan in memory. -/
import Derived.Test.YtdkffkgoalgjmacL10N
import Derived.Test.YtdkffkgoalgjmacPlanM
import Derived.Test.YtdkffkgoalgjmacPlans
namespace Go.Proofs.Ytdkffkgoalgjmac
open Go.RowKit Go.ChangeShapes Go.WideShapes Go.Maps
set_option linter.unusedVariables false

def planVO (p : PlanO) : Value := .agg #[.int .i64 (p.need : Int), .int .i64 (p.few : Int), .int .i64 (p.first.1 : Int), .int .i64 (p.first.2.1 : Int), .int .i64 (p.first.2.2 : Int)]
structure PlanDO (w : World) (M : Nat) (D : DataW Value) : Prop where
  owns : w.ownsMap Try.prog 102 heldR M (Maps.size D) D
  size : Maps.size D ≤ cntM D
  told : ∀ r : Row, rsum r ≤ 8 → has D (klR r) = true → D.atKey (klR r) (.held zeroPlan) = .held (planVO (planO r))
def PlanMO (w : World) (M : Nat) : Prop := ∃ D, PlanDO w M D
theorem PlanMO.made (w : World) : PlanMO (w.alloc (.map #[] 0)) w.heap.size :=
  ⟨.map [], World.ownsMap_made _ _ _ _, Nat.zero_le _, fun r _ h => by cases h⟩
theorem PlanMO.heap {w w' : World} {M : Nat} (h : PlanMO w M) (hw : w'.heap[M]? = w.heap[M]?) : PlanMO w' M := by
  obtain ⟨D, ⟨es, clock, hb, r⟩, h2, h3⟩ := h
  exact ⟨D, ⟨es, clock, hw.trans hb, r⟩, h2, h3⟩
theorem PlanMO.lt {w : World} {M : Nat} (h : PlanMO w M) : M < w.heap.size := by
  obtain ⟨D, ho, _, _⟩ := h
  exact ho.lt
theorem PlanMO.below {w w' : World} {M B : Nat} (h : PlanMO w M) (hb : Below B w w') (hM : M < B) : PlanMO w' M := h.heap (hb.block _ hM)
theorem PlanMO.step {w w' : World} {M : Nat} (h : PlanMO w M) (hb : Below w.heap.size w w') : PlanMO w' M := h.heap (hb.block _ h.lt)
theorem PlanDO.put {w w' : World} {M : Nat} {D : DataW Value} (h : PlanDO w M D) {r : Row} (h8 : rsum r ≤ 8) (ho : w'.ownsMap Try.prog 102 heldR M (Maps.size D + 1) (D.put (klR r) (.held (planVO (planO r))))) : PlanMO w' M := by
  have hi := h.owns.isMap
  have ht := h.owns.tidy keyedRow
  refine ⟨_, own_tight ho, ?_, ?_⟩
  · rw [size_put ht]
    have hs := h.size
    have hmono : ∀ k, has D (klR (rowK k)) = true → has (D.put (klR r) (.held (planVO (planO r)))) (klR (rowK k)) = true := fun k hk => by
      by_cases e : klR (rowK k) = klR r
      · rw [e]; exact has_put_same hi (klR_key r) _
      · rw [has_put_other e]; exact hk
    cases hh : has D (klR r) with
    | true =>
      simp only [if_true]
      exact Nat.le_trans hs (List.countP_mono_left fun k _ hk => hmono k hk)
    | false =>
      simp only [Bool.false_eq_true, if_false]
      have hk : keyR r < 729 := by
        obtain ⟨a, b, c⟩ := r
        simp only [rsum, keyR] at *
        omega
      have hstep : ∀ n, keyR r < n → (List.range n).countP (fun k => has D (klR (rowK k))) + 1 ≤ (List.range n).countP (fun k => has (D.put (klR r) (.held (planVO (planO r)))) (klR (rowK k))) := by
        intro n
        induction n with
        | zero => intro hn; omega
        | succ n ih =>
          intro hn
          rw [List.range_succ, List.countP_append, List.countP_append]
          by_cases e : keyR r = n
          · subst e
            have h1 : (List.range (keyR r)).countP (fun k => has D (klR (rowK k))) ≤ (List.range (keyR r)).countP (fun k => has (D.put (klR r) (.held (planVO (planO r)))) (klR (rowK k))) := List.countP_mono_left fun k _ hk => hmono k hk
            simp only [List.countP_singleton, rowK_key h8, hh, has_put_same hi (klR_key r), if_true, Bool.false_eq_true, if_false]
            omega
          · have h1 := ih (by omega)
            have h2 : [n].countP (fun k => has D (klR (rowK k))) ≤ [n].countP (fun k => has (D.put (klR r) (.held (planVO (planO r)))) (klR (rowK k))) := List.countP_mono_left fun k _ hk => hmono k hk
            omega
      have := hstep 729 hk
      unfold cntM at *
      omega
  · intro s hs8 hs
    by_cases e : klR s = klR r
    · obtain rfl := klR_inj hs8 h8 e
      exact atKey_put_same hi (klR_key s) _ _
    · rw [has_put_other e] at hs
      rw [atKey_put_other e]
      exact h.told s hs8 hs
theorem planHeldO (p : PlanO) : heldR (planVO p) = some (.held (planVO p), []) := rfl
theorem zeroPlan_runO (w : World) : (zeroValue 104).run Try.prog w = .ok zeroPlan w := by kernel_rfl
theorem makePlansO (w : World) : (Instr.makeMap 117 none).run Try.prog w = .ok (.map (some w.heap.size)) (w.alloc (.map #[] 0)) := by
  simp [Instr.makeMap, Result.andThen]
/-- What is looked up. -/
theorem PlanDO.look {w : World} {M : Nat} {D : DataW Value} (h : PlanDO w M D) {r : Row} (h8 : rsum r ≤ 8) :
    (has D (klR r) = true ∧ (Instr.lookup 117 (.map (some M)) (.agg #[.int .i64 (r.1 : Int), .int .i64 (r.2.1 : Int), .int .i64 (r.2.2 : Int)]) true).run Try.prog w = .ok (.tuple #[planVO (planO r), .bool true]) w) ∨
    (has D (klR r) = false ∧ (Instr.lookup 117 (.map (some M)) (.agg #[.int .i64 (r.1 : Int), .int .i64 (r.2.1 : Int), .int .i64 (r.2.2 : Int)]) true).run Try.prog w = .ok (.tuple #[zeroPlan, .bool false]) w) := by
  obtain ⟨v, ps, hrun, hv⟩ := h.owns.look_ok keyedRow Try.underlying117 (zeroPlan_runO w) (zd := .held zeroPlan) (zp := []) rfl (keyRow h8)
  simp only [heldR, Option.some.injEq, Prod.mk.injEq] at hv
  cases hh : has D (klR r) with
  | true =>
    rw [hh] at hrun
    rw [h.told r h8 hh] at hv
    obtain ⟨hv, _⟩ := hv
    injection hv with hv
    subst hv
    exact .inl ⟨rfl, hrun⟩
  | false =>
    rw [hh] at hrun
    rw [atKey_of_not_has hh] at hv
    obtain ⟨hv, _⟩ := hv
    injection hv with hv
    subst hv
    exact .inr ⟨rfl, hrun⟩
structure FiveO (w : World) (b : Nat) (x0 x1 x2 x3 x4 : Value) : Prop where
  row : w.heap[b]? = some (.cells #[x0, x1, x2, x3, x4] 104 (0, 0))
theorem FiveO.lt {w : World} {b : Nat} {x0 x1 x2 x3 x4 : Value} (h : FiveO w b x0 x1 x2 x3 x4) : b < w.heap.size := row_ltI h.row
theorem FiveO.step {w w' : World} {b : Nat} {x0 x1 x2 x3 x4 : Value} (h : FiveO w b x0 x1 x2 x3 x4) (hb : Below w.heap.size w w') : FiveO w' b x0 x1 x2 x3 x4 := ⟨(hb.block b h.lt).trans h.row⟩
theorem FiveO.keep {w w' : World} {b : Nat} {x0 x1 x2 x3 x4 : Value} (h : FiveO w b x0 x1 x2 x3 x4) (hb : w'.heap[b]? = w.heap[b]?) : FiveO w' b x0 x1 x2 x3 x4 := ⟨hb.trans h.row⟩
theorem FiveO.new (w : World) (x0 x1 x2 x3 x4 : Value) (b : Nat) (hb : b = w.heap.size) : FiveO (w.alloc (.cells #[x0, x1, x2, x3, x4] 104)) b x0 x1 x2 x3 x4 := ⟨alloc_row' _ _ _ _ hb⟩
theorem FiveO.c0 {w : World} {b : Nat} {x0 x1 x2 x3 x4 : Value} (h : FiveO w b x0 x1 x2 x3 x4) : w.cell? ⟨b, 0, none⟩ = some x0 := by rw [row_cellI h.row]; rfl
theorem FiveO.c1 {w : World} {b : Nat} {x0 x1 x2 x3 x4 : Value} (h : FiveO w b x0 x1 x2 x3 x4) : w.cell? ⟨b, 1, none⟩ = some x1 := by rw [row_cellI h.row]; rfl
theorem FiveO.c2 {w : World} {b : Nat} {x0 x1 x2 x3 x4 : Value} (h : FiveO w b x0 x1 x2 x3 x4) : w.cell? ⟨b, 2, none⟩ = some x2 := by rw [row_cellI h.row]; rfl
theorem FiveO.c3 {w : World} {b : Nat} {x0 x1 x2 x3 x4 : Value} (h : FiveO w b x0 x1 x2 x3 x4) : w.cell? ⟨b, 3, none⟩ = some x3 := by rw [row_cellI h.row]; rfl
theorem FiveO.c4 {w : World} {b : Nat} {x0 x1 x2 x3 x4 : Value} (h : FiveO w b x0 x1 x2 x3 x4) : w.cell? ⟨b, 4, none⟩ = some x4 := by rw [row_cellI h.row]; rfl
theorem FiveO.f {w : World} {b : Nat} {x0 x1 x2 x3 x4 : Value} (h : FiveO w b x0 x1 x2 x3 x4) (i : Nat) : w.frozen? ⟨b, i, none⟩ = false := row_freeI h.row i
theorem FiveO.far {w : World} {b g : Nat} {x0 x1 x2 x3 x4 : Value} (h : FiveO w b x0 x1 x2 x3 x4) (hne : b ≠ g) (i : Nat) (u : Value) : FiveO (w.setCell ⟨g, i, none⟩ u) b x0 x1 x2 x3 x4 := ⟨(Below.heap_setCell w ⟨g, i, none⟩ u b hne).trans h.row⟩
theorem FiveO.set {w : World} {b : Nat} {x0 x1 x2 x3 x4 : Value} (h : FiveO w b x0 x1 x2 x3 x4) (y0 y1 y2 y3 y4 : Value) : FiveO (set5 w b y0 y1 y2 y3 y4) b y0 y1 y2 y3 y4 := ⟨by
  have h1 := row_setI (row_setI (row_setI (row_setI (row_setI h.row 0 y0) 1 y1) 2 y2) 3 y3) 4 y4
  simpa [set5] using h1⟩
theorem FiveO.within {w w' : World} {b lo hi : Nat} {x0 x1 x2 x3 x4 : Value} (h : FiveO w b x0 x1 x2 x3 x4) (hb : Within lo hi w w') (hd : b < lo ∨ hi ≤ b) : FiveO w' b x0 x1 x2 x3 x4 := ⟨(hb.block b h.lt hd).trans h.row⟩
theorem FiveO.far5 {w : World} {b g : Nat} {x0 x1 x2 x3 x4 : Value} (h : FiveO w b x0 x1 x2 x3 x4) (hne : b ≠ g) (y0 y1 y2 y3 y4 : Value) : FiveO (set5 w g y0 y1 y2 y3 y4) b x0 x1 x2 x3 x4 := ⟨(block_set5 hne _ _ _ _ _).trans h.row⟩
theorem within_farO {lo hi g : Nat} {a w : World} (h : Within lo hi a w) (hg : a.heap.size ≤ g) (i : Nat) (u : Value) : Within lo hi a (w.setCell ⟨g, i, none⟩ u) :=
  ⟨h.os, h.tape, h.output, by simpa [World.setCell] using h.size, fun j hj hn => (Below.heap_setCell w ⟨g, i, none⟩ u j (fun e => by have e' : j = g := e; omega)).trans (h.block j hj hn)⟩
theorem within_farO5 {lo hi g : Nat} {a w : World} (h : Within lo hi a w) (hg : a.heap.size ≤ g) (y0 y1 y2 y3 y4 : Value) : Within lo hi a (set5 w g y0 y1 y2 y3 y4) :=
  within_farO (within_farO (within_farO (within_farO (within_farO h hg _ _) hg _ _) hg _ _) hg _ _) hg _ _
theorem Three.farO5 {w : World} {b g : Nat} {x y z : Value} (h : Three w b x y z) (hne : b ≠ g) (y0 y1 y2 y3 y4 : Value) : Three (set5 w g y0 y1 y2 y3 y4) b x y z := ⟨(block_set5 hne _ _ _ _ _).trans h.row⟩
end Go.Proofs.Ytdkffkgoalgjmac
