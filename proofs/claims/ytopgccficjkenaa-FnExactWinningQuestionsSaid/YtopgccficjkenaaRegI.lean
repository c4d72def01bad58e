/- A region that draws its order, by an invariant over which of its operations have come up. -/
import Derived.Test.YtopgccficjkenaaInts
import Derived.Deep.CutRange
namespace Go.Proofs.Ytopgccficjkenaa
open Go.RowKit Go.ChangeShapes Go.WideShapes
set_option linter.unusedVariables false

section
variable {P : Program} {ops : Array Oper} {Q : Exit → Act → World → Prop}
theorem wpAny_inv5 (Inv : (Nat → Bool) → Act → World → Prop)
    (hord : ∀ i o, ops[i]? = some o → ∀ e ∈ o.after, Region.binds .any e = true → e.on < i)
    (hstep : ∀ D a w, Inv D a w → ∀ i o, ops[i]? = some o → D i = false → (∀ e ∈ o.after, Region.binds .any e = true → D e.on = true) → wpOp P ops Q i (Inv (fun j => D j || j == i)) a w)
    (hdone : ∀ D a w, Inv D a w → (∀ i, i < ops.size → D i = true) → Q .normal a w) :
    ∀ (fuel : Nat) (listed : Array Bool) (a : Act) (w : World), listed.size = ops.size → listed.toList.countP (fun b => !b) ≤ fuel → Inv (fun j => listed.getD j false) a w → wpAny P .any ops Q fuel listed a w := by
  have hall : ∀ (listed : Array Bool), listed.size = ops.size → Region.ready .any ops listed = [] → ∀ i, i < ops.size → listed.getD i false = true := by
    intro listed hsz hr
    have key : ∀ n i, i ≤ n → i < ops.size → listed.getD i false = true := by
      intro n
      induction n with
      | zero =>
        intro i hi hlt
        rcases Bool.eq_false_or_eq_true (listed.getD i false) with h | h
        · exact h
        · exfalso
          have hm : i ∈ Region.ready .any ops listed := mem_ready.2 ⟨by simpa [Array.getD, hsz, hlt] using h, ops[i], by simp [hlt], fun e he hb => absurd (hord i _ (by simp [hlt]) e he hb) (by omega)⟩
          rw [hr] at hm; cases hm
      | succ n ih =>
        intro i hi hlt
        rcases Bool.eq_false_or_eq_true (listed.getD i false) with h | h
        · exact h
        · exfalso
          have hm : i ∈ Region.ready .any ops listed := mem_ready.2 ⟨by simpa [Array.getD, hsz, hlt] using h, ops[i], by simp [hlt], fun e he hb => by
            have := hord i _ (by simp [hlt]) e he hb
            exact ih e.on (by omega) (by omega)⟩
          rw [hr] at hm; cases hm
    exact fun i hi => key i i (Nat.le_refl _) hi
  intro fuel
  induction fuel with
  | zero =>
    intro listed a w hsz hc hI
    have hr : Region.ready .any ops listed = [] := by
      cases hr : Region.ready .any ops listed with
      | nil => rfl
      | cons i l =>
        have hm : i ∈ Region.ready .any ops listed := by rw [hr]; simp
        obtain ⟨h1, o, ho, _⟩ := mem_ready.1 hm
        have hlt : i < listed.size := by rw [hsz]; exact (Array.getElem?_eq_some_iff.1 ho).1
        exfalso
        have : 0 < listed.toList.countP (fun b => !b) := List.countP_pos_iff.2 ⟨listed[i], by simp, by simpa [Array.getD, hlt] using h1⟩
        omega
    exact ⟨hr, hdone _ _ _ hI (hall listed hsz hr)⟩
  | succ fuel ih =>
    intro listed a w hsz hc hI
    refine ⟨fun hr => hdone _ _ _ hI (hall listed hsz hr), fun i hi => ?_⟩
    obtain ⟨h1, o, ho, hafter⟩ := mem_ready.1 hi
    have hlt : i < listed.size := by rw [hsz]; exact (Array.getElem?_eq_some_iff.1 ho).1
    have h1' : listed.getD i false = false := by simpa [Array.getD, hlt] using h1
    refine wpOp_mono (fun a' w' h => ?_) (hstep _ a w hI i o ho h1' hafter)
    refine ih _ a' w' (by simpa using hsz) ?_ ?_
    · have hc2 : (listed.setIfInBounds i true).toList.countP (fun b => !b) + 1 ≤ listed.toList.countP (fun b => !b) := by
        rw [Array.toList_setIfInBounds]
        have hl : i < listed.toList.length := by simpa using hlt
        have hb : listed.toList[i] = false := by simpa [Array.getD, hlt] using h1
        have := List.countP_set (p := fun b => !b) (a := true) hl
        have hp : 0 < listed.toList.countP (fun b => !b) := List.countP_pos_iff.2 ⟨listed.toList[i], by simp, by simp [hb]⟩
        rw [this, hb]
        simp only [Bool.not_false, Bool.not_true, if_true, if_false, Bool.false_eq_true]
        omega
      omega
    · have e : (fun j => (listed.setIfInBounds i true).getD j false) = (fun j => listed.getD j false || j == i) := by
        funext j
        by_cases hj : j = i
        · subst hj; simp [Array.getD, hlt]
        · by_cases hjl : j < listed.size
          · simp [Array.getD, hjl, hj, Ne.symm hj]
          · simp [Array.getD, hjl, hj]
      rw [e]
      exact h
/-- No operation is guarded, and each waits for earlier ones alone. -/
def ordOK5 (ops : Array Oper) : Bool := (List.range ops.size).all fun i => ((ops[i]?).map fun o => o.guard.isNone && o.after.all fun e => !Region.binds .any e || decide (e.on < i)).getD true
theorem wp_region_inv5 {id : Nat} {a : Act} {w : World} (hm : P.follows .mixedOrders = true) (hok : ordOK5 ops = true) (Inv : (Nat → Bool) → Act → World → Prop)
    (h0 : Inv (fun _ => false) a w.drew)
    (hstep : ∀ D a w, Inv D a w → ∀ i o, ops[i]? = some o → D i = false → (∀ e ∈ o.after, Region.binds .any e = true → D e.on = true) → ∀ K : Act → World → Prop, (∀ a' w', Inv (fun j => D j || j == i) a' w' → K a' w') → o.wp P a w K Q)
    (hdone : ∀ D a w, Inv D a w → (∀ i, i < ops.size → D i = true) → Q .normal a w) : (Code.region id ops true).wp P Q a w := by
  have hk : ∀ i o, ops[i]? = some o → o.guard.isNone = true ∧ ∀ e ∈ o.after, Region.binds .any e = true → e.on < i := by
    intro i o ho
    have hlt : i < ops.size := (Array.getElem?_eq_some_iff.1 ho).1
    simp only [ordOK5, List.all_eq_true, List.mem_range] at hok
    have := hok i hlt
    rw [ho] at this
    simp only [Option.map_some, Option.getD_some, Bool.and_eq_true, Array.all_eq_true_iff_forall_mem, Bool.or_eq_true, Bool.not_eq_true', decide_eq_true_eq] at this
    refine ⟨this.1, fun e he hb => ?_⟩
    rcases this.2 e he with h | h
    · rw [hb] at h; cases h
    · exact h
  refine wp_region_any hm (wpAny_inv5 Inv (fun i o ho => (hk i o ho).2) (fun D a w hI i o ho hD hA => ?_) hdone ops.size (Array.replicate ops.size false) a w.drew (by simp) ?_ ?_)
  · have hg := (hk i o ho).1
    have hg2 : o.guard = none := by
      cases h : o.guard with
      | none => rfl
      | some x => rw [h] at hg; cases hg
    unfold wpOp
    simp only [ho]
    rw [if_pos (by simp [Region.wanted, hg2])]
    exact .inl (hstep D a w hI i o ho hD hA _ (fun _ _ h => h))
  · have := List.countP_le_length (p := fun b : Bool => !b) (l := (Array.replicate ops.size false).toList)
    simpa using this
  · have e : (fun j => (Array.replicate ops.size false).getD j false) = (fun _ => false) := by
      funext j
      by_cases hj : j < ops.size <;> simp [Array.getD, hj]
    rw [e]
    exact h0
end
end Go.Proofs.Ytopgccficjkenaa
