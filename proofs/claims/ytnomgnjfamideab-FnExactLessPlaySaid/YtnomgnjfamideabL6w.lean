/- LessWorst: of the program. -/
import Derived.Test.YtnomgnjfamideabL6m
import Derived.Deep.LoopGhost
namespace Go.Proofs.Ytnomgnjfamideab
open Go.RowKit Go.ChangeShapes Go.WideShapes Go.Maps
set_option linter.unusedVariables false

/-- The answer that makes the plan ask longest. -/
def yesW (M : Nat) (s : List Int) : Bool := decide (needL M (cmpAft s M (planS M s).2 false) + 1 < needL M s)
def wSt (M : Nat) (zs : List Int) : Nat → List Int
  | 0 => zs
  | i + 1 => if doneL (wSt M zs i) then wSt M zs i else cmpAft (wSt M zs i) M (planS M (wSt M zs i)).2 (yesW M (wSt M zs i))
def wL (M : Nat) (zs : List Int) : Nat → List Bool
  | 0 => []
  | i + 1 => wL M zs i ++ (if doneL (wSt M zs i) then [] else [yesW M (wSt M zs i)])
theorem wSt_short {M : Nat} {zs : List Int} (h : Short M zs) : ∀ i, Short M (wSt M zs i) ∧ (wSt M zs i).length = zs.length
  | 0 => ⟨h, rfl⟩
  | i + 1 => by
    have ih := wSt_short h i
    rw [wSt]
    split
    · exact ih
    · exact ⟨ih.1.aft _ _, by rw [cmpAft_len]; exact ih.2⟩
theorem wSt_next {M : Nat} {zs : List Int} {i : Nat} (h : doneL (wSt M zs i) = false) : wSt M zs (i + 1) = cmpAft (wSt M zs i) M (planS M (wSt M zs i)).2 (yesW M (wSt M zs i)) := by
  rw [wSt, h]; rfl
theorem wL_next {M : Nat} {zs : List Int} {i : Nat} (h : doneL (wSt M zs i) = false) : wL M zs (i + 1) = wL M zs i ++ [yesW M (wSt M zs i)] := by
  rw [wL, h]; rfl
theorem plan_in {M : Nat} {s : List Int} (h : Short M s) (hd : doneL s = false) : lowN s < (planS M s).2 ∧ (planS M s).2 ≤ highN s ∧ 1 ≤ needL M s := by
  rcases done_iff h with ⟨h1, _⟩ | ⟨_, h1, _, h2, h3⟩
  · rw [hd] at h1; cases h1
  · exact ⟨h2, h3, h1⟩
theorem wSt_mass {M : Nat} {zs : List Int} (hs : Short M zs) {i : Nat} (h : doneL (wSt M zs i) = false) : massL M (wSt M zs (i + 1)) < massL M (wSt M zs i) := by
  have h1 := (wSt_short hs i).1
  have h2 := plan_in h1 h
  rw [wSt_next h]
  exact mass_lt h1 h2.1 h2.2.1 _
theorem mass_ten {M : Nat} {zs : List Int} (h : Short M zs) : massL M zs ≤ 10 := by
  have : allS6 (fun M zs => decide (massL M zs ≤ 10)) = true := by decide +kernel
  exact of_decide_eq_true (allS6_at this h)
theorem wL_stop {M : Nat} {zs : List Int} {i : Nat} (h : doneL (wSt M zs i) = true) : ∀ d, wSt M zs (i + d) = wSt M zs i ∧ wL M zs (i + d) = wL M zs i
  | 0 => ⟨rfl, rfl⟩
  | d + 1 => by
    obtain ⟨h1, h2⟩ := wL_stop h d
    rw [← Nat.add_assoc, wSt, wL, h1, h2, h]
    simp
theorem wL_end {M : Nat} {zs : List Int} {i : Nat} (h : doneL (wSt M zs i) = true) (hi : i ≤ 10) : wL M zs i = wL M zs 10 := by
  have := (wL_stop h (10 - i)).2
  rw [show i + (10 - i) = 10 by omega] at this
  exact this.symm
theorem wL_len (M : Nat) (zs : List Int) : ∀ i, (wL M zs i).length ≤ i
  | 0 => Nat.le_refl _
  | i + 1 => by
    have := wL_len M zs i
    rw [wL, List.length_append]
    split <;> simp <;> omega
theorem infoB6 : (Try.prog.info? 4).map (fun i => (i.zero, i.size, i.bytes)) = some (some (.bool false), 1, 1) := by kernel_rfl
/-- A row of another type is as it was. -/
theorem own_row_two6 {w w' : World} {B n b : Nat} {v x y : Value} {e T : TypeId} {xs : List Value} (h : w.ownsRow B e 1 v n xs) (t : Two w b x y T) (hne : e ≠ T) (hw : Within b (b + 1) w w') : w'.ownsRow B e 1 v n xs :=
  ⟨h.1, h.2.imp id fun ⟨g, cap, cur, a, b', hg, r⟩ => ⟨g, cap, cur, a, b', (hw.block g (row_ltI hg) (by
    have : g ≠ b := by
      rintro rfl
      have e2 := hg.symm.trans t.row
      injection e2 with e2
      injection e2 with _ e3
      exact hne e3
    omega)).trans hg, r⟩⟩
theorem grown_ne6 {w : World} {B n g : Nat} {v : Value} {e T : TypeId} {xs : List Value} {cs : Array Value} (h : w.ownsRow B e 1 v n xs) (t : w.heap[g]? = some (.cells cs T (0, 0))) (hne : e ≠ T) : some g ≠ v.ownBlock := by
  intro hk
  rcases h.2 with ⟨rfl, _⟩ | ⟨g', cap, cur, rfl, _, hg, _⟩
  · cases hk
  · have hk : g = g' := by injection hk
    subst hk
    have e2 := hg.symm.trans t
    injection e2 with e2
    injection e2 with _ e3
    exact hne e3
theorem grown_block6 {w w' : World} {B n g : Nat} {v : Value} {e T : TypeId} {xs : List Value} {cs : Array Value} {o : Obj} (h : w.ownsRow B e 1 v n xs) (t : w.heap[g]? = some (.cells cs T (0, 0))) (hne : e ≠ T) (hg : (w.alloc o).grownBy w' v.ownBlock) : w'.heap[g]? = w.heap[g]? :=
  (hg.block g (Nat.lt_of_lt_of_le (row_ltI t) (Nat.le_of_lt (by simp))) (grown_ne6 h t hne)).trans (((Below.refl _ w).alloc (Nat.le_refl _) o).block g (row_ltI t))
theorem grown_two6 {w w' : World} {B n b : Nat} {v x y : Value} {e T : TypeId} {xs : List Value} {o : Obj} (h : w.ownsRow B e 1 v n xs) (t : Two w b x y T) (hne : e ≠ T) (hg : (w.alloc o).grownBy w' v.ownBlock) : Two w' b x y T :=
  ⟨(grown_block6 h t.row hne hg).trans t.row⟩
theorem grown_own6 {w w' : World} {B n g : Nat} {v : Value} {e : TypeId} {xs : List Value} {o : Obj} {L : List Int} (h : w.ownsRow B e 1 v n xs) (t : Own w g (g + 1) (some ⟨g, 0, none⟩) L) (hne : e ≠ 3) (hg : (w.alloc o).grownBy w' v.ownBlock) : Own w' g (g + 1) (some ⟨g, 0, none⟩) L := by
  obtain ⟨cur, hr, _⟩ := own_at t
  exact own_same t (grown_block6 h hr hne hg)
theorem bool_snoc6 {w : World} {B n : Nat} {v : Value} {bs : List Bool} {y : Bool} (h : w.ownsRow B 4 1 v (n + 1) (bs.map Value.bool ++ [Value.bool y])) (hn : n = bs.length) : w.ownsRow B 4 1 v (bs ++ [y]).length ((bs ++ [y]).map Value.bool) := by
  subst hn
  simpa using h
theorem own_lp_ne {w : World} {g b : Nat} {L : List Int} {x y : Value} (h : Own w g (g + 1) (some ⟨g, 0, none⟩) L) (t : Two w b x y 100) : g ≠ b := by
  obtain ⟨cur, hr, _⟩ := own_at h
  rintro rfl
  have := hr.symm.trans t.row
  injection this with this
  injection this with _ h
  exact absurd h (by decide)
structure WR (w : World) (B n : Nat) (M : Nat) (zs : List Int) (i : Nat) (A : Option Addr) (c lo hi b6 : Nat) (v : Value) (wr : World) : Prop where
  pm : LPlanM wr B
  bx : Two wr n (.slice A zs.length c) (.int .i64 (M : Int)) 44
  si : Ins wr lo hi A (wSt M zs i)
  t6 : Two wr b6 (.int .i64 ((planS M (wSt M zs i)).1 : Int)) (.int .i64 ((planS M (wSt M zs i)).2 : Int)) 100
  row : wr.ownsRow (B + 1) 4 1 v (wL M zs i).length ((wL M zs i).map Value.bool)
  bl : Below w.heap.size w wr
theorem B0_any (w : World) (B : Nat) (h : B ≤ w.heap.size) : (w.alloc (.cells #[] 4)).ownsRow B 4 1 (.slice (some ⟨w.heap.size, 0, none⟩) 0 0) 0 [] :=
  World.ownsRow_lit w (e := 4) (size := 1) (base := B) #[] 0 h (by unfold maxLen; omega) rfl

end Go.Proofs.Ytnomgnjfamideab
