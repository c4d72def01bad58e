/- The map of the plans of comparisons; orAsks. -/
import Derived.Test.YtopgccficjkenaaL6b
import Derived.Test.YtopgccficjkenaaL6R
import Derived.Test.YtopgccficjkenaaSTx
import Derived.Laws.StructEq
import Derived.Maps.OwnSet
import Derived.Carry
import Derived.WideMake
import Derived.StringKeys
namespace Go.Proofs.Ytopgccficjkenaa
open Go.RowKit Go.ChangeShapes Go.WideShapes Go.Maps
set_option linter.unusedVariables false

def lpV (p : Nat × Nat) : Value := .agg #[.int .i64 (p.1 : Int), .int .i64 (p.2 : Int)]
def zeroLP : Value := .agg #[.int .i64 0, .int .i64 0]
theorem keyedText : Keyed Try.prog 9 := string_keyed Try.underlying9
/-- A state's text as a key. -/
def klS (M : Nat) (zs : List Int) : Lit := .string (textTo zs (M : Int) zs.length)
def txV (M : Nat) (zs : List Int) : ByteArray := ⟨(textTo zs (M : Int) zs.length).toArray⟩
theorem keyTxt {M : Nat} {zs : List Int} (h : zs.length ≤ 12) : keyOf Try.prog 9 (.string (txV M zs)) = some (klS M zs) := by
  have hs : (txV M zs).size ≤ maxLen := by
    have := textTo_len (zs := zs) (m := (M : Int)) (k := zs.length)
    show (textTo zs (M : Int) zs.length).toArray.size ≤ maxLen
    rw [List.size_toArray]
    unfold maxLen
    omega
  rw [WideMaps.keyOf_string_mk Try.underlying9 hs]
  rfl
theorem signOf_inj {x y : Int} (hx : -1 ≤ x ∧ x ≤ 1) (hy : -1 ≤ y ∧ y ≤ 1) (h : signOf x = signOf y) : x = y := by
  obtain rfl | rfl | rfl : x = -1 ∨ x = 0 ∨ x = 1 := by omega
  all_goals
    obtain rfl | rfl | rfl : y = -1 ∨ y = 0 ∨ y = 1 := by omega
    all_goals first | rfl | (exact absurd h (by decide))
theorem map_sign_inj : ∀ {xs ys : List Int}, (∀ x ∈ xs, -1 ≤ x ∧ x ≤ 1) → (∀ y ∈ ys, -1 ≤ y ∧ y ≤ 1) → xs.map signOf = ys.map signOf → xs = ys
  | [], [], _, _, _ => rfl
  | [], y :: ys, _, _, h => by cases h
  | x :: xs, [], _, _, h => by cases h
  | x :: xs, y :: ys, hx, hy, h => by
    rw [List.map_cons, List.map_cons] at h
    injection h with h1 h2
    rw [signOf_inj (hx x (by simp)) (hy y (by simp)) h1, map_sign_inj (fun z hz => hx z (by simp [hz])) (fun z hz => hy z (by simp [hz])) h2]
theorem klS_inj {M N : Nat} {zs ys : List Int} (hz : Short M zs) (hy : Short N ys) (h : klS M zs = klS N ys) : M = N ∧ zs = ys := by
  injection h with h
  unfold textTo at h
  injection h with h1 h2
  injection h2 with _ h2
  rw [List.take_length, List.take_length] at h2
  have hM := hz.m
  have hN := hy.m
  refine ⟨?_, map_sign_inj (fun x hx => by have := hz.fit x hx; omega) (fun x hx => by have := hy.fit x hx; omega) h2⟩
  have := signOf_inj (x := (M : Int)) (y := (N : Int)) (by omega) (by omega) h1
  omega
theorem klS_key (M : Nat) (zs : List Int) : WideAt.IsKeyLit (klS M zs) := True.intro

/-- All short states. -/
def allL : List (Nat × List Int) := [0, 1].flatMap fun M => [1, 2, 3, 4, 5].flatMap fun n => (List.range ((M + 2) ^ n)).map fun key => (M, stOf M n key)
theorem allL_mem {M : Nat} {zs : List Int} (hs : Short M zs) : (M, zs) ∈ allL := by
  unfold allL
  refine List.mem_flatMap.2 ⟨M, by have := hs.m; simp; omega, List.mem_flatMap.2 ⟨zs.length, by have := hs.pos; have := hs.len; simp; omega, List.mem_map.2 ⟨keyS M zs, List.mem_range.2 (keyTo_lt hs.fit), by rw [stOf_keyTo hs.fit]⟩⟩⟩
theorem allL_len : allL.length ≤ 1000 := by decide +kernel
theorem countP_step {α : Type} {p q : α → Bool} {a : α} (hpq : ∀ x, p x = true → q x = true) (hp : p a = false) (hq : q a = true) : ∀ {l : List α}, a ∈ l → l.countP p + 1 ≤ l.countP q
  | x :: l, h => by
    have hm : l.countP p ≤ l.countP q := List.countP_mono_left fun y _ hy => hpq y hy
    rw [List.countP_cons, List.countP_cons]
    rcases List.mem_cons.1 h with rfl | h
    · rw [hp, hq]
      simp
      exact hm
    · have := countP_step hpq hp hq h
      cases hx : p x with
      | true => rw [hpq x hx]; simp; omega
      | false => cases q x <;> simp <;> omega
def cntS (D : DataW Value) : Nat := allL.countP fun s => has D (klS s.1 s.2)
theorem cntS_le (D : DataW Value) : cntS D ≤ 1000 := Nat.le_trans List.countP_le_length allL_len
def heldP (v : Value) : Option (DataW Value × List MemPlace) := some (.held v, [])
/-- The map of plans in block B. -/
structure LPlanD (w : World) (B : Nat) (D : DataW Value) : Prop where
  owns : w.ownsMap Try.prog 9 heldP B (Maps.size D) D
  size : Maps.size D ≤ cntS D
  told : ∀ (M : Nat) (zs : List Int), Short M zs → has D (klS M zs) = true → D.atKey (klS M zs) (.held zeroLP) = .held (lpV (planS M zs))
def LPlanM (w : World) (B : Nat) : Prop := ∃ D, LPlanD w B D
theorem LPlanM.made (w : World) : LPlanM (w.alloc (.map #[] 0)) w.heap.size :=
  ⟨.map [], World.ownsMap_made _ _ _ _, Nat.zero_le _, fun M zs _ h => by cases h⟩
theorem LPlanM.heap {w w' : World} {B : Nat} (h : LPlanM w B) (hw : w'.heap[B]? = w.heap[B]?) : LPlanM w' B := by
  obtain ⟨D, ⟨es, clock, hb, r⟩, h2, h3⟩ := h
  exact ⟨D, ⟨es, clock, hw.trans hb, r⟩, h2, h3⟩
theorem LPlanM.lt {w : World} {B : Nat} (h : LPlanM w B) : B < w.heap.size := by
  obtain ⟨D, ho, _, _⟩ := h
  exact ho.lt
theorem LPlanM.step {w w' : World} {B : Nat} (h : LPlanM w B) (hb : Below w.heap.size w w') : LPlanM w' B := h.heap (hb.block _ h.lt)
theorem LPlanM.within {w w' : World} {B lo hi : Nat} (h : LPlanM w B) (hw : Within lo hi w w') (hd : B < lo ∨ hi ≤ B) : LPlanM w' B := h.heap (hw.block _ h.lt hd)
theorem own_tight6 {w : World} {M n : Nat} {D : DataW Value} {k : TypeId} (h : w.ownsMap Try.prog k heldP M n D) : w.ownsMap Try.prog k heldP M (Maps.size D) D := by
  obtain ⟨es, clock, hb, F, hs, rfl⟩ := h
  exact ⟨es, clock, hb, F, by simp [Maps.size, length_sorted], rfl⟩
theorem LPlanD.put {w w' : World} {B : Nat} {D : DataW Value} (h : LPlanD w B D) {M : Nat} {zs : List Int} (hs : Short M zs) (ho : w'.ownsMap Try.prog 9 heldP B (Maps.size D + 1) (D.put (klS M zs) (.held (lpV (planS M zs))))) : LPlanM w' B := by
  have hi := h.owns.isMap
  have ht := h.owns.tidy keyedText
  refine ⟨_, own_tight6 ho, ?_, ?_⟩
  · rw [size_put ht]
    have hz := h.size
    have hmono : ∀ x : Nat × List Int, has D (klS x.1 x.2) = true → has (D.put (klS M zs) (.held (lpV (planS M zs)))) (klS x.1 x.2) = true := fun x hx => by
      by_cases e : klS x.1 x.2 = klS M zs
      · rw [e]; exact has_put_same hi (klS_key M zs) _
      · rw [has_put_other e]; exact hx
    cases hh : has D (klS M zs) with
    | true =>
      simp only [if_true]
      exact Nat.le_trans hz (List.countP_mono_left fun x _ hx => hmono x hx)
    | false =>
      simp only [Bool.false_eq_true, if_false]
      have := countP_step (p := fun s : Nat × List Int => has D (klS s.1 s.2)) (q := fun s : Nat × List Int => has (D.put (klS M zs) (.held (lpV (planS M zs)))) (klS s.1 s.2)) hmono (a := (M, zs)) hh (has_put_same hi (klS_key M zs) _) (allL_mem hs)
      unfold cntS at *
      omega
  · intro N ys hy hh
    by_cases e : klS N ys = klS M zs
    · obtain ⟨rfl, rfl⟩ := klS_inj hy hs e
      exact atKey_put_same hi (klS_key N ys) _ _
    · rw [has_put_other e] at hh
      rw [atKey_put_other e]
      exact h.told N ys hy hh
theorem lpHeld (p : Nat × Nat) : heldP (lpV p) = some (.held (lpV p), []) := rfl
end Go.Proofs.Ytopgccficjkenaa
