/- The state behind an answer. -/
import Derived.Test.YtpjoljaamakagabDoorCopy
import Derived.Test.YtpjoljaamakagabDoorCounts
namespace Go.Proofs.YtpjoljaamakagabDoor
open Go.RowKit Go.ChangeShapes Go.WideShapes
set_option linter.unusedVariables false

/-- One number behind an answer: p says whether the answer is false for it. -/
def aft1 (m : Int) (p : Bool) (z : Int) : Int := if 0 ≤ z ∧ p = true then (if z = m then -1 else z + 1) else z
theorem aft1_neg {m z : Int} {p : Bool} (h : ¬ 0 ≤ z) : aft1 m p z = z := if_neg (fun h' => h h'.1)
theorem aft1_no {m z : Int} : aft1 m false z = z := if_neg (fun h' => by cases h'.2)
theorem aft1_yes {m z : Int} (h : 0 ≤ z) : aft1 m true z = if z = m then -1 else z + 1 := if_pos ⟨h, rfl⟩
def aftTo (zs : List Int) (m q : Int) (y : Bool) : Nat → List Int
  | 0 => zs
  | k + 1 => (aftTo zs m q y k).set k (aft1 m (y != inQ q k) (zs.getD k (-1)))
theorem aftTo_len (zs : List Int) (m q : Int) (y : Bool) : ∀ k, (aftTo zs m q y k).length = zs.length
  | 0 => rfl
  | k + 1 => by rw [aftTo, List.length_set, aftTo_len zs m q y k]
theorem aftTo_ge (zs : List Int) (m q : Int) (y : Bool) : ∀ k j, k ≤ j → (aftTo zs m q y k)[j]? = zs[j]?
  | 0, j, _ => rfl
  | k + 1, j, h => by rw [aftTo, List.getElem?_set_ne (by omega), aftTo_ge zs m q y k j (by omega)]
theorem aftTo_lt (zs : List Int) (m q : Int) (y : Bool) : ∀ k j (hj : j < zs.length), j < k → (aftTo zs m q y k)[j]? = some (aft1 m (y != inQ q j) (zs.getD j (-1)))
  | 0, j, _, h => absurd h (by omega)
  | k + 1, j, hj, h => by
    rw [aftTo]
    by_cases e : k = j
    · subst e
      rw [List.getElem?_set_self (by rw [aftTo_len]; exact hj)]
    · rw [List.getElem?_set_ne e, aftTo_lt zs m q y k j hj (by omega)]
theorem aftTo_cell {zs : List Int} {m q : Int} {y : Bool} {k : Nat} (h : k < zs.length) : (aftTo zs m q y k).getD k 0 = zs[k] := by
  rw [List.getD, aftTo_ge zs m q y k k (Nat.le_refl _)]
  simp [h]
theorem aftTo_same {zs : List Int} {m q : Int} {y : Bool} {k : Nat} (h : k < zs.length) (hz : aft1 m (y != inQ q k) zs[k] = zs[k]) : aftTo zs m q y (k + 1) = aftTo zs m q y k := by
  rw [aftTo, getD_at h, hz]
  apply List.ext_getElem?
  intro j
  by_cases e : k = j
  · subst e
    rw [List.getElem?_set_self (by rw [aftTo_len]; exact h), aftTo_ge zs m q y k k (Nat.le_refl _)]
    simp [h]
  · rw [List.getElem?_set_ne e]
theorem aftTo_turn {zs : List Int} {m q : Int} {y : Bool} {k : Nat} {v : Int} (h : k < zs.length) (hz : aft1 m (y != inQ q k) zs[k] = v) : aftTo zs m q y (k + 1) = (aftTo zs m q y k).set k v := by
  rw [aftTo, getD_at h, hz]
/-- All numbers behind an answer. -/
def afters (zs : List Int) (m q : Int) (y : Bool) : List Int := aftTo zs m q y zs.length
theorem afters_len (zs : List Int) (m q : Int) (y : Bool) : (afters zs m q y).length = zs.length := aftTo_len _ _ _ _ _
theorem aft1_in {m z : Int} {p : Bool} (h : -1 ≤ z ∧ z ≤ m) (hm : 0 ≤ m) : -1 ≤ aft1 m p z ∧ aft1 m p z ≤ m := by
  unfold aft1
  split
  · split <;> omega
  · exact h
theorem afters_isSt {zs : List Int} {m : Int} (q : Int) (y : Bool) (h : isSt zs m = true) : isSt (afters zs m q y) m = true := by
  have hl := isSt_len h
  have h0 := h
  unfold isSt at h ⊢
  simp only [Bool.and_eq_true] at h ⊢
  rw [afters_len]
  refine ⟨h.1, ?_⟩
  rw [List.all_eq_true]
  intro x hx
  obtain ⟨j, hj, rfl⟩ := List.getElem_of_mem hx
  have hj' : j < zs.length := by rw [afters_len] at hj; exact hj
  have e := aftTo_lt zs m q y zs.length j hj' hj'
  have e2 : (afters zs m q y)[j]? = some (afters zs m q y)[j] := List.getElem?_eq_getElem hj
  rw [show (afters zs m q y)[j] = aft1 m (y != inQ q j) (zs.getD j (-1)) from by
    have : (afters zs m q y)[j]? = some (aft1 m (y != inQ q j) (zs.getD j (-1))) := e
    rw [e2] at this
    injection this]
  rw [getD_at hj']
  have := isSt_at h0 hj'
  have := aft1_in (p := (y != inQ q j)) this (by omega)
  exact inB_iff.2 this

theorem Within.drew {lo hi : Nat} {a b : World} (h : Within lo hi a b) : Within lo hi a b.drew := ⟨h.os, h.tape, h.output, h.size, h.block⟩
/-- A block of two cells that is there, unfrozen. -/
structure Two (w : World) (b : Nat) (x y : Value) (t : TypeId) : Prop where
  row : w.heap[b]? = some (.cells #[x, y] t (0, 0))
theorem Two.lt {w : World} {b : Nat} {x y : Value} {t : TypeId} (h : Two w b x y t) : b < w.heap.size := row_ltI h.row
theorem Two.step {w w' : World} {b : Nat} {x y : Value} {t : TypeId} (h : Two w b x y t) (hb : Below w.heap.size w w') : Two w' b x y t := ⟨(hb.block b h.lt).trans h.row⟩
theorem Two.within {w w' : World} {b lo hi : Nat} {x y : Value} {t : TypeId} (h : Two w b x y t) (hb : Within lo hi w w') (hd : b < lo ∨ hi ≤ b) : Two w' b x y t := ⟨(hb.block b h.lt hd).trans h.row⟩
theorem Two.new (w : World) (x y : Value) (t : TypeId) (b : Nat) (hb : b = w.heap.size) : Two (w.alloc (.cells #[x, y] t)) b x y t := ⟨alloc_row' _ _ _ _ hb⟩
theorem Two.c0 {w : World} {b : Nat} {x y : Value} {t : TypeId} (h : Two w b x y t) : w.cell? ⟨b, 0, none⟩ = some x := two0 h.row
theorem Two.c1 {w : World} {b : Nat} {x y : Value} {t : TypeId} (h : Two w b x y t) : w.cell? ⟨b, 1, none⟩ = some y := two1 h.row
theorem Two.f0 {w : World} {b : Nat} {x y : Value} {t : TypeId} (h : Two w b x y t) : w.frozen? ⟨b, 0, none⟩ = false := row_freeI h.row 0
theorem Two.f1 {w : World} {b : Nat} {x y : Value} {t : TypeId} (h : Two w b x y t) : w.frozen? ⟨b, 1, none⟩ = false := row_freeI h.row 1

end Go.Proofs.YtpjoljaamakagabDoor
