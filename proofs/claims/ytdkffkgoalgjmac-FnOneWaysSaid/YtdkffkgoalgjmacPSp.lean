/- ParseState: the numbers, and the specification's function. -/
import Derived.Test.YtdkffkgoalgjmacCounts
namespace Go.Proofs.Ytdkffkgoalgjmac
open Go.RowKit Go.ChangeShapes Go.WideShapes
set_option linter.unusedVariables false

/-- What is written for a number: '-', else a byte as a digit. -/
def lieB (b : UInt8) : Int := if b = 45 then -1 else (b.toNat : Int) - 48
theorem lieB_open : lieB 45 = -1 := rfl
theorem lieB_digit {b : UInt8} (h : b ≠ 45) : lieB b = (b.toNat : Int) - 48 := if_neg h
theorem byte_45 {b : UInt8} (h : b.toNat = 45) : b = 45 := by
  apply UInt8.toNat_inj.1
  rw [h]; rfl
theorem byte_ne45 {b : UInt8} (h : b.toNat ≠ 45) : b ≠ 45 := fun e => h (by rw [e]; rfl)
theorem lieB_bd (b : UInt8) : -48 ≤ lieB b ∧ lieB b ≤ 255 := by
  have := b.toNat_lt
  unfold lieB
  split <;> omega
/-- The numbers of a text, from its third byte on: the first k. -/
def liesTo (s : ByteArray) (k : Nat) : List Int := (List.range k).map fun j => lieB (s.data.toList.getD (j + 2) 0)
theorem liesTo_len (s : ByteArray) (k : Nat) : (liesTo s k).length = k := by simp [liesTo]
theorem liesTo_succ {s : ByteArray} {k : Nat} (h : k + 2 < s.size) : liesTo s (k + 1) = liesTo s k ++ [lieB s[k + 2]] := by
  have e : s.data.toList.getD (k + 2) 0 = s[k + 2] := by
    have h' : k + 2 < s.data.toList.length := by rw [Array.length_toList]; exact h
    rw [List.getD_eq_getElem?_getD, List.getElem?_eq_getElem h']
    rfl
  simp only [liesTo, List.range_succ, List.map_append, List.map_cons, List.map_nil, e]
/-- Whether each of the first k bytes behind the second is '-' or at least '0'. -/
def UpTo (s : ByteArray) (k : Nat) : Prop := ∀ j (h : j + 2 < s.size), j < k → s[j + 2] = 45 ∨ 48 ≤ s[j + 2].toNat
/-- What ParseState answers. -/
structure Good (s : ByteArray) : Prop where
  lo : 3 ≤ s.size
  hi : s.size ≤ 14
  head : 48 ≤ (s[0]'(by omega)).toNat ∧ (s[0]'(by omega)).toNat ≤ 50
  colon : (s[1]'(by omega)).toNat = 58
  all : UpTo s (s.size - 2)
  st : isSt (liesTo s (s.size - 2)) (((s[0]'(by omega)).toNat : Int) - 48) = true
noncomputable def pL (s : ByteArray) : List Int := open Classical in if Good s then liesTo s (s.size - 2) else []
noncomputable def pM (s : ByteArray) : Int := open Classical in if h : Good s then ((s[0]'(by have := h.lo; omega)).toNat : Int) - 48 else 0
noncomputable def pB (s : ByteArray) : Bool := open Classical in if Good s then true else false
theorem pL_yes {s : ByteArray} (h : Good s) : pL s = liesTo s (s.size - 2) := if_pos h
theorem pL_no {s : ByteArray} (h : ¬ Good s) : pL s = [] := if_neg h
theorem pM_yes {s : ByteArray} (h : Good s) : pM s = ((s[0]'(by have := h.lo; omega)).toNat : Int) - 48 := dif_pos h
theorem pM_no {s : ByteArray} (h : ¬ Good s) : pM s = 0 := dif_neg h
theorem pB_yes {s : ByteArray} (h : Good s) : pB s = true := if_pos h
theorem pB_no {s : ByteArray} (h : ¬ Good s) : pB s = false := if_neg h
theorem pL_len (s : ByteArray) : (pL s).length ≤ 12 := by
  by_cases h : Good s
  · rw [pL_yes h, liesTo_len]; have := h.hi; omega
  · rw [pL_no h]; simp
/-- The form of an answer: a State and whether it is one. -/
def AnsSt (w : World) (L : List Int) (m : Int) (b : Bool) (e : Ending) (w' : World) : Prop :=
  ∃ B c', e = .returned (.tuple #[.agg #[.slice B L.length c', .int .i64 m], .bool b]) ∧ Res w' w.heap.size w'.heap.size B L ∧ Below w.heap.size w w'
theorem ansSt_no {w w' : World} {s : ByteArray} (h : ¬ Good s) (hb : Below w.heap.size w w') : AnsSt w (pL s) (pM s) (pB s) (.returned (.tuple #[.agg #[.slice none 0 0, .int .i64 0], .bool false])) w' := by
  rw [pL_no h, pM_no h, pB_no h]
  exact ⟨none, 0, rfl, Res.none _ _ _ (Nat.le_refl _), hb⟩
theorem ansSt_yes {w w' : World} {s : ByteArray} (h : Good s) {B : Option Addr} {c' n : Nat} {m : Int} (hn : n = s.size - 2) (hm : m = ((s[0]'(by have := h.lo; omega)).toNat : Int) - 48) (hr : Res w' w.heap.size w'.heap.size B (liesTo s (s.size - 2))) (hb : Below w.heap.size w w') :
    AnsSt w (pL s) (pM s) (pB s) (.returned (.tuple #[.agg #[.slice B n c', .int .i64 m], .bool true])) w' := by
  rw [pL_yes h, pM_yes h, pB_yes h]
  refine ⟨B, c', ?_, hr, hb⟩
  rw [liesTo_len, hn, hm]
end Go.Proofs.Ytdkffkgoalgjmac
