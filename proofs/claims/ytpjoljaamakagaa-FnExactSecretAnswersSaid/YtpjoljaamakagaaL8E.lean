/- The answerer of the specification: answers of a number, the state at their end, how many lists leave so many open. -/
import Derived.Test.YtpjoljaamakagaaL8A
import Derived.Test.YtpjoljaamakagaaL8B
import Derived.Test.YtpjoljaamakagaaRow8
import Derived.StillTailTactics
namespace Go.Proofs.Ytpjoljaamakagaa
open Go.RowKit Go.ChangeShapes Go.WideShapes Go.Maps
set_option linter.unusedVariables false

theorem inQ_bitsN (c k : Nat) : (bits .and .i64 ((c : Int) / 2 ^ k) 1 == 1) = inQ (c : Int) k := rfl
theorem and_one8 (x : Nat) (hx : x < 4096) : (bits .and .i64 (x : Int) 1 == 1) = decide (x % 2 = 1) := by
  have h : ∀ a, a < 64 → ∀ b, b < 64 → (bits .and .i64 ((64 * a + b : Nat) : Int) 1 == 1) = decide ((64 * a + b) % 2 = 1) := by decide +kernel
  have := h (x / 64) (by omega) (x % 64) (by omega)
  rwa [show 64 * (x / 64) + x % 64 = x by omega] at this
theorem inQ_bit8 {a j : Nat} (ha : a < 4096) : inQ (a : Int) j = a.testBit j := by
  show (bits .and .i64 ((a : Int) / 2 ^ j) 1 == 1) = _
  have e : ((a : Int) / 2 ^ j) = ((a / 2 ^ j : Nat) : Int) := by norm_cast
  rw [e, and_one8 _ (Nat.lt_of_le_of_lt (Nat.div_le_self _ _) ha), Nat.testBit_eq_decide_div_mod_eq]
theorem bool_snoc8 {w : World} {B n : Nat} {v : Value} {bs : List Bool} {y : Bool} (h : w.ownsRow B 4 1 v (n + 1) (bs.map Value.bool ++ [Value.bool y])) (hn : n = bs.length) : w.ownsRow B 4 1 v (bs ++ [y]).length ((bs ++ [y]).map Value.bool) := by
  subst hn
  simpa using h
theorem B0_any (w : World) (B : Nat) (h : B ≤ w.heap.size) : (w.alloc (.cells #[] 4)).ownsRow B 4 1 (.slice (some ⟨w.heap.size, 0, none⟩) 0 0) 0 [] :=
  World.ownsRow_lit w (e := 4) (size := 1) (base := B) #[] 0 h (by unfold maxLen; omega) rfl
theorem bits_take (n c : Nat) (j : Nat) (hj : j < n) (hc : c < 4096) : (bitsB n c).take (n - j) = (bitsB n c).take (n - (j + 1)) ++ [inQ (c : Int) j] := by
  have e : n - j = n - (j + 1) + 1 := by omega
  have hl : n - (j + 1) < (bitsB n c).length := by rw [bitsB_len]; omega
  have ha := bitsB_at n c (n - (j + 1)) (by omega)
  rw [List.getElem?_eq_getElem hl] at ha
  injection ha with ha
  rw [e, List.take_succ_eq_append_getElem hl, ha, inQ_bit8 hc]
  congr 3
  omega
theorem shr_id8 (c j : Nat) (hj : j ≤ 8) : (c : Int) / 2 ^ j = ((c / 2 ^ j : Nat) : Int) := by norm_cast

end Go.Proofs.Ytpjoljaamakagaa
