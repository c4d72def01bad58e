/- The answerer of the program: how many numbers are open at the ends, and what is counted there. -/
import Derived.Test.YtpjoljaamakagaaL8S
import Derived.Test.YtpjoljaamakagaaL8B
namespace Go.Proofs.Ytpjoljaamakagaa
open Go.RowKit Go.ChangeShapes Go.WideShapes Go.Maps
set_option linter.unusedVariables false

theorem opnL_take (m : Int) (zs qs : List Int) (k : Nat) (h : k < (opnL m zs qs).length) : (opnL m zs qs).take (k + 1) = (opnL m zs qs).take k ++ [(opnL m zs qs)[k]] := List.take_succ_eq_append_getElem h
theorem O0_any8 (w : World) (B : Nat) (h : B ≤ w.heap.size) : (w.alloc (.cells #[] 3)).ownsRow B 3 1 (.slice (some ⟨w.heap.size, 0, none⟩) 0 0) 0 [] :=
  World.ownsRow_lit w (e := 3) (size := 1) (base := B) #[] 0 h (by unfold maxLen; omega) rfl
theorem pow8 {n : Nat} (h : n ≤ 8) : 1 ≤ 2 ^ n ∧ 2 ^ n ≤ 256 := ⟨Nat.one_le_two_pow, Nat.le_trans (Nat.pow_le_pow_right (by omega) h) (by decide)⟩

def rowD (bs : List Bool) (j : Nat) : Array Value := (List.replicate j (Value.bool false) ++ (bs.drop j).map Value.bool).toArray
theorem rowD_full (bs : List Bool) : rowD bs bs.length = (List.replicate bs.length (Value.bool false)).toArray := by simp [rowD]
theorem rowD_zero (bs : List Bool) : rowD bs 0 = (bs.map Value.bool).toArray := by simp [rowD]
theorem rowD_at {bs : List Bool} {j : Nat} (h : j < bs.length) : (rowD bs (j + 1))[j]? = some (.bool false) := by
  unfold rowD
  rw [List.getElem?_toArray, List.getElem?_append_left (by simp), List.getElem?_replicate, if_pos (by omega)]
theorem rowD_set {bs : List Bool} {j : Nat} (h : j < bs.length) : (rowD bs (j + 1)).setIfInBounds j (.bool bs[j]) = rowD bs j := by
  unfold rowD
  have e : bs.drop j = bs[j] :: bs.drop (j + 1) := List.drop_eq_getElem_cons h
  rw [List.setIfInBounds_toArray, List.set_append_left _ _ (by simp), e]
  congr 1
  rw [show List.replicate (j + 1) (Value.bool false) = List.replicate j (Value.bool false) ++ [Value.bool false] by rw [List.replicate_succ'], List.set_append_right _ _ (by simp)]
  simp only [List.length_replicate, Nat.sub_self, List.set_cons_zero, List.append_assoc, List.map_cons, List.singleton_append]
theorem bits_get {n c j : Nat} (h : j < (bitsB n c).length) : (bitsB n c)[j] = decide (c / 2 ^ (n - 1 - j) % 2 = 1) := by
  have e := bitsB_at n c j (by rw [bitsB_len] at h; exact h)
  rw [List.getElem?_eq_getElem h] at e
  injection e with e
  rw [e, Nat.testBit_eq_decide_div_mod_eq]

end Go.Proofs.Ytpjoljaamakagaa
