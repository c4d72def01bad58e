/- Lists that are filled place by place. -/
import Derived.Test.YtpjoljaamakagaaInts
namespace Go.Proofs.Ytpjoljaamakagaa

/-- A list whose first k places are told, the others 0. -/
def upd (f : Nat → Int) (n k : Nat) : List Int := (List.range n).map fun a => if a < k then f a else 0
theorem upd_len (f : Nat → Int) (n k : Nat) : (upd f n k).length = n := by simp [upd]
theorem upd_zero (f : Nat → Int) (n : Nat) : upd f n 0 = List.replicate n 0 := by
  apply List.ext_getElem
  · simp [upd]
  · intro i h1 h2; simp [upd]
theorem upd_all (f : Nat → Int) (n : Nat) : upd f n n = (List.range n).map f := by
  apply List.ext_getElem
  · simp [upd]
  · intro i h1 h2
    have : i < n := by simpa [upd] using h1
    simp [upd, this]
theorem upd_set (f : Nat → Int) (n k : Nat) : (upd f n k).set k (f k) = upd f n (k + 1) := by
  apply List.ext_getElem
  · simp [upd]
  · intro i h1 h2
    have hn : i < n := by simpa [upd] using h2
    rw [List.getElem_set]
    by_cases h : k = i
    · subst h; simp [upd]
    · rw [if_neg h]
      simp only [upd, List.getElem_map, List.getElem_range]
      by_cases h3 : i < k
      · rw [if_pos h3, if_pos (by omega)]
      · rw [if_neg h3, if_neg (by omega)]
end Go.Proofs.Ytpjoljaamakagaa
