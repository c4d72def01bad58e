/- How many open numbers have so many false answers. -/
import Derived.Test.YtpjoljaamakagabDoorOpenN
namespace Go.Proofs.YtpjoljaamakagabDoor
open Go.RowKit Go.ChangeShapes Go.WideShapes
set_option linter.unusedVariables false

def cntStep (l : List Int) (z : Int) : List Int := if 0 ≤ z then l.set z.toNat (l.getD z.toNat 0 + 1) else l
def cntTo (zs : List Int) (n : Nat) : Nat → List Int
  | 0 => List.replicate n 0
  | k + 1 => cntStep (cntTo zs n k) (zs.getD k (-1))
theorem cntStep_len (l : List Int) (z : Int) : (cntStep l z).length = l.length := by unfold cntStep; split <;> simp
theorem cntTo_len (zs : List Int) (n : Nat) : ∀ k, (cntTo zs n k).length = n
  | 0 => by simp [cntTo]
  | k + 1 => by rw [cntTo, cntStep_len, cntTo_len zs n k]
theorem getD_bd {l : List Int} {b : Int} (h : ∀ x ∈ l, 0 ≤ x ∧ x ≤ b) (hb : 0 ≤ b) (i : Nat) : 0 ≤ l.getD i 0 ∧ l.getD i 0 ≤ b := by
  rcases Nat.lt_or_ge i l.length with hi | hi
  · have : l.getD i 0 = l[i] := by simp [List.getD, hi]
    rw [this]
    exact h _ (List.getElem_mem hi)
  · have : l.getD i 0 = 0 := by simp [List.getD, List.getElem?_eq_none hi]
    rw [this]
    omega
theorem cntTo_bd (zs : List Int) (n : Nat) : ∀ k, ∀ x ∈ cntTo zs n k, 0 ≤ x ∧ x ≤ (k : Int)
  | 0 => fun x hx => by
    have := List.eq_of_mem_replicate hx
    omega
  | k + 1 => fun x hx => by
    have ih := cntTo_bd zs n k
    rw [cntTo] at hx
    unfold cntStep at hx
    split at hx
    · rcases List.mem_or_eq_of_mem_set hx with h | h
      · have := ih x h; omega
      · have := getD_bd ih (by omega) (zs.getD k (-1)).toNat
        omega
    · have := ih x hx; omega
theorem map_set (l : List Int) (i : Nat) (v : Int) : ((l.map (Value.int .i64)).toArray).setIfInBounds i (.int .i64 v) = ((l.set i v).map (Value.int .i64)).toArray := by
  rw [List.setIfInBounds_toArray, List.map_set]
theorem getD_cell {w : World} {g i : Nat} {l : List Int} {t : TypeId} (h : w.heap[g]? = some (.cells (l.map (Value.int .i64)).toArray t (0, 0))) (hi : i < l.length) : w.cell? ⟨g, i, none⟩ = some (.int .i64 (l.getD i 0)) := by
  rw [row_cellI h]
  simp [List.getD, hi]
theorem makeInts1 (M : Nat) (h : M ≤ 1000) (w : World) :
    (Instr.makeSlice 90 (.int .i64 ((M : Int) + 1)) (.int .i64 ((M : Int) + 1))).run Tryd.prog w = .ok (.slice (some ⟨w.heap.size, 0, none⟩) (M + 1) (M + 1)) (w.alloc (.cells (Array.replicate (M + 1) (Value.int .i64 0)) 3)) := by
  have := makeInts (M + 1) (by omega) w
  simpa using this
theorem cntTo_nil (zs : List Int) (n : Nat) : ((cntTo zs n 0).map (Value.int .i64)).toArray = Array.replicate n (Value.int .i64 0) := by simp [cntTo]

theorem cnt_ans {w w' : World} {g M : Nat} {l : List Int} {e : Ending} (hl : l.length = M + 1) (he : e = .returned (.tuple #[.slice (some ⟨g, 0, none⟩) (M + 1) (M + 1), .bool true])) (hg : w.heap.size ≤ g) (hr : w'.heap[g]? = some (.cells (l.map (Value.int .i64)).toArray 3 (0, 0))) (hb : Below w.heap.size w w') :
    ∃ B c', e = .returned (.tuple #[.slice B l.length c', .bool true]) ∧ Res w' w.heap.size w'.heap.size B l ∧ Below w.heap.size w w' :=
  ⟨_, M + 1, by rw [he, hl], ⟨.inr ⟨g, _, rfl, hg, row_ltI hr, hr, by simp, fun j x hx => by simp [hx]⟩, Nat.le_refl _⟩, hb⟩
end Go.Proofs.YtpjoljaamakagabDoor
