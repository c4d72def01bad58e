/- LessTable: both. -/
import Derived.Test.YtdkffkgoalgjmabL6l
import Derived.Test.YtdkffkgoalgjmabUpd
import Derived.Deep.CutRange
namespace Go.Proofs.Ytdkffkgoalgjmab
open Go.RowKit Go.ChangeShapes Go.WideShapes Go.Maps
set_option linter.unusedVariables false

/-- The less-need of so many numbers without false answers. -/
def ltN (m i : Nat) : Int := (needL m (List.replicate (i + 1) 0) : Int)
def ltU (m k : Nat) : List Int := (List.range k).map (ltN m)
theorem ltU_len (m k : Nat) : (ltU m k).length = k := by simp [ltU]
theorem ltU_snoc (m k : Nat) : ltU m (k + 1) = ltU m k ++ [ltN m k] := by simp [ltU, List.range_succ]
theorem zeros_short {m n : Nat} (hm : m ≤ 1) (h1 : 1 ≤ n) (h5 : n ≤ 5) : Short m (List.replicate n 0) :=
  ⟨hm, by rw [List.length_replicate]; exact h1, by rw [List.length_replicate]; exact h5, fun z hz => by rw [(List.mem_replicate.1 hz).2]; omega⟩
theorem makeTab6 (m : Nat) (w : World) : (Instr.makeSlice 22 (.int .i64 5) (.int .i64 5)).run Try.prog w = .ok (.slice (some ⟨w.heap.size, 0, none⟩) 5 5) (w.alloc (.cells ((upd (ltN m) 5 0).map (Value.int .i64)).toArray 3)) := by
  rw [upd_zero]
  simpa using makeInts 5 (by omega) w
theorem row_res6 {w : World} {l : List Int} {lo g : Nat} (h : lo ≤ g) (hr : w.heap[g]? = some (.cells (l.map (Value.int .i64)).toArray 3 (0, 0))) : Res w lo w.heap.size (some ⟨g, 0, none⟩) l :=
  ⟨.inr ⟨g, _, rfl, h, row_ltI hr, hr, by simp, fun j x hx => by simp [hx]⟩, Nat.le_refl _⟩
theorem own_ans6 {w w' : World} {v : Value} {zs : List Int} {b : Bool} {e : Ending} (he : e = .returned (.tuple #[v, .bool b])) (ho : w'.ownsRow w.heap.size 3 1 v zs.length (zs.map (Value.int .i64))) (hb : Below w.heap.size w w') :
    ∃ B c', e = .returned (.tuple #[.slice B zs.length c', .bool b]) ∧ Res w' w.heap.size w'.heap.size B zs ∧ Below w.heap.size w w' := by
  obtain ⟨A, c, rfl, _, hr⟩ := own_res ho rfl
  exact ⟨A, c, he, hr, hb⟩
end Go.Proofs.Ytdkffkgoalgjmab
