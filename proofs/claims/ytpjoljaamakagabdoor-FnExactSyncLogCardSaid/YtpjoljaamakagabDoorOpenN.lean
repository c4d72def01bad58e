/- Open numbers. -/
import Derived.Test.YtpjoljaamakagabDoorOwn
import Derived.Test.YtpjoljaamakagabDoorQuest
namespace Go.Proofs.YtpjoljaamakagabDoor
open Go.RowKit Go.ChangeShapes Go.WideShapes
set_option linter.unusedVariables false

/-- The open numbers of a state. -/
def opens (zs : List Int) : List Int := filt (fun k => decide (0 ≤ zs.getD k (-1))) zs.length
theorem opens_len (zs : List Int) : (opens zs).length ≤ zs.length := filt_len _ _
theorem getD_at {zs : List Int} {k : Nat} (h : k < zs.length) : zs.getD k (-1) = zs[k] := by simp [List.getD, h]
theorem isSt_len {zs : List Int} {m : Int} (h : isSt zs m = true) : 1 ≤ zs.length ∧ zs.length ≤ 12 ∧ 0 ≤ m ∧ m ≤ 2 := by
  unfold isSt at h
  simp only [Bool.and_eq_true] at h
  have h1 := inB_iff.1 h.1.1
  have h2 := inB_iff.1 h.1.2
  omega
theorem isSt_at {zs : List Int} {m : Int} (h : isSt zs m = true) {k : Nat} (hk : k < zs.length) : -1 ≤ zs[k] ∧ zs[k] ≤ m := by
  unfold isSt at h
  simp only [Bool.and_eq_true] at h
  exact inB_iff.1 (List.all_eq_true.1 h.2 _ (List.getElem_mem hk))

theorem O0_any (w : World) (B : Nat) (h : B ≤ w.heap.size) : (w.alloc (.cells #[] 3)).ownsRow B 3 1 (.slice (some ⟨w.heap.size, 0, none⟩) 0 0) 0 [] :=
  World.ownsRow_lit w (e := 3) (size := 1) (base := B) #[] 0 h (by unfold maxLen; omega) rfl

/-- From a row of one's own to the answer. -/
theorem own_ans {w w' : World} {v : Value} {zs : List Int} {b : Bool} {e : Ending} (he : e = .returned (.tuple #[v, .bool b])) (ho : w'.ownsRow (w.heap.size + 1) 3 1 v zs.length (zs.map (Value.int .i64))) (hb : Below w.heap.size w w') :
    ∃ B c', e = .returned (.tuple #[.slice B zs.length c', .bool b]) ∧ Res w' w.heap.size w'.heap.size B zs ∧ Below w.heap.size w w' := by
  obtain ⟨A, c, rfl, _, hr⟩ := own_res ho rfl
  exact ⟨A, c, he, ⟨hr.own.wide (by omega) (Nat.le_refl _), hr.top⟩, hb⟩
end Go.Proofs.YtpjoljaamakagabDoor
