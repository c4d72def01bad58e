/- Records of the laws: sizes, copies; those that come in. -/
import Derived.Test.YtpjoljaamakagabDoorL12QQ
import Derived.Test.YtpjoljaamakagabDoorOpen
namespace Go.Proofs.YtpjoljaamakagabDoor
open Go.RowKit Go.ChangeShapes Go.WideShapes Go.ChangeAt
set_option linter.unusedVariables false
set_option linter.unusedSimpArgs false

/-- A record's cells. -/
def rcA (a b : ByteArray) : Array Value := #[.string a, .string b]
theorem underLRec : Tryd.prog.underlying 23 = some (.struct (Tryd.prog.fieldsOf 23)) := by kernel_rfl
theorem infoLRec (a b : ByteArray) : (Tryd.prog.info? 23).map (·.size) = some (rcA a b).size := by kernel_rfl
set_option maxRecDepth 100000 in
set_option maxHeartbeats 4000000 in
theorem toLogRecord_any (a b : ByteArray) (W : World) :
    Calls Tryd.prog 14 #[.agg (rcA a b)] W fun e w' => e = .returned (.agg (rcA a b)) ∧ Below W.heap.size W w' := by
  unfold rcA
  go_enter Tryd.func14, Tryd.ntmps14
  go_wp2
  refine bodyPost_ret (v := .agg #[.string a, .string b]) (by simp [results, go_sem]) rfl ?_
  exact ⟨rfl, (((Below.refl _ _).alloc (Nat.le_refl _) _).alloc (by simp) _).alloc (by simp; omega) _⟩
def szR (a b : ByteArray) (left : Nat) : Int := if a.size + b.size ≤ left then ((left - (a.size + b.size) : Nat) : Int) else -1
set_option maxRecDepth 100000 in
set_option maxHeartbeats 4000000 in
theorem szLogRecord_any (a b : ByteArray) (W : World) (ha : a.size ≤ maxLen) (hb : b.size ≤ maxLen) :
    Calls Tryd.prog 12 #[.agg (rcA a b), .int .i64 1048576] W fun e w' => e = .returned (.int .i64 (szR a b 1048576)) ∧ Below W.heap.size W w' := by
  unfold rcA
  unfold maxLen at ha hb
  unfold szR
  by_cases h1 : a.size ≤ 1048576
  · by_cases h2 : a.size + b.size ≤ 1048576
    · rw [if_pos h2, show ((1048576 - (a.size + b.size) : Nat) : Int) = 1048576 - (a.size : Int) - (b.size : Int) by omega]
      go_enter Tryd.func12, Tryd.ntmps12
      go_wp2
      go_ret
      exact ⟨rfl, (Below.refl _ _).alloc (Nat.le_refl _) _⟩
    · rw [if_neg h2]
      go_enter Tryd.func12, Tryd.ntmps12
      go_wp2
      go_ret
      exact ⟨rfl, (Below.refl _ _).alloc (Nat.le_refl _) _⟩
  · rw [if_neg (by omega)]
    go_enter Tryd.func12, Tryd.ntmps12
    go_wp2
    go_ret
    exact ⟨rfl, (Below.refl _ _).alloc (Nat.le_refl _) _⟩
set_option maxRecDepth 100000 in
theorem rec_of_trod {H : Type} {enc : TypeId × Value → H} {W : World} {base : Nat} {v : Value} {d : DataW H} {ps : List MemPlace}
    (hv : Value.okWide Tryd.prog W .any base 23 v) (h : DataW.Trod enc Tryd.prog W 0 (fun _ => true) true 23 v d ps) :
    ∃ (a b : ByteArray), v = .agg (rcA a b) ∧ a.size ≤ maxLen ∧ b.size ≤ maxLen := by
  obtain ⟨cs, rfl, hsz⟩ := okWide_struct Tryd.underlying23 hv
  rw [show Tryd.prog.cellsOf 23 = 2 by kernel_rfl] at hsz
  obtain ⟨l⟩ := cs
  match l, hsz with
  | [c0, c1], _ =>
  obtain ⟨fuel, hf⟩ := h
  obtain ⟨y0, y1, n, hx, _, hy0, hy1⟩ := trod_struct2 Tryd.underlying23 hf
  have e2 : Tryd.prog.cellsOf 9 = 1 := by kernel_rfl
  simp [Value.cells, e2] at hy0 hy1
  obtain ⟨a, ea, rfl, wa⟩ := DataW.trod_string Tryd.underlying9 hy0
  obtain ⟨b, eb, rfl, wb⟩ := DataW.trod_string Tryd.underlying9 hy1
  simp at ea eb
  subst ea eb
  exact ⟨a, b, rfl, wa, wb⟩
end Go.Proofs.YtpjoljaamakagabDoor
