/- Words as arrays of answers: laid in a block, loaded, compared; those of a number, and the number back; how many places differ. -/
import Derived.Test.YtpjoljaamakagaaSch
import Derived.Deep.WholeRow
import Derived.Laws.CopyRow
import Derived.ChangeKeysEq
namespace Go.Proofs.Ytpjoljaamakagaa
open Go.RowKit Go.ChangeShapes Go.WideShapes
set_option linter.unusedVariables false

def bwv (p : Nat → Bool) : Array Value := ((List.range 14).map fun i => Value.bool (p i)).toArray
theorem bwv_size (p : Nat → Bool) : (bwv p).size = 14 := by simp [bwv]
theorem bwv_at (p : Nat → Bool) {i : Nat} (h : i < 14) : (bwv p)[i]? = some (.bool (p i)) := by simp [bwv, h]
theorem bwv_ext {p q : Nat → Bool} (h : ∀ i, i < 14 → p i = q i) : bwv p = bwv q := by
  unfold bwv
  congr 1
  exact List.map_congr_left fun i hi => by rw [h i (List.mem_range.1 hi)]
theorem bwv_set (p : Nat → Bool) {k : Nat} (b : Bool) (h : k < 14) : (bwv p).setIfInBounds k (.bool b) = bwv (fun i => if i = k then b else p i) := by
  apply Array.ext_getElem?
  intro i
  by_cases hi : i < 14
  · rw [bwv_at _ hi, Array.getElem?_setIfInBounds]
    by_cases e : k = i
    · subst e
      simp [bwv_size, h]
    · rw [if_neg e, bwv_at _ hi]
      simp [show ¬ i = k by omega]
  · rw [Array.getElem?_eq_none (by simp [bwv_size]; omega), Array.getElem?_eq_none (by rw [bwv_size]; omega)]
theorem bwv_one (p : Nat → Bool) : (bwv p).all (·.oneCell') = true := by
  rw [Array.all_eq_true_iff_forall_mem]
  intro x hx
  simp [bwv] at hx
  obtain ⟨i, _, rfl⟩ := hx
  rfl
theorem bwv_zero : bwv (fun _ => false) = #[.bool false, .bool false, .bool false, .bool false, .bool false, .bool false, .bool false, .bool false, .bool false, .bool false, .bool false, .bool false, .bool false, .bool false] := rfl
theorem under_word : Try.prog.underlying 120 = some (.array 14 4) := by kernel_rfl
theorem info_word : (Try.prog.info? 120).map (·.size) = some 14 := by kernel_rfl
theorem info_word' (p : Nat → Bool) : (Try.prog.info? 120).map (·.size) = some (bwv p).size := by rw [bwv_size]; exact info_word

/-- A word that lies in a block of its own. -/
structure W14 (w : World) (b : Nat) (p : Nat → Bool) : Prop where
  row : w.heap[b]? = some (.cells (bwv p) 120 (0, 0))
theorem W14.lt {w : World} {b : Nat} {p : Nat → Bool} (h : W14 w b p) : b < w.heap.size := row_ltI h.row
theorem W14.below {w w' : World} {b B : Nat} {p : Nat → Bool} (h : W14 w b p) (hb : Below B w w') (hl : b < B) : W14 w' b p := ⟨(hb.block b hl).trans h.row⟩
theorem W14.step {w w' : World} {b : Nat} {p : Nat → Bool} (h : W14 w b p) (hb : Below w.heap.size w w') : W14 w' b p := h.below hb h.lt
theorem W14.within {w w' : World} {b lo hi : Nat} {p : Nat → Bool} (h : W14 w b p) (hb : Within lo hi w w') (hd : b < lo ∨ hi ≤ b) : W14 w' b p := ⟨(hb.block b h.lt hd).trans h.row⟩
theorem W14.past {w w' : World} {b B : Nat} {p : Nat → Bool} (h : W14 w b p) (hb : Past B w w') (hl : b < B) : W14 w' b p := ⟨(hb.block b h.lt hl).trans h.row⟩
theorem W14.new (w : World) (p : Nat → Bool) (b : Nat) (hb : b = w.heap.size) : W14 (w.alloc (.cells (bwv p) 120)) b p := ⟨alloc_row' _ _ _ _ hb⟩
theorem W14.cell {w : World} {b : Nat} {p : Nat → Bool} (h : W14 w b p) {i : Nat} (hi : i < 14) : w.cell? ⟨b, i, none⟩ = some (.bool (p i)) := by rw [row_cellI h.row, bwv_at p hi]
theorem W14.free {w : World} {b : Nat} {p : Nat → Bool} (h : W14 w b p) (i : Nat) : w.frozen? ⟨b, i, none⟩ = false := row_freeI h.row i
theorem W14.set {w : World} {b k : Nat} {p : Nat → Bool} (h : W14 w b p) (v : Bool) (hk : k < 14) : W14 (w.setCell ⟨b, k, none⟩ (.bool v)) b (fun i => if i = k then v else p i) := ⟨by rw [← bwv_set p v hk]; exact row_setI h.row k _⟩
theorem W14.far {w : World} {b g : Nat} {p : Nat → Bool} (h : W14 w b p) (hne : b ≠ g) (i : Nat) (u : Value) : W14 (w.setCell ⟨g, i, none⟩ u) b p := ⟨(Below.heap_setCell w ⟨g, i, none⟩ u b hne).trans h.row⟩
theorem W14.put {w : World} {b : Nat} {p : Nat → Bool} (h : W14 w b p) (q : Nat → Bool) : W14 (w.setRow b (bwv q)) b q := ⟨setRow_heap w b _ _ _ _ h.row⟩
theorem W14.put_far {w : World} {b g : Nat} {p : Nat → Bool} (h : W14 w b p) (hne : b ≠ g) (xs : Array Value) : W14 (w.setRow g xs) b p := ⟨(setRow_other w g b xs hne).trans h.row⟩
theorem W14.ext {w : World} {b : Nat} {p q : Nat → Bool} (h : W14 w b p) (e : ∀ i, i < 14 → p i = q i) : W14 w b q := ⟨by rw [← bwv_ext e]; exact h.row⟩
theorem W14.drew {w : World} {b : Nat} {p : Nat → Bool} (h : W14 w b p) (q : Nat) : W14 (w.drewN q) b p := ⟨h.row⟩
theorem below_setC {B g : Nat} {a w : World} (h : Below B a w) (hg : B ≤ g) (i : Nat) (u : Value) : Below B a (w.setCell ⟨g, i, none⟩ u) :=
  ⟨h.os, h.tape, h.output, by simpa [World.setCell] using h.size, fun j hj => (Below.heap_setCell w ⟨g, i, none⟩ u j (fun e => by have e' : j = g := e; omega)).trans (h.block j hj)⟩
theorem below_setRow {B g : Nat} {a w : World} (h : Below B a w) (hg : B ≤ g) (xs : Array Value) : Below B a (w.setRow g xs) :=
  ⟨h.os, h.tape, h.output, by simpa using h.size, fun j hj => (setRow_other w g j xs (by omega)).trans (h.block j hj)⟩
/-- The operations. -/
theorem wpList_load14 {ops : Array Oper} {rest : List Oper} {o : Oper} {a : Act} {w : World} {Q : Exit → Act → World → Prop} (hgd : o.guard = none) (x : Operand) (ho : o.op = .load 120 x)
    (g : Nat) (p : Nat → Bool) (hx : a.eval x = .pointer (some ⟨g, 0, none⟩)) (h : W14 w g p)
    (hK : wpList Try.prog ops Q rest (a.put o.dst (.agg (bwv p))) w) : wpList Try.prog ops Q (o :: rest) a w :=
  wpList_load_row hgd 120 x ho g hx 120 _ _ _ h.row under_word rfl (info_word' p) hK
theorem wpList_store14 {ops : Array Oper} {rest : List Oper} {o : Oper} {a : Act} {w : World} {Q : Exit → Act → World → Prop} (hgd : o.guard = none) (x y : Operand) (ho : o.op = .store 120 x y)
    (g : Nat) (p q : Nat → Bool) (hx : a.eval x = .pointer (some ⟨g, 0, none⟩)) (hy : a.eval y = .agg (bwv q)) (h : W14 w g p)
    (hK : wpList Try.prog ops Q rest (a.put o.dst undef) (w.setRow g (bwv q))) : wpList Try.prog ops Q (o :: rest) a w :=
  wpList_store_row hgd 120 x y ho g _ hx hy 120 _ h.row (info_word' q) (by rw [bwv_size, bwv_size]) (bwv_one q) hK
theorem index14 (p : Nat → Bool) (j : Nat) (h : j < 14) (w : World) :
    (Instr.index 120 (.agg (bwv p)) (.int .i64 (j : Int))).run Try.prog w = .ok (.bool (p j)) w := by
  have he : Try.prog.plainKey 4 = true := by kernel_rfl
  have hp := run_part_plain (P := Try.prog) w he (bwv_at p h)
  simp [Instr.index, run_underlying under_word, hp, asIntOf, Result.andThen, h]
theorem wpList_index14 {ops : Array Oper} {rest : List Oper} {o : Oper} {a : Act} {w : World} {Q : Exit → Act → World → Prop} (hg : o.guard = none) (x i : Operand) (hop : o.op = Op.index 120 x i)
    (p : Nat → Bool) (j : Nat) (hx : a.eval x = .agg (bwv p)) (hi : a.eval i = .int .i64 (j : Int)) (hj : j < 14)
    (hK : wpList Try.prog ops Q rest (a.put o.dst (.bool (p j))) w) : wpList Try.prog ops Q (o :: rest) a w := by
  refine wpList_plain hg fun K' hK' => ?_
  have hr := index14 p j hj w
  unfold Oper.wp
  simp [execOp, hop, hx, hi, hr, Result.andThen]
  exact hK' _ _ hK

end Go.Proofs.Ytpjoljaamakagaa
