/- Rooms: their cells; copies and comparisons of the laws. -/
import Derived.Test.YtpjoljaamakagabDoorOpen
import Derived.Test.YtpjoljaamakagabDoorAfter
import Derived.Laws.StructEq
import Derived.Deep.WholeRow
import Derived.Deep.MidRow
import Derived.Laws.CopyRow
import Derived.ChangeKeysEq
namespace Go.Proofs.YtpjoljaamakagabDoor
open Go.RowKit Go.ChangeShapes Go.WideShapes
set_option linter.unusedVariables false

/-- A block of known cells. -/
structure Rw (w : World) (b : Nat) (cs : Array Value) (t : TypeId) : Prop where
  row : w.heap[b]? = some (.cells cs t (0, 0))
theorem Rw.lt {w : World} {b : Nat} {cs : Array Value} {t : TypeId} (h : Rw w b cs t) : b < w.heap.size := row_ltI h.row
theorem Rw.step {w w' : World} {b : Nat} {cs : Array Value} {t : TypeId} (h : Rw w b cs t) (hb : Below w.heap.size w w') : Rw w' b cs t := ⟨(hb.block b h.lt).trans h.row⟩
theorem Rw.within {w w' : World} {b lo hi : Nat} {cs : Array Value} {t : TypeId} (h : Rw w b cs t) (hb : Within lo hi w w') (hd : b < lo ∨ hi ≤ b) : Rw w' b cs t := ⟨(hb.block b h.lt hd).trans h.row⟩
theorem Rw.new (w : World) (cs : Array Value) (t : TypeId) (b : Nat) (hb : b = w.heap.size) : Rw (w.alloc (.cells cs t)) b cs t := ⟨alloc_row' _ _ _ _ hb⟩
theorem Rw.cell {w : World} {b : Nat} {cs : Array Value} {t : TypeId} (h : Rw w b cs t) {i : Nat} {v : Value} (hi : cs[i]? = some v) : w.cell? ⟨b, i, none⟩ = some v := by rw [row_cellI h.row, hi]
theorem Rw.free {w : World} {b : Nat} {cs : Array Value} {t : TypeId} (h : Rw w b cs t) (i : Nat) : w.frozen? ⟨b, i, none⟩ = false := row_freeI h.row i
theorem Rw.set {w : World} {b k : Nat} {cs : Array Value} {t : TypeId} (h : Rw w b cs t) (v : Value) : Rw (w.setCell ⟨b, k, none⟩ v) b (cs.setIfInBounds k v) t := ⟨row_setI h.row k _⟩
theorem Rw.far {w : World} {b g : Nat} {cs : Array Value} {t : TypeId} (h : Rw w b cs t) (hne : b ≠ g) (i : Nat) (u : Value) : Rw (w.setCell ⟨g, i, none⟩ u) b cs t := ⟨(Below.heap_setCell w ⟨g, i, none⟩ u b hne).trans h.row⟩
theorem Rw.drewN {w : World} {b : Nat} {cs : Array Value} {t : TypeId} (h : Rw w b cs t) (q : Nat) : Rw (w.drewN q) b cs t := ⟨h.row⟩
theorem below_setR {B g : Nat} {a w : World} (h : Below B a w) (hg : B ≤ g) (i : Nat) (u : Value) : Below B a (w.setCell ⟨g, i, none⟩ u) :=
  ⟨h.os, h.tape, h.output, by simpa [World.setCell] using h.size, fun j hj => (Below.heap_setCell w ⟨g, i, none⟩ u j (fun e => by have e' : j = g := e; omega)).trans (h.block j hj)⟩

/-- Twelve numbers; a room. -/
def iA (p : Nat → Int) : Array Value := #[.int .i64 (p 0), .int .i64 (p 1), .int .i64 (p 2), .int .i64 (p 3), .int .i64 (p 4), .int .i64 (p 5), .int .i64 (p 6), .int .i64 (p 7), .int .i64 (p 8), .int .i64 (p 9), .int .i64 (p 10), .int .i64 (p 11)]
def rmA (p : Nat → Int) (n m c : Int) : Array Value := #[.int .i64 (p 0), .int .i64 (p 1), .int .i64 (p 2), .int .i64 (p 3), .int .i64 (p 4), .int .i64 (p 5), .int .i64 (p 6), .int .i64 (p 7), .int .i64 (p 8), .int .i64 (p 9), .int .i64 (p 10), .int .i64 (p 11), .int .i64 n, .int .i64 m, .int .i64 c]
theorem iA_at (p : Nat → Int) {k : Nat} (h : k < 12) : (iA p)[k]? = some (.int .i64 (p k)) := by
  match k, h with
  | 0, _ | 1, _ | 2, _ | 3, _ | 4, _ | 5, _ | 6, _ | 7, _ | 8, _ | 9, _ | 10, _ | 11, _ => rfl
theorem rmA_at (p : Nat → Int) (n m c : Int) {k : Nat} (h : k < 12) : (rmA p n m c)[k]? = some (.int .i64 (p k)) := by
  match k, h with
  | 0, _ | 1, _ | 2, _ | 3, _ | 4, _ | 5, _ | 6, _ | 7, _ | 8, _ | 9, _ | 10, _ | 11, _ => rfl
def upd (p : Nat → Int) (k : Nat) (v : Int) : Nat → Int := fun i => if i = k then v else p i
theorem iA_set (p : Nat → Int) {k : Nat} (v : Int) (h : k < 12) : (iA p).setIfInBounds k (.int .i64 v) = iA (upd p k v) := by
  match k, h with
  | 0, _ | 1, _ | 2, _ | 3, _ | 4, _ | 5, _ | 6, _ | 7, _ | 8, _ | 9, _ | 10, _ | 11, _ => rfl
theorem rmA_set (p : Nat → Int) (n m c : Int) {k : Nat} (v : Int) (h : k < 12) : (rmA p n m c).setIfInBounds k (.int .i64 v) = rmA (upd p k v) n m c := by
  match k, h with
  | 0, _ | 1, _ | 2, _ | 3, _ | 4, _ | 5, _ | 6, _ | 7, _ | 8, _ | 9, _ | 10, _ | 11, _ => rfl
theorem iA_ext {p q : Nat → Int} (h : ∀ i, i < 12 → p i = q i) : iA p = iA q := by
  unfold iA
  rw [h 0 (by omega), h 1 (by omega), h 2 (by omega), h 3 (by omega), h 4 (by omega), h 5 (by omega), h 6 (by omega), h 7 (by omega), h 8 (by omega), h 9 (by omega), h 10 (by omega), h 11 (by omega)]
theorem rmA_ext {p q : Nat → Int} {n m c : Int} (h : ∀ i, i < 12 → p i = q i) : rmA p n m c = rmA q n m c := by
  unfold rmA
  rw [h 0 (by omega), h 1 (by omega), h 2 (by omega), h 3 (by omega), h 4 (by omega), h 5 (by omega), h 6 (by omega), h 7 (by omega), h 8 (by omega), h 9 (by omega), h 10 (by omega), h 11 (by omega)]

theorem under12 : Tryd.prog.underlying 53 = some (.array 12 3) := by kernel_rfl
theorem info12 : (Tryd.prog.info? 53).map (·.size) = some 12 := by kernel_rfl
theorem infoRm : (Tryd.prog.info? 60).map (·.size) = some 15 := by kernel_rfl
theorem iA_one (p : Nat → Int) : (iA p).all (·.oneCell') = true := by simp [iA, Value.oneCell']
theorem rmA_one (p : Nat → Int) (n m c : Int) : (rmA p n m c).all (·.oneCell') = true := by simp [rmA, Value.oneCell']
theorem Rw.put {w : World} {b : Nat} {cs : Array Value} {t : TypeId} (h : Rw w b cs t) (ds : Array Value) : Rw (w.setRow b ds) b ds t := ⟨setRow_heap w b _ _ _ _ h.row⟩
theorem Rw.put_far {w : World} {b g : Nat} {cs : Array Value} {t : TypeId} (h : Rw w b cs t) (hne : b ≠ g) (xs : Array Value) : Rw (w.setRow g xs) b cs t := ⟨(setRow_other w g b xs hne).trans h.row⟩
theorem below_putR {B g : Nat} {a w : World} (h : Below B a w) (hg : B ≤ g) (xs : Array Value) : Below B a (w.setRow g xs) :=
  ⟨h.os, h.tape, h.output, by simpa using h.size, fun j hj => (setRow_other w g j xs (by omega)).trans (h.block j hj)⟩
/-- A whole row out of its block, and into it. -/
theorem wpList_loadRw {ops : Array Oper} {rest : List Oper} {o : Oper} {a : Act} {w : World} {Q : Exit → Act → World → Prop} (hgd : o.guard = none) (ty : TypeId) (x : Operand) (ho : o.op = .load ty x)
    (g : Nat) (cs : Array Value) (t : TypeId) (hx : a.eval x = .pointer (some ⟨g, 0, none⟩)) (h : Rw w g cs t) {d : TypeDesc} (hd : d.isRow = true) (hu : Tryd.prog.underlying ty = some d) (hi : (Tryd.prog.info? ty).map (·.size) = some cs.size)
    (hK : wpList Tryd.prog ops Q rest (a.put o.dst (.agg cs)) w) : wpList Tryd.prog ops Q (o :: rest) a w :=
  wpList_load_row hgd ty x ho g hx t _ _ _ h.row hu (by cases d <;> first | rfl | (cases hd)) hi hK
theorem wpList_storeRw {ops : Array Oper} {rest : List Oper} {o : Oper} {a : Act} {w : World} {Q : Exit → Act → World → Prop} (hgd : o.guard = none) (ty : TypeId) (x y : Operand) (ho : o.op = .store ty x y)
    (g : Nat) (old cs : Array Value) (t : TypeId) (hx : a.eval x = .pointer (some ⟨g, 0, none⟩)) (hy : a.eval y = .agg cs) (h : Rw w g old t) (hi : (Tryd.prog.info? ty).map (·.size) = some cs.size) (ho2 : old.size = cs.size) (h1 : cs.all (·.oneCell') = true)
    (hK : wpList Tryd.prog ops Q rest (a.put o.dst undef) (w.setRow g cs)) : wpList Tryd.prog ops Q (o :: rest) a w :=
  wpList_store_row hgd ty x y ho g _ hx hy t _ h.row hi ho2 h1 hK

set_option maxHeartbeats 2000000 in
/-- Twelve cells stored. -/
theorem stored12 {w : World} {b : Nat} {q : Nat → Int} {t : TypeId} (h : Rw w b (iA q) t) (p : Nat → Int) : Rw ((((((((((((w.setCell ⟨b, 0, none⟩ (.int .i64 (p 0))).setCell ⟨b, 1, none⟩ (.int .i64 (p 1))).setCell ⟨b, 2, none⟩ (.int .i64 (p 2))).setCell ⟨b, 3, none⟩ (.int .i64 (p 3))).setCell ⟨b, 4, none⟩ (.int .i64 (p 4))).setCell ⟨b, 5, none⟩ (.int .i64 (p 5))).setCell ⟨b, 6, none⟩ (.int .i64 (p 6))).setCell ⟨b, 7, none⟩ (.int .i64 (p 7))).setCell ⟨b, 8, none⟩ (.int .i64 (p 8))).setCell ⟨b, 9, none⟩ (.int .i64 (p 9))).setCell ⟨b, 10, none⟩ (.int .i64 (p 10))).setCell ⟨b, 11, none⟩ (.int .i64 (p 11))) b (iA p) t ∧ Within b (b + 1) w ((((((((((((w.setCell ⟨b, 0, none⟩ (.int .i64 (p 0))).setCell ⟨b, 1, none⟩ (.int .i64 (p 1))).setCell ⟨b, 2, none⟩ (.int .i64 (p 2))).setCell ⟨b, 3, none⟩ (.int .i64 (p 3))).setCell ⟨b, 4, none⟩ (.int .i64 (p 4))).setCell ⟨b, 5, none⟩ (.int .i64 (p 5))).setCell ⟨b, 6, none⟩ (.int .i64 (p 6))).setCell ⟨b, 7, none⟩ (.int .i64 (p 7))).setCell ⟨b, 8, none⟩ (.int .i64 (p 8))).setCell ⟨b, 9, none⟩ (.int .i64 (p 9))).setCell ⟨b, 10, none⟩ (.int .i64 (p 10))).setCell ⟨b, 11, none⟩ (.int .i64 (p 11))) :=
  ⟨⟨((((((((((((h.set (k := 0) (.int .i64 (p 0))).set (k := 1) (.int .i64 (p 1))).set (k := 2) (.int .i64 (p 2))).set (k := 3) (.int .i64 (p 3))).set (k := 4) (.int .i64 (p 4))).set (k := 5) (.int .i64 (p 5))).set (k := 6) (.int .i64 (p 6))).set (k := 7) (.int .i64 (p 7))).set (k := 8) (.int .i64 (p 8))).set (k := 9) (.int .i64 (p 9))).set (k := 10) (.int .i64 (p 10))).set (k := 11) (.int .i64 (p 11))).row.trans (by simp [iA])⟩, (within_set (within_set (within_set (within_set (within_set (within_set (within_set (within_set (within_set (within_set (within_set (within_set (Within.refl _ _ w) (Nat.le_refl _) (Nat.lt_succ_self _) 0 (.int .i64 (p 0))) (Nat.le_refl _) (Nat.lt_succ_self _) 1 (.int .i64 (p 1))) (Nat.le_refl _) (Nat.lt_succ_self _) 2 (.int .i64 (p 2))) (Nat.le_refl _) (Nat.lt_succ_self _) 3 (.int .i64 (p 3))) (Nat.le_refl _) (Nat.lt_succ_self _) 4 (.int .i64 (p 4))) (Nat.le_refl _) (Nat.lt_succ_self _) 5 (.int .i64 (p 5))) (Nat.le_refl _) (Nat.lt_succ_self _) 6 (.int .i64 (p 6))) (Nat.le_refl _) (Nat.lt_succ_self _) 7 (.int .i64 (p 7))) (Nat.le_refl _) (Nat.lt_succ_self _) 8 (.int .i64 (p 8))) (Nat.le_refl _) (Nat.lt_succ_self _) 9 (.int .i64 (p 9))) (Nat.le_refl _) (Nat.lt_succ_self _) 10 (.int .i64 (p 10))) (Nat.le_refl _) (Nat.lt_succ_self _) 11 (.int .i64 (p 11)))⟩
set_option maxHeartbeats 2000000 in
theorem stored15 {w : World} {b : Nat} {q : Nat → Int} {n0 m0 c0 : Int} {t : TypeId} (h : Rw w b (rmA q n0 m0 c0) t) (p : Nat → Int) (n m c : Int) : Rw (((((((((((((((w.setCell ⟨b, 0, none⟩ (.int .i64 (p 0))).setCell ⟨b, 1, none⟩ (.int .i64 (p 1))).setCell ⟨b, 2, none⟩ (.int .i64 (p 2))).setCell ⟨b, 3, none⟩ (.int .i64 (p 3))).setCell ⟨b, 4, none⟩ (.int .i64 (p 4))).setCell ⟨b, 5, none⟩ (.int .i64 (p 5))).setCell ⟨b, 6, none⟩ (.int .i64 (p 6))).setCell ⟨b, 7, none⟩ (.int .i64 (p 7))).setCell ⟨b, 8, none⟩ (.int .i64 (p 8))).setCell ⟨b, 9, none⟩ (.int .i64 (p 9))).setCell ⟨b, 10, none⟩ (.int .i64 (p 10))).setCell ⟨b, 11, none⟩ (.int .i64 (p 11))).setCell ⟨b, 12, none⟩ (.int .i64 n)).setCell ⟨b, 13, none⟩ (.int .i64 m)).setCell ⟨b, 14, none⟩ (.int .i64 c)) b (rmA p n m c) t ∧ Within b (b + 1) w (((((((((((((((w.setCell ⟨b, 0, none⟩ (.int .i64 (p 0))).setCell ⟨b, 1, none⟩ (.int .i64 (p 1))).setCell ⟨b, 2, none⟩ (.int .i64 (p 2))).setCell ⟨b, 3, none⟩ (.int .i64 (p 3))).setCell ⟨b, 4, none⟩ (.int .i64 (p 4))).setCell ⟨b, 5, none⟩ (.int .i64 (p 5))).setCell ⟨b, 6, none⟩ (.int .i64 (p 6))).setCell ⟨b, 7, none⟩ (.int .i64 (p 7))).setCell ⟨b, 8, none⟩ (.int .i64 (p 8))).setCell ⟨b, 9, none⟩ (.int .i64 (p 9))).setCell ⟨b, 10, none⟩ (.int .i64 (p 10))).setCell ⟨b, 11, none⟩ (.int .i64 (p 11))).setCell ⟨b, 12, none⟩ (.int .i64 n)).setCell ⟨b, 13, none⟩ (.int .i64 m)).setCell ⟨b, 14, none⟩ (.int .i64 c)) :=
  ⟨⟨(((((((((((((((h.set (k := 0) (.int .i64 (p 0))).set (k := 1) (.int .i64 (p 1))).set (k := 2) (.int .i64 (p 2))).set (k := 3) (.int .i64 (p 3))).set (k := 4) (.int .i64 (p 4))).set (k := 5) (.int .i64 (p 5))).set (k := 6) (.int .i64 (p 6))).set (k := 7) (.int .i64 (p 7))).set (k := 8) (.int .i64 (p 8))).set (k := 9) (.int .i64 (p 9))).set (k := 10) (.int .i64 (p 10))).set (k := 11) (.int .i64 (p 11))).set (k := 12) (.int .i64 n)).set (k := 13) (.int .i64 m)).set (k := 14) (.int .i64 c)).row.trans (by simp [rmA])⟩, (within_set (within_set (within_set (within_set (within_set (within_set (within_set (within_set (within_set (within_set (within_set (within_set (within_set (within_set (within_set (Within.refl _ _ w) (Nat.le_refl _) (Nat.lt_succ_self _) 0 (.int .i64 (p 0))) (Nat.le_refl _) (Nat.lt_succ_self _) 1 (.int .i64 (p 1))) (Nat.le_refl _) (Nat.lt_succ_self _) 2 (.int .i64 (p 2))) (Nat.le_refl _) (Nat.lt_succ_self _) 3 (.int .i64 (p 3))) (Nat.le_refl _) (Nat.lt_succ_self _) 4 (.int .i64 (p 4))) (Nat.le_refl _) (Nat.lt_succ_self _) 5 (.int .i64 (p 5))) (Nat.le_refl _) (Nat.lt_succ_self _) 6 (.int .i64 (p 6))) (Nat.le_refl _) (Nat.lt_succ_self _) 7 (.int .i64 (p 7))) (Nat.le_refl _) (Nat.lt_succ_self _) 8 (.int .i64 (p 8))) (Nat.le_refl _) (Nat.lt_succ_self _) 9 (.int .i64 (p 9))) (Nat.le_refl _) (Nat.lt_succ_self _) 10 (.int .i64 (p 10))) (Nat.le_refl _) (Nat.lt_succ_self _) 11 (.int .i64 (p 11))) (Nat.le_refl _) (Nat.lt_succ_self _) 12 (.int .i64 n)) (Nat.le_refl _) (Nat.lt_succ_self _) 13 (.int .i64 m)) (Nat.le_refl _) (Nat.lt_succ_self _) 14 (.int .i64 c))⟩
set_option maxHeartbeats 2000000 in
theorem stored12r {w : World} {b : Nat} {q : Nat → Int} {n m c : Int} {t : TypeId} (h : Rw w b (rmA q n m c) t) (p : Nat → Int) : Rw ((((((((((((w.setCell ⟨b, 0, none⟩ (.int .i64 (p 0))).setCell ⟨b, 1, none⟩ (.int .i64 (p 1))).setCell ⟨b, 2, none⟩ (.int .i64 (p 2))).setCell ⟨b, 3, none⟩ (.int .i64 (p 3))).setCell ⟨b, 4, none⟩ (.int .i64 (p 4))).setCell ⟨b, 5, none⟩ (.int .i64 (p 5))).setCell ⟨b, 6, none⟩ (.int .i64 (p 6))).setCell ⟨b, 7, none⟩ (.int .i64 (p 7))).setCell ⟨b, 8, none⟩ (.int .i64 (p 8))).setCell ⟨b, 9, none⟩ (.int .i64 (p 9))).setCell ⟨b, 10, none⟩ (.int .i64 (p 10))).setCell ⟨b, 11, none⟩ (.int .i64 (p 11))) b (rmA p n m c) t ∧ Within b (b + 1) w ((((((((((((w.setCell ⟨b, 0, none⟩ (.int .i64 (p 0))).setCell ⟨b, 1, none⟩ (.int .i64 (p 1))).setCell ⟨b, 2, none⟩ (.int .i64 (p 2))).setCell ⟨b, 3, none⟩ (.int .i64 (p 3))).setCell ⟨b, 4, none⟩ (.int .i64 (p 4))).setCell ⟨b, 5, none⟩ (.int .i64 (p 5))).setCell ⟨b, 6, none⟩ (.int .i64 (p 6))).setCell ⟨b, 7, none⟩ (.int .i64 (p 7))).setCell ⟨b, 8, none⟩ (.int .i64 (p 8))).setCell ⟨b, 9, none⟩ (.int .i64 (p 9))).setCell ⟨b, 10, none⟩ (.int .i64 (p 10))).setCell ⟨b, 11, none⟩ (.int .i64 (p 11))) :=
  ⟨⟨((((((((((((h.set (k := 0) (.int .i64 (p 0))).set (k := 1) (.int .i64 (p 1))).set (k := 2) (.int .i64 (p 2))).set (k := 3) (.int .i64 (p 3))).set (k := 4) (.int .i64 (p 4))).set (k := 5) (.int .i64 (p 5))).set (k := 6) (.int .i64 (p 6))).set (k := 7) (.int .i64 (p 7))).set (k := 8) (.int .i64 (p 8))).set (k := 9) (.int .i64 (p 9))).set (k := 10) (.int .i64 (p 10))).set (k := 11) (.int .i64 (p 11))).row.trans (by simp [rmA])⟩, (within_set (within_set (within_set (within_set (within_set (within_set (within_set (within_set (within_set (within_set (within_set (within_set (Within.refl _ _ w) (Nat.le_refl _) (Nat.lt_succ_self _) 0 (.int .i64 (p 0))) (Nat.le_refl _) (Nat.lt_succ_self _) 1 (.int .i64 (p 1))) (Nat.le_refl _) (Nat.lt_succ_self _) 2 (.int .i64 (p 2))) (Nat.le_refl _) (Nat.lt_succ_self _) 3 (.int .i64 (p 3))) (Nat.le_refl _) (Nat.lt_succ_self _) 4 (.int .i64 (p 4))) (Nat.le_refl _) (Nat.lt_succ_self _) 5 (.int .i64 (p 5))) (Nat.le_refl _) (Nat.lt_succ_self _) 6 (.int .i64 (p 6))) (Nat.le_refl _) (Nat.lt_succ_self _) 7 (.int .i64 (p 7))) (Nat.le_refl _) (Nat.lt_succ_self _) 8 (.int .i64 (p 8))) (Nat.le_refl _) (Nat.lt_succ_self _) 9 (.int .i64 (p 9))) (Nat.le_refl _) (Nat.lt_succ_self _) 10 (.int .i64 (p 10))) (Nat.le_refl _) (Nat.lt_succ_self _) 11 (.int .i64 (p 11)))⟩

set_option maxRecDepth 100000 in
set_option maxHeartbeats 4000000 in
theorem toIntA12_any (p : Nat → Int) (w : World) :
    Calls Tryd.prog 80 #[.agg (iA p)] w fun e w' => e = .returned (.agg (iA p)) ∧ Below w.heap.size w w' := by
  have HT1 := Lib.hid (((Rw.new w (iA p) 53 w.heap.size rfl).step ((Below.refl _ _).alloc (Nat.le_refl _) (.cells (iA fun _ => 0) 53))).step ((Below.refl _ _).alloc (Nat.le_refl _) (.cells (iA fun _ => 0) 53)))
  have HT3 := Lib.hid (Rw.new ((w.alloc (.cells (iA p) 53)).alloc (.cells (iA fun _ => 0) 53)) (iA fun _ => 0) 53 (w.heap.size + 2) (by simp))
  have HT2 := Lib.hid ((Rw.new (w.alloc (.cells (iA p) 53)) (iA fun _ => 0) 53 (w.heap.size + 1) (by simp)).step ((Below.refl _ _).alloc (Nat.le_refl _) (.cells (iA fun _ => 0) 53)))
  have HB := Lib.hid ((((Below.refl w.heap.size w).alloc (Nat.le_refl _) (.cells (iA p) 53)).alloc (by simp) (.cells (iA fun _ => 0) 53)).alloc (by simp; omega) (.cells (iA fun _ => 0) 53))
  go_enter Tryd.func80, Tryd.ntmps80
  simp only [iA] at HT1 HT2 HT3 HB ⊢
  go_wp2_with fail
  generalize ((w.alloc (.cells #[.int .i64 (p 0), .int .i64 (p 1), .int .i64 (p 2), .int .i64 (p 3), .int .i64 (p 4), .int .i64 (p 5), .int .i64 (p 6), .int .i64 (p 7), .int .i64 (p 8), .int .i64 (p 9), .int .i64 (p 10), .int .i64 (p 11)] 53)).alloc (.cells #[.int .i64 0, .int .i64 0, .int .i64 0, .int .i64 0, .int .i64 0, .int .i64 0, .int .i64 0, .int .i64 0, .int .i64 0, .int .i64 0, .int .i64 0, .int .i64 0] 53)).alloc (.cells #[.int .i64 0, .int .i64 0, .int .i64 0, .int .i64 0, .int .i64 0, .int .i64 0, .int .i64 0, .int .i64 0, .int .i64 0, .int .i64 0, .int .i64 0, .int .i64 0] 53) = wa at HT1 HT2 HT3 HB ⊢
  go_loopw [4] (fun i wr => ∃ k : Nat, k ≤ 12 ∧ i = .int .i64 (k : Int) ∧ Hid (Rw wr w.heap.size (iA p) 53) ∧ Hid (Rw wr (w.heap.size + 1) (iA fun _ => 0) 53) ∧ Hid (Rw wr (w.heap.size + 2) (iA fun i => if i < k then p i else 0) 53) ∧ Hid (Below w.heap.size w wr)) (fun i _ => 12 - (intOf i).toNat)
  case atStart => exact ⟨0, by omega, rfl, HT1, HT2, HT3, HB⟩
  case round =>
    clear HT1 HT2 HT3 HB
    obtain ⟨k, hk, rfl, HT1, HT2, HT3, HB⟩ := hrel
    rename World => wr
    by_cases hlt : k < 12
    · have hc := HT1.out.cell (iA_at p hlt)
      have hd := HT3.out.cell (iA_at (fun i => if i < k then p i else 0) hlt)
      have hf := HT3.out.free k
      have hki : (k : Int) < 12 := by omega
      have HS : Hid (Rw (wr.setCell ⟨w.heap.size + 2, k, none⟩ (.int .i64 (p k))) (w.heap.size + 2) (iA fun i => if i < k + 1 then p i else 0) 53) := Lib.hid (by
        have h := HT3.out.set (k := k) (.int .i64 (p k))
        rw [iA_set _ _ hlt] at h
        rw [iA_ext (q := upd (fun i => if i < k then p i else 0) k (p k)) fun i hi => ?_]
        · exact h
        · unfold upd
          by_cases e : i = k
          · subst e; simp
          · simp only [e, if_false]
            by_cases e2 : i < k
            · simp [e2, show i < k + 1 by omega]
            · simp [e2, show ¬ i < k + 1 by omega])
      have HA1 := Lib.hid (HT1.out.far (g := w.heap.size + 2) (by omega) k (.int .i64 (p k)))
      have HA2 := Lib.hid (HT2.out.far (g := w.heap.size + 2) (by omega) k (.int .i64 (p k)))
      have HAB := Lib.hid (below_setR HB.out (g := w.heap.size + 2) (by omega) k (.int .i64 (p k)))
      clear HT1 HT2 HT3 HB
      go_wp2
      go_roundw
      case rel => exact ⟨k + 1, by omega, by go_num, HA1, HA2, HS, HAB⟩
      case measure => simp [intOf]; omega
    · obtain rfl : k = 12 := by omega
      have HF := Lib.hid (by rw [← iA_ext (p := p) (q := fun i => if i < 12 then p i else 0) fun i hi => by simp [hi]] at HT3; exact HT3.out : Rw wr (w.heap.size + 2) (iA p) 53)
      obtain ⟨hs, hw⟩ := stored12 HT2.out p
      have HB' := Lib.hid (HB.out.trans (hw.below (by omega) (by have := HT1.out.lt; omega)))
      have c0 := HF.out.cell (i := 0) (v := .int .i64 (p 0)) rfl
      have c1 := HF.out.cell (i := 1) (v := .int .i64 (p 1)) rfl
      have c2 := HF.out.cell (i := 2) (v := .int .i64 (p 2)) rfl
      have c3 := HF.out.cell (i := 3) (v := .int .i64 (p 3)) rfl
      have c4 := HF.out.cell (i := 4) (v := .int .i64 (p 4)) rfl
      have c5 := HF.out.cell (i := 5) (v := .int .i64 (p 5)) rfl
      have c6 := HF.out.cell (i := 6) (v := .int .i64 (p 6)) rfl
      have c7 := HF.out.cell (i := 7) (v := .int .i64 (p 7)) rfl
      have c8 := HF.out.cell (i := 8) (v := .int .i64 (p 8)) rfl
      have c9 := HF.out.cell (i := 9) (v := .int .i64 (p 9)) rfl
      have c10 := HF.out.cell (i := 10) (v := .int .i64 (p 10)) rfl
      have c11 := HF.out.cell (i := 11) (v := .int .i64 (p 11)) rfl
      have d0 := HT2.out.cell (i := 0) (v := .int .i64 0) rfl
      have d1 := HT2.out.cell (i := 1) (v := .int .i64 0) rfl
      have d2 := HT2.out.cell (i := 2) (v := .int .i64 0) rfl
      have d3 := HT2.out.cell (i := 3) (v := .int .i64 0) rfl
      have d4 := HT2.out.cell (i := 4) (v := .int .i64 0) rfl
      have d5 := HT2.out.cell (i := 5) (v := .int .i64 0) rfl
      have d6 := HT2.out.cell (i := 6) (v := .int .i64 0) rfl
      have d7 := HT2.out.cell (i := 7) (v := .int .i64 0) rfl
      have d8 := HT2.out.cell (i := 8) (v := .int .i64 0) rfl
      have d9 := HT2.out.cell (i := 9) (v := .int .i64 0) rfl
      have d10 := HT2.out.cell (i := 10) (v := .int .i64 0) rfl
      have d11 := HT2.out.cell (i := 11) (v := .int .i64 0) rfl
      have f0 := HT2.out.free 0
      have f1 := HT2.out.free 1
      have f2 := HT2.out.free 2
      have f3 := HT2.out.free 3
      have f4 := HT2.out.free 4
      have f5 := HT2.out.free 5
      have f6 := HT2.out.free 6
      have f7 := HT2.out.free 7
      have f8 := HT2.out.free 8
      have f9 := HT2.out.free 9
      have f10 := HT2.out.free 10
      have f11 := HT2.out.free 11
      clear HT1 HT3 HT2 HB HF
      go_wp2
      generalize ((((((((((((wr.setCell ⟨w.heap.size + 1, 0, none⟩ (.int .i64 (p 0))).setCell ⟨w.heap.size + 1, 1, none⟩ (.int .i64 (p 1))).setCell ⟨w.heap.size + 1, 2, none⟩ (.int .i64 (p 2))).setCell ⟨w.heap.size + 1, 3, none⟩ (.int .i64 (p 3))).setCell ⟨w.heap.size + 1, 4, none⟩ (.int .i64 (p 4))).setCell ⟨w.heap.size + 1, 5, none⟩ (.int .i64 (p 5))).setCell ⟨w.heap.size + 1, 6, none⟩ (.int .i64 (p 6))).setCell ⟨w.heap.size + 1, 7, none⟩ (.int .i64 (p 7))).setCell ⟨w.heap.size + 1, 8, none⟩ (.int .i64 (p 8))).setCell ⟨w.heap.size + 1, 9, none⟩ (.int .i64 (p 9))).setCell ⟨w.heap.size + 1, 10, none⟩ (.int .i64 (p 10))).setCell ⟨w.heap.size + 1, 11, none⟩ (.int .i64 (p 11))) = wf at hs HB' ⊢
      refine bodyPost_ret (v := .agg (iA p)) (results_cell_row rfl _ _ (w.heap.size + 1) _ _ _ _ rfl hs.row under12 rfl info12) rfl ?_
      exact ⟨rfl, HB'.out⟩
end Go.Proofs.YtpjoljaamakagabDoor
