/- Slices of integers, and what the laws' own helpers do with them: where they lie, which blocks a call may write. -/
import Derived.Test.YtpjoljaamakagabDoorProg
import Derived.WalkKit
import Derived.WalkLawsBesides
import Derived.LoopTactic
import Derived.Below
import Derived.Lib.Hide
import Derived.Deep.QuietTactic
import Derived.BigQuiet
import Derived.Deep.Draws
import Derived.SliceStrings
import Derived.ChangeSlices
import Derived.ProofKit
import Derived.Laws.MakeOwn
import Derived.Laws.NewBlocks
import Derived.Laws.Rows
import Derived.Outline
import Derived.Maps.AppendAt
namespace Go.Proofs.YtpjoljaamakagabDoor
open Go.RowKit Go.ChangeShapes Go.WideShapes
set_option linter.unusedVariables false

theorem below_trans {a b c : World} (h : Below a.heap.size a b) (k : Below b.heap.size b c) : Below a.heap.size a c := h.trans (k.mono h.size)
theorem below_drewN {B : Nat} {a w : World} (h : Below B a w) (n : Nat) : Below B a (w.drewN n) := ⟨h.os, h.tape, h.output, h.size, h.block⟩

/-- Between w and w' only blocks of lo..hi-1, and new ones, were written. -/
structure Within (lo hi : Nat) (w w' : World) : Prop where
  os : w'.os = w.os
  tape : w'.tape = w.tape
  output : w'.output = w.output
  size : w.heap.size ≤ w'.heap.size
  block : ∀ i, i < w.heap.size → (i < lo ∨ hi ≤ i) → w'.heap[i]? = w.heap[i]?
theorem Within.refl (lo hi : Nat) (w : World) : Within lo hi w w := ⟨rfl, rfl, rfl, Nat.le_refl _, fun _ _ _ => rfl⟩
theorem Within.below {lo hi B : Nat} {w w' : World} (h : Within lo hi w w') (hB : B ≤ lo) (hs : B ≤ w.heap.size) : Below B w w' :=
  ⟨h.os, h.tape, h.output, h.size, fun i hi => h.block i (by omega) (.inl (by omega))⟩
theorem Within.of_below {lo hi : Nat} {w w' : World} (h : Below w.heap.size w w') : Within lo hi w w' :=
  ⟨h.os, h.tape, h.output, h.size, fun i hi _ => h.block i hi⟩
theorem Within.trans {lo hi : Nat} {a b c : World} (h : Within lo hi a b) (k : Within lo hi b c) : Within lo hi a c :=
  ⟨k.os.trans h.os, k.tape.trans h.tape, k.output.trans h.output, Nat.le_trans h.size k.size, fun i hi hn => (k.block i (Nat.lt_of_lt_of_le hi h.size) hn).trans (h.block i hi hn)⟩
theorem Within.drewN {lo hi : Nat} {a b : World} (h : Within lo hi a b) (n : Nat) : Within lo hi a (b.drewN n) := ⟨h.os, h.tape, h.output, h.size, h.block⟩

/-- The slice at A reads as the integers zs, in a block of lo..hi-1. -/
def Ints (w : World) (lo hi : Nat) (A : Option Addr) (zs : List Int) : Prop :=
  0 < zs.length → ∃ b o, A = some ⟨b, o, none⟩ ∧ lo ≤ b ∧ b < hi ∧ ∀ (j : Nat) (x : Int), zs[j]? = some x → w.cell? ⟨b, o + j, none⟩ = some (.int .i64 x)
theorem Ints.at_ {w : World} {lo hi : Nat} {A : Option Addr} {zs : List Int} (h : Ints w lo hi A zs) {k : Nat} (hk : k < zs.length) :
    ∃ b o, A = some ⟨b, o, none⟩ ∧ lo ≤ b ∧ b < hi ∧ w.cell? ⟨b, o + k, none⟩ = some (.int .i64 zs[k]) := by
  obtain ⟨b, o, e, h1, h2, hc⟩ := h (by omega)
  exact ⟨b, o, e, h1, h2, hc k _ (List.getElem?_eq_getElem hk)⟩
theorem Ints.nil {w : World} {lo hi : Nat} {A : Option Addr} : Ints w lo hi A [] := fun h => absurd h (by simp)
theorem Ints.within {w w' : World} {lo hi l h : Nat} {A : Option Addr} {zs : List Int} (hI : Ints w lo hi A zs) (hb : Within l h w w') (hs : hi ≤ w.heap.size) (hd : hi ≤ l ∨ h ≤ lo) : Ints w' lo hi A zs := fun h0 => by
  obtain ⟨b, o, e, h1, h2, hc⟩ := hI h0
  exact ⟨b, o, e, h1, h2, fun j x hx => (World.cell?_of_block (hb.block b (by omega) (by omega))).trans (hc j x hx)⟩
theorem Ints.below {w w' : World} {lo hi B : Nat} {A : Option Addr} {zs : List Int} (hI : Ints w lo hi A zs) (hb : Below B w w') (hs : hi ≤ B) : Ints w' lo hi A zs := fun h0 => by
  obtain ⟨b, o, e, h1, h2, hc⟩ := hI h0
  exact ⟨b, o, e, h1, h2, fun j x hx => (World.cell?_of_block (hb.block b (by omega))).trans (hc j x hx)⟩
theorem Ints.wide {w : World} {lo hi lo' hi' : Nat} {A : Option Addr} {zs : List Int} (hI : Ints w lo hi A zs) (h1 : lo' ≤ lo) (h2 : hi ≤ hi') : Ints w lo' hi' A zs := fun h0 => by
  obtain ⟨b, o, e, g1, g2, hc⟩ := hI h0
  exact ⟨b, o, e, by omega, by omega, hc⟩

theorem row_cellI {w : World} {g i : Nat} {cs : Array Value} {t : TypeId} (h : w.heap[g]? = some (.cells cs t (0, 0))) : w.cell? ⟨g, i, none⟩ = cs[i]? := cell_of_row w g i cs t (0, 0) h
theorem row_freeI {w : World} {b : Nat} {cs : Array Value} {t : TypeId} (h : w.heap[b]? = some (.cells cs t (0, 0))) (i : Nat) : w.frozen? ⟨b, i, none⟩ = false := by
  simp [World.frozen?, h]
theorem row_ltI {w : World} {b : Nat} {o : Obj} (h : w.heap[b]? = some o) : b < w.heap.size := by
  rcases Nat.lt_or_ge b w.heap.size with hl | hg
  · exact hl
  · rw [Array.getElem?_eq_none hg] at h; cases h
theorem row_setI {w : World} {b : Nat} {cs : Array Value} {t : TypeId} (h : w.heap[b]? = some (.cells cs t (0, 0))) (i : Nat) (u : Value) : (w.setCell ⟨b, i, none⟩ u).heap[b]? = some (.cells (cs.setIfInBounds i u) t (0, 0)) := by
  simp [World.setCell, Array.getElem?_modify, h]
theorem within_set {lo hi g : Nat} {a w : World} (h : Within lo hi a w) (h1 : lo ≤ g) (h2 : g < hi) (i : Nat) (u : Value) : Within lo hi a (w.setCell ⟨g, i, none⟩ u) :=
  ⟨h.os, h.tape, h.output, by simpa [World.setCell] using h.size, fun j hj hn => (Below.heap_setCell w ⟨g, i, none⟩ u j (fun e => by have e' : j = g := e; omega)).trans (h.block j hj hn)⟩
theorem within_alloc {lo hi : Nat} {a w : World} (h : Within lo hi a w) (o : Obj) : Within lo hi a (w.alloc o) :=
  h.trans (Within.of_below ((Below.refl _ _).alloc (Nat.le_refl _) o))

/-- A slice that the call may write: nothing, or the first places of a row of its own in a block of lo..hi-1; it reads as zs. -/
def Own (w : World) (lo hi : Nat) (A : Option Addr) (zs : List Int) : Prop :=
  (A = none ∧ zs = []) ∨ ∃ g cur, A = some ⟨g, 0, none⟩ ∧ lo ≤ g ∧ g < hi ∧ w.heap[g]? = some (.cells cur 3 (0, 0)) ∧ zs.length ≤ cur.size ∧ ∀ (j : Nat) (x : Int), zs[j]? = some x → cur[j]? = some (Value.int .i64 x)
theorem Own.ints {w : World} {lo hi : Nat} {A : Option Addr} {zs : List Int} (h : Own w lo hi A zs) : Ints w lo hi A zs := fun h0 => by
  rcases h with ⟨_, rfl⟩ | ⟨g, cur, rfl, h1, h2, hr, _, hc⟩
  · simp at h0
  · exact ⟨g, 0, rfl, h1, h2, fun j x hx => by rw [Nat.zero_add, row_cellI hr]; exact hc j x hx⟩
theorem Own.within {w w' : World} {lo hi l h : Nat} {A : Option Addr} {zs : List Int} (hI : Own w lo hi A zs) (hb : Within l h w w') (hd : hi ≤ l ∨ h ≤ lo) : Own w' lo hi A zs := by
  rcases hI with hn | ⟨g, cur, rfl, h1, h2, hr, hs, hc⟩
  · exact .inl hn
  · exact .inr ⟨g, cur, rfl, h1, h2, (hb.block g (row_ltI hr) (by omega)).trans hr, hs, hc⟩
theorem Own.below {w w' : World} {lo hi B : Nat} {A : Option Addr} {zs : List Int} (hI : Own w lo hi A zs) (hb : Below B w w') (hB : hi ≤ B) : Own w' lo hi A zs := by
  rcases hI with hn | ⟨g, cur, rfl, h1, h2, hr, hs, hc⟩
  · exact .inl hn
  · exact .inr ⟨g, cur, rfl, h1, h2, (hb.block g (by omega)).trans hr, hs, hc⟩
theorem Own.wide {w : World} {lo hi lo' hi' : Nat} {A : Option Addr} {zs : List Int} (h : Own w lo hi A zs) (h1 : lo' ≤ lo) (h2 : hi ≤ hi') : Own w lo' hi' A zs := by
  rcases h with hn | ⟨g, cur, rfl, g1, g2, hr, hs, hc⟩
  · exact .inl hn
  · exact .inr ⟨g, cur, rfl, by omega, by omega, hr, hs, hc⟩

/-- A slice that the call may write, in blocks that are there. -/
structure Res (w : World) (lo hi : Nat) (A : Option Addr) (zs : List Int) : Prop where
  own : Own w lo hi A zs
  top : hi ≤ w.heap.size
theorem Res.step {w w' : World} {lo hi : Nat} {A : Option Addr} {zs : List Int} (h : Res w lo hi A zs) (hb : Below w.heap.size w w') : Res w' lo hi A zs :=
  ⟨h.own.below hb h.top, Nat.le_trans h.top hb.size⟩
theorem Res.within {w w' : World} {lo hi l t : Nat} {A : Option Addr} {zs : List Int} (h : Res w lo hi A zs) (hb : Within l t w w') (hd : hi ≤ l ∨ t ≤ lo) : Res w' lo hi A zs :=
  ⟨h.own.within hb hd, Nat.le_trans h.top hb.size⟩
theorem Res.ints {w : World} {lo hi : Nat} {A : Option Addr} {zs : List Int} (h : Res w lo hi A zs) : Ints w lo hi A zs := h.own.ints
theorem Res.none (w : World) (lo hi : Nat) (h : hi ≤ w.heap.size) : Res w lo hi none [] := ⟨.inl ⟨rfl, rfl⟩, h⟩
/-- An argument's slice. -/
structure Ins (w : World) (lo hi : Nat) (A : Option Addr) (zs : List Int) : Prop where
  ints : Ints w lo hi A zs
  top : hi ≤ w.heap.size
theorem Ins.step {w w' : World} {lo hi : Nat} {A : Option Addr} {zs : List Int} (h : Ins w lo hi A zs) (hb : Below w.heap.size w w') : Ins w' lo hi A zs :=
  ⟨h.ints.below hb h.top, Nat.le_trans h.top hb.size⟩
theorem Ins.within {w w' : World} {lo hi l t : Nat} {A : Option Addr} {zs : List Int} (h : Ins w lo hi A zs) (hb : Within l t w w') (hd : hi ≤ l ∨ t ≤ lo) : Ins w' lo hi A zs :=
  ⟨h.ints.within hb h.top hd, Nat.le_trans h.top hb.size⟩
theorem Res.ins {w : World} {lo hi : Nat} {A : Option Addr} {zs : List Int} (h : Res w lo hi A zs) : Ins w lo hi A zs := ⟨h.own.ints, h.top⟩

/-- A row of integers while it is being filled: the first k are there. -/
def rowI (zs : List Int) (k : Nat) : Array Value := ((zs.take k).map (Value.int .i64) ++ List.replicate (zs.length - k) (Value.int .i64 0)).toArray
theorem rowI_at {zs : List Int} {k : Nat} (h : k < zs.length) : (rowI zs k)[k]? = some (.int .i64 0) := by
  unfold rowI
  have hl : ((zs.take k).map (Value.int .i64)).length = k := by simp; omega
  rw [List.getElem?_toArray, List.getElem?_append_right (by omega), hl, Nat.sub_self, List.getElem?_replicate, if_pos (by omega)]
theorem rowI_set {zs : List Int} {k : Nat} (h : k < zs.length) : (rowI zs k).setIfInBounds k (.int .i64 zs[k]) = rowI zs (k + 1) := by
  unfold rowI
  have hl : ((zs.take k).map (Value.int .i64)).length = k := by simp; omega
  have e1 : zs.length - k = (zs.length - (k + 1)) + 1 := by omega
  have e2 : zs.take (k + 1) = zs.take k ++ [zs[k]] := List.take_succ_eq_append_getElem h
  rw [e2, e1, List.replicate_succ, List.setIfInBounds_toArray, List.set_append_right _ _ (by omega), hl, Nat.sub_self, List.set_cons_zero, List.map_append, List.append_assoc]
  rfl
theorem rowI_full (zs : List Int) : rowI zs zs.length = (zs.map (Value.int .i64)).toArray := by simp [rowI]
theorem rowI_nil (zs : List Int) : rowI zs 0 = (List.replicate zs.length (Value.int .i64 0)).toArray := by simp [rowI]
theorem alloc_row (w : World) (cs : Array Value) (t : TypeId) : (w.alloc (.cells cs t)).heap[w.heap.size]? = some (.cells cs t (0, 0)) := (MapKept.heap_alloc w _).1
theorem alloc_size (w : World) (o : Obj) : (w.alloc o).heap.size = w.heap.size + 1 := World.size_alloc _ _
theorem Own.new (w : World) (zs : List Int) (lo hi : Nat) (h1 : lo ≤ w.heap.size) (h2 : w.heap.size < hi) : Own (w.alloc (.cells (zs.map (Value.int .i64)).toArray 3)) lo hi (some ⟨w.heap.size, 0, none⟩) zs :=
  .inr ⟨w.heap.size, _, rfl, h1, h2, alloc_row w _ _, by simp, fun j x hx => by simp [hx]⟩
theorem infoI : (Tryd.prog.info? 3).map (fun i => (i.zero, i.size, i.bytes)) = some (some (.int .i64 0), 1, 8) := by kernel_rfl
theorem makeInts (n : Nat) (h : n ≤ 1048576) (w : World) :
    (Instr.makeSlice 90 (.int .i64 (n : Int)) (.int .i64 (n : Int))).run Tryd.prog w = .ok (.slice (some ⟨w.heap.size, 0, none⟩) n n) (w.alloc (.cells (List.replicate n (Value.int .i64 0)).toArray 3)) := by
  obtain ⟨i, hi, hz, hs, hb⟩ := info_parts infoI
  have h1 := run_make (P := Tryd.prog) w 90 3 i _ Tryd.underlying90 hi hz .i64 .i64 (n : Int) (n : Int) (by omega) (by omega) (by rw [hb]; omega) (by omega)
  rw [h1]
  have e : madeCells (Value.int .i64 0).cells ((n : Int).toNat * i.size) = (List.replicate n (Value.int .i64 0)).toArray := by
    rw [hs, Int.toNat_natCast, Nat.mul_one]
    apply Array.ext'
    rw [show (Value.int .i64 0).cells = #[Value.int .i64 0] from rfl, toList_madeCells_one]
  rw [e, Int.toNat_natCast]

/-- What szIntS answers. -/
def szI (n left : Nat) : Int := if n ≤ left then ((left - n : Nat) : Int) else -1
theorem szI_yes {n left : Nat} (h : n ≤ left) : szI n left = ((left - n : Nat) : Int) := if_pos h
theorem szI_no {n left : Nat} (h : left < n) : szI n left = -1 := if_neg (by omega)
/-- The marks that a row of n is left with. -/
def marks (n : Nat) : List Int := (List.range n).map fun (j : Nat) => ((j : Int) + 1)
theorem marks_len (n : Nat) : (marks n).length = n := by simp [marks]
theorem marks_at {n j : Nat} (h : j < n) : (marks n)[j]? = some ((j : Int) + 1) := by simp [marks, h]
/-- A row with its first marks. -/
def markArr (cur : Array Value) : Nat → Array Value
  | 0 => cur
  | i + 1 => (markArr cur i).setIfInBounds i (.int .i64 ((i : Int) + 1))
theorem markArr_size (cur : Array Value) : ∀ i, (markArr cur i).size = cur.size
  | 0 => rfl
  | i + 1 => by show ((markArr cur i).setIfInBounds i _).size = _; rw [Array.size_setIfInBounds, markArr_size cur i]
theorem markArr_at (cur : Array Value) : ∀ i j, j < i → j < cur.size → (markArr cur i)[j]? = some (.int .i64 ((j : Int) + 1))
  | 0, j, h, _ => absurd h (by omega)
  | i + 1, j, h, hs => by
    show ((markArr cur i).setIfInBounds i _)[j]? = _
    by_cases e : i = j
    · subst e
      rw [Array.getElem?_setIfInBounds_self_of_lt (by rw [markArr_size]; exact hs)]
    · rw [Array.getElem?_setIfInBounds_ne (by omega)]
      exact markArr_at cur i j (by omega) hs
theorem marks_get {n j : Nat} {x : Int} (h : (marks n)[j]? = some x) : j < n ∧ x = (j : Int) + 1 := by
  have hj : j < n := by
    rcases Nat.lt_or_ge j (marks n).length with h1 | h1
    · rwa [marks_len] at h1
    · rw [List.getElem?_eq_none h1] at h; cases h
  rw [marks_at hj] at h
  exact ⟨hj, by injection h with h; exact h.symm⟩

end Go.Proofs.YtpjoljaamakagabDoor
