/- Rows of integers that grow by append; what a filter over the first numbers leaves. -/
import Derived.Test.YtpjoljaamakagabDoorStates
import Derived.Laws.AppendOwn
namespace Go.Proofs.YtpjoljaamakagabDoor
open Go.RowKit Go.ChangeShapes Go.WideShapes
set_option linter.unusedVariables false

theorem own_snocI {w : World} {B n : Nat} {v : Value} {zs : List Int} {x : Int} (h : w.ownsRow B 3 1 v (n + 1) (zs.map (Value.int .i64) ++ [Value.int .i64 x])) (hn : n = zs.length) :
    w.ownsRow B 3 1 v (zs ++ [x]).length ((zs ++ [x]).map (Value.int .i64)) := by
  subst hn
  simpa using h
/-- A row of one's own, as a slice. -/
theorem own_res {w : World} {B n : Nat} {v : Value} {zs : List Int} (h : w.ownsRow B 3 1 v n (zs.map (Value.int .i64))) (hn : n = zs.length) :
    ∃ A c, v = .slice A zs.length c ∧ zs.length ≤ c ∧ Res w B w.heap.size A zs := by
  subst hn
  rcases h.2 with ⟨rfl, h0⟩ | ⟨g, cap, cur, rfl, hb, hg, hl, hm, hs, ht⟩
  · have : zs = [] := List.eq_nil_of_length_eq_zero h0
    subst this
    exact ⟨none, 0, rfl, Nat.le_refl _, ⟨.inl ⟨rfl, rfl⟩, Nat.le_refl _⟩⟩
  · refine ⟨some ⟨g, 0, none⟩, cap, rfl, hl, ⟨.inr ⟨g, cur, rfl, hb, row_ltI hg, hg, by omega, fun j x hx => ?_⟩, Nat.le_refl _⟩⟩
    have hj : j < zs.length := by
      rcases Nat.lt_or_ge j zs.length with h1 | h1
      · exact h1
      · rw [List.getElem?_eq_none h1] at hx; cases hx
    have e : (cur.toList.take (zs.length * 1))[j]? = some (Value.int .i64 x) := by rw [ht]; simp [hx]
    rw [List.getElem?_take_of_lt (by omega)] at e
    simpa using e
theorem within_grown {w w' : World} {B n : Nat} {v : Value} {xs : List Value} {e : TypeId} (h : w.ownsRow B e 1 v n xs) (hg : w.grownBy w' v.ownBlock) : Within B w.heap.size w w' :=
  ⟨hg.os, hg.tape, hg.output, hg.size, fun i hi hd => hg.block i hi (by
    intro hk
    have := h.lt i hk.symm
    omega)⟩
theorem Within.alloc0 {lo hi : Nat} {w : World} (o : Obj) : Within lo hi w (w.alloc o) := Within.of_below ((Below.refl _ _).alloc (Nat.le_refl _) o)
theorem Within.mono {lo hi lo' hi' : Nat} {w w' : World} (h : Within lo hi w w') (h1 : lo' ≤ lo) (h2 : hi ≤ hi') : Within lo' hi' w w' :=
  ⟨h.os, h.tape, h.output, h.size, fun i hi hd => h.block i hi (by omega)⟩
/-- Behind an append to a row of one's own: only blocks from B on were written. -/
structure Past (B : Nat) (w w' : World) : Prop where
  os : w'.os = w.os
  tape : w'.tape = w.tape
  output : w'.output = w.output
  size : w.heap.size ≤ w'.heap.size
  block : ∀ i, i < w.heap.size → i < B → w'.heap[i]? = w.heap[i]?
theorem Past.refl (B : Nat) (w : World) : Past B w w := ⟨rfl, rfl, rfl, Nat.le_refl _, fun _ _ _ => rfl⟩
theorem Past.trans {B : Nat} {a b c : World} (h : Past B a b) (k : Past B b c) : Past B a c :=
  ⟨k.os.trans h.os, k.tape.trans h.tape, k.output.trans h.output, Nat.le_trans h.size k.size, fun i hi hn => (k.block i (Nat.lt_of_lt_of_le hi h.size) hn).trans (h.block i hi hn)⟩
theorem Past.of_below {B : Nat} {a b : World} (h : Below a.heap.size a b) : Past B a b := ⟨h.os, h.tape, h.output, h.size, fun i hi _ => h.block i hi⟩
theorem Past.of_within {B lo hi : Nat} {a b : World} (h : Within lo hi a b) (hB : B ≤ lo) : Past B a b := ⟨h.os, h.tape, h.output, h.size, fun i hi _ => h.block i hi (.inl (by omega))⟩
theorem Past.drewN {B : Nat} {a b : World} (h : Past B a b) (q : Nat) : Past B a (b.drewN q) := ⟨h.os, h.tape, h.output, h.size, h.block⟩
theorem Past.below {B C : Nat} {a b : World} (h : Past B a b) (hc : C ≤ B) (hs : C ≤ a.heap.size) : Below C a b := ⟨h.os, h.tape, h.output, h.size, fun i hi => h.block i (by omega) (by omega)⟩
theorem Past.grown {B n : Nat} {w w1 : World} {v : Value} {xs : List Value} {e : TypeId} {o : Obj} (h : w.ownsRow B e 1 v n xs) (hg : (w.alloc o).grownBy w1 v.ownBlock) : Past B w w1 :=
  (Past.of_below ((Below.refl _ _).alloc (Nat.le_refl _) o)).trans (Past.of_within (within_grown (h.alloc o) hg) (Nat.le_refl _))
theorem Ins.past {B lo hi : Nat} {w w' : World} {A : Option Addr} {zs : List Int} (h : Ins w lo hi A zs) (hp : Past B w w') (hh : hi ≤ B) : Ins w' lo hi A zs :=
  h.within (l := B) (t := w.heap.size) ⟨hp.os, hp.tape, hp.output, hp.size, fun i hi hd => hp.block i hi (by omega)⟩ (.inl hh)
theorem cell_past {B : Nat} {w w' : World} {a : Addr} {v : Value} (hp : Past B w w') (h : w.cell? a = some v) (hb : a.block < B) : w'.cell? a = some v :=
  (World.cell?_of_block (hp.block a.block (by
    rcases Nat.lt_or_ge a.block w.heap.size with h1 | h1
    · exact h1
    · simp [World.cell?, Array.getElem?_eq_none h1] at h) hb)).trans h

/-- The numbers below k for which p holds. -/
def filt (p : Nat → Bool) : Nat → List Int
  | 0 => []
  | k + 1 => filt p k ++ (if p k then [(k : Int)] else [])
theorem filt_yes {p : Nat → Bool} {k : Nat} (h : p k = true) : filt p (k + 1) = filt p k ++ [(k : Int)] := by simp [filt, h]
theorem filt_no {p : Nat → Bool} {k : Nat} (h : p k = false) : filt p (k + 1) = filt p k := by simp [filt, h]
theorem filt_len (p : Nat → Bool) : ∀ k, (filt p k).length ≤ k
  | 0 => Nat.le_refl _
  | k + 1 => by
    have := filt_len p k
    cases h : p k with
    | true => rw [filt_yes h]; simp; omega
    | false => rw [filt_no h]; omega
theorem filt_mem {p : Nat → Bool} : ∀ {k : Nat} {x : Int}, x ∈ filt p k → 0 ≤ x ∧ x < (k : Int)
  | 0, x, h => by cases h
  | k + 1, x, h => by
    cases hp : p k with
    | true =>
      rw [filt_yes hp] at h
      rcases List.mem_append.1 h with h | h
      · have := filt_mem h; omega
      · simp at h; omega
    | false =>
      rw [filt_no hp] at h
      have := filt_mem h; omega
theorem infoI3 : (Tryd.prog.info? 3).map (fun i => (i.zero, i.size, i.bytes)) = some (some (.int .i64 0), 1, 8) := by kernel_rfl
theorem alloc_row' (w : World) (cs : Array Value) (t : TypeId) (g : Nat) (h : g = w.heap.size) : (w.alloc (.cells cs t)).heap[g]? = some (.cells cs t (0, 0)) := by subst h; exact alloc_row w cs t
theorem stored2 {w : World} {b : Nat} {x0 y0 : Value} {t : TypeId} (h : w.heap[b]? = some (.cells #[x0, y0] t (0, 0))) (x y : Value) :
    ((w.setCell ⟨b, 0, none⟩ x).setCell ⟨b, 1, none⟩ y).heap[b]? = some (.cells #[x, y] t (0, 0)) ∧ Within b (b + 1) w ((w.setCell ⟨b, 0, none⟩ x).setCell ⟨b, 1, none⟩ y) := by
  refine ⟨?_, within_set (within_set (Within.refl _ _ w) (Nat.le_refl _) (Nat.lt_succ_self _) 0 x) (Nat.le_refl _) (Nat.lt_succ_self _) 1 y⟩
  have := row_setI (row_setI h 0 x) 1 y
  simpa using this
theorem two0 {w : World} {b : Nat} {x y : Value} {t : TypeId} (h : w.heap[b]? = some (.cells #[x, y] t (0, 0))) : w.cell? ⟨b, 0, none⟩ = some x := by rw [row_cellI h]; rfl
theorem two1 {w : World} {b : Nat} {x y : Value} {t : TypeId} (h : w.heap[b]? = some (.cells #[x, y] t (0, 0))) : w.cell? ⟨b, 1, none⟩ = some y := by rw [row_cellI h]; rfl
theorem empty_res (w : World) (lo : Nat) (h : lo ≤ w.heap.size) : Res (w.alloc (.cells #[] 3)) lo (w.alloc (.cells #[] 3)).heap.size (some ⟨w.heap.size, 0, none⟩) [] :=
  ⟨Own.last w [] lo h _ rfl, Nat.le_refl _⟩
theorem own_base {w : World} {B B' n : Nat} {v : Value} {e : TypeId} {xs : List Value} (h : w.ownsRow B e 1 v n xs) (hB : B' ≤ B) : w.ownsRow B' e 1 v n xs :=
  ⟨h.1, h.2.imp id fun ⟨g, cap, cur, a, b, r⟩ => ⟨g, cap, cur, a, Nat.le_trans hB b, r⟩⟩
end Go.Proofs.YtpjoljaamakagabDoor
