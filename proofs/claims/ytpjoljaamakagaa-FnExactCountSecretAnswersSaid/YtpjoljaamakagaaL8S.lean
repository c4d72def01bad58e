/- The answerer of the program: the states behind both answers to each question, in order. -/
import Derived.Test.YtpjoljaamakagaaL8A
import Derived.Test.YtpjoljaamakagaaRow8
namespace Go.Proofs.Ytpjoljaamakagaa
open Go.RowKit Go.ChangeShapes Go.WideShapes Go.Maps
set_option linter.unusedVariables false

theorem infoS8 : (Try.prog.info? 35).map (fun i => (i.zero, i.size, i.bytes)) = some (some (.agg #[.slice none 0 0, .int .i64 0]), 2, 32) := by kernel_rfl
def cellsS (n : Nat) (m : Int) : List (Nat × List Int) → List Value
  | [] => []
  | x :: r => .slice (some ⟨x.1, 0, none⟩) n n :: .int .i64 m :: cellsS n m r
theorem cellsS_len (n : Nat) (m : Int) : ∀ L, (cellsS n m L).length = L.length * 2
  | [] => rfl
  | x :: r => by show (cellsS n m r).length + 1 + 1 = _; rw [cellsS_len n m r, List.length_cons]; omega
theorem cellsS_at (n : Nat) (m : Int) : ∀ (L : List (Nat × List Int)) (j : Nat) (x : Nat × List Int), L[j]? = some x → (cellsS n m L)[j * 2]? = some (.slice (some ⟨x.1, 0, none⟩) n n) ∧ (cellsS n m L)[j * 2 + 1]? = some (.int .i64 m)
  | [], j, x, h => by simp at h
  | y :: r, 0, x, h => by simp at h; subst h; exact ⟨rfl, rfl⟩
  | y :: r, j + 1, x, h => by
    have := cellsS_at n m r j x (by simpa using h)
    rw [show (j + 1) * 2 = j * 2 + 1 + 1 by omega]
    simpa [cellsS] using this
theorem cellsS_app (n : Nat) (m : Int) : ∀ (L K : List (Nat × List Int)), cellsS n m (L ++ K) = cellsS n m L ++ cellsS n m K
  | [], K => rfl
  | x :: r, K => by show _ :: _ :: cellsS n m (r ++ K) = _; rw [cellsS_app n m r K]; rfl
/-- A row of states of n numbers each, made from B on: each one's numbers lie in a block of their own. -/
structure SMade (w : World) (B n : Nat) (m : Int) (v : Value) (L : List (Nat × List Int)) : Prop where
  own : w.ownsRow B 35 2 v L.length (cellsS n m L)
  each : ∀ (j : Nat) (x : Nat × List Int), L[j]? = some x → B ≤ x.1 ∧ x.2.length = n ∧ w.heap[x.1]? = some (.cells (x.2.map (Value.int .i64)).toArray 3 (0, 0))
theorem SMade.step {w w' : World} {B n : Nat} {m : Int} {v : Value} {L : List (Nat × List Int)} (h : SMade w B n m v L) (hb : Below w.heap.size w w') : SMade w' B n m v L :=
  ⟨past8 h.own (Past.of_below hb), fun j x hx => ⟨(h.each j x hx).1, (h.each j x hx).2.1, (hb.block _ (row_ltI (h.each j x hx).2.2)).trans (h.each j x hx).2.2⟩⟩
theorem SMade.base {w : World} {B B' n : Nat} {m : Int} {v : Value} {L : List (Nat × List Int)} (h : SMade w B n m v L) (hB : B' ≤ B) : SMade w B' n m v L := ⟨base8 h.own hB, fun j x hx => ⟨Nat.le_trans hB (h.each j x hx).1, (h.each j x hx).2⟩⟩
theorem SMade.slice {w : World} {B n : Nat} {m : Int} {v : Value} {L : List (Nat × List Int)} (h : SMade w B n m v L) : ∃ A c, v = .slice A L.length c := by
  rcases h.own.2 with ⟨rfl, h0⟩ | ⟨g, cap, cur, rfl, _⟩
  · exact ⟨none, 0, by rw [h0]⟩
  · exact ⟨_, cap, rfl⟩
theorem SMade.at_ {w : World} {B n k : Nat} {m : Int} {A : Option Addr} {N c : Nat} {L : List (Nat × List Int)} (h : SMade w B n m (.slice A N c) L) (hk : k < L.length) :
    ∃ b, A = some ⟨b, 0, none⟩ ∧ b < w.heap.size ∧ w.cell? ⟨b, k * 2, none⟩ = some (.slice (some ⟨L[k].1, 0, none⟩) n n) ∧ w.cell? ⟨b, k * 2 + 1, none⟩ = some (.int .i64 m) ∧ L[k].2.length = n ∧ B ≤ L[k].1 ∧ Ins w L[k].1 (L[k].1 + 1) (some ⟨L[k].1, 0, none⟩) L[k].2 ∧ B ≤ b := by
  have hx : L[k]? = some L[k] := List.getElem?_eq_getElem hk
  obtain ⟨e0, e1, e2⟩ := h.each k _ hx
  obtain ⟨c1, c2⟩ := cellsS_at n m L k _ hx
  rcases h.own.2 with ⟨_, h0⟩ | ⟨g, cap, cur, hv, hb, hg, hl, hm, hs, ht⟩
  · omega
  · injection hv with hv1 hv2 hv3
    subst hv1
    refine ⟨g, rfl, row_ltI hg, ?_, ?_, e1, e0, ⟨?_, row_ltI e2⟩, hb⟩
    · rw [row_cellI hg, ← c1, ← ht, List.getElem?_take_of_lt (by omega)]
      simp
    · rw [row_cellI hg, ← c2, ← ht, List.getElem?_take_of_lt (by omega)]
      simp
    · intro h0
      exact ⟨_, 0, rfl, Nat.le_refl _, Nat.lt_succ_self _, fun j x hx => by rw [Nat.zero_add, row_cellI e2]; simp [hx]⟩
theorem cell_four_new (w : World) (x y z u : Value) (t : TypeId) : ∀ j v, [x, y, z, u][j]? = some v → (w.alloc (.cells #[x, y, z, u] t)).cell? ((⟨w.heap.size, 0, none⟩ : Addr).add j) = some v := by
  intro j v hj
  match j, hj with
  | 0, hj => simp at hj; subst hj; simp [Addr.add]
  | 1, hj => simp at hj; subst hj; simp [Addr.add]
  | 2, hj => simp at hj; subst hj; simp [Addr.add]
  | 3, hj => simp at hj; subst hj; simp [Addr.add]
  | j + 4, hj => simp at hj
theorem cell_four_at (w : World) (x y z u : Value) (t : TypeId) (g : Nat) (hg : g = w.heap.size) : ∀ j v, [x, y, z, u][j]? = some v → (w.alloc (.cells #[x, y, z, u] t)).cell? ((⟨g, 0, none⟩ : Addr).add j) = some v := by
  subst hg
  exact cell_four_new w x y z u t
theorem SMade.grown2 {w w' : World} {B n N : Nat} {m : Int} {v v' : Value} {L : List (Nat × List Int)} {o1 o2 : Obj} {a b : Nat} {y z : List Int} (h : SMade w B n m v L) (hn : L.length = N)
    (ha : B ≤ a ∧ y.length = n ∧ w.heap[a]? = some (.cells (y.map (Value.int .i64)).toArray 3 (0, 0))) (hb : B ≤ b ∧ z.length = n ∧ w.heap[b]? = some (.cells (z.map (Value.int .i64)).toArray 3 (0, 0)))
    (ho : w'.ownsRow B 35 2 v' (N + 2) (cellsS n m L ++ [.slice (some ⟨a, 0, none⟩) n n, .int .i64 m, .slice (some ⟨b, 0, none⟩) n n, .int .i64 m])) (hg : ((w.alloc o1).alloc o2).grownBy w' v.ownBlock) :
    SMade w' B n m v' (L ++ [(a, y), (b, z)]) := by
  subst hn
  have key : ∀ (g : Nat) (cs : Array Value), w.heap[g]? = some (.cells cs 3 (0, 0)) → w'.heap[g]? = some (.cells cs 3 (0, 0)) := fun g cs t => by
    have t1 : (w.alloc o1).heap[g]? = some (.cells cs 3 (0, 0)) := (((Below.refl _ w).alloc (Nat.le_refl _) o1).block g (row_ltI t)).trans t
    exact (grown_block8 (h.own.alloc o1) t1 (by decide) hg).trans t1
  refine ⟨?_, fun j x hx => ?_⟩
  · rw [cellsS_app, List.length_append]
    exact ho
  · by_cases hj : j < L.length
    · rw [List.getElem?_append_left hj] at hx
      exact ⟨(h.each j x hx).1, (h.each j x hx).2.1, key _ _ (h.each j x hx).2.2⟩
    · rw [List.getElem?_append_right (by omega)] at hx
      match hd : j - L.length, hx with
      | 0, hx => simp at hx; subst hx; exact ⟨ha.1, ha.2.1, key _ _ ha.2.2⟩
      | 1, hx => simp at hx; subst hx; exact ⟨hb.1, hb.2.1, key _ _ hb.2.2⟩
      | i + 2, hx => simp at hx
/-- A row of states that is read: each one's numbers lie below D, or from E on, and below C. -/
structure SIns (w : World) (C D E n : Nat) (m : Int) (A0 : Option Addr) (L0 : List (Option Addr × Nat × List Int)) : Prop where
  at_ : ∀ (k : Nat) (h : k < L0.length), ∃ b, A0 = some ⟨b, 0, none⟩ ∧ (E ≤ b ∧ b < C) ∧ w.cell? ⟨b, k * 2, none⟩ = some (.slice L0[k].1 n L0[k].2.1) ∧ w.cell? ⟨b, k * 2 + 1, none⟩ = some (.int .i64 m) ∧ L0[k].2.2.length = n ∧ ∃ lo hi, (hi ≤ C ∧ (hi ≤ D ∨ E ≤ lo)) ∧ Ins w lo hi L0[k].1 L0[k].2.2
  top : C ≤ w.heap.size
theorem Ins.same {w w' : World} {lo hi : Nat} {A : Option Addr} {zs : List Int} (h : Ins w lo hi A zs) (hp : ∀ i, lo ≤ i → i < hi → w'.heap[i]? = w.heap[i]?) (hs : w.heap.size ≤ w'.heap.size) : Ins w' lo hi A zs :=
  ⟨fun h0 => by
    obtain ⟨b, o, e, h1, h2, hc⟩ := h.ints h0
    exact ⟨b, o, e, h1, h2, fun j x hx => (World.cell?_of_block (hp b h1 h2)).trans (hc j x hx)⟩, Nat.le_trans h.top hs⟩
theorem SIns.apart {w w' : World} {C D E n : Nat} {m : Int} {A0 : Option Addr} {L0 : List (Option Addr × Nat × List Int)} (h : SIns w C D E n m A0 L0) (hp : ∀ i, i < C → (i < D ∨ E ≤ i) → w'.heap[i]? = w.heap[i]?) (hs : w.heap.size ≤ w'.heap.size) : SIns w' C D E n m A0 L0 :=
  ⟨fun k hk => by
    obtain ⟨b, e, hb, c0, c1, hl, lo, hi, hh, hI⟩ := h.at_ k hk
    exact ⟨b, e, hb, (World.cell?_of_block (hp b hb.2 (.inr hb.1))).trans c0, (World.cell?_of_block (hp b hb.2 (.inr hb.1))).trans c1, hl, lo, hi, hh, hI.same (fun i h1 h2 => hp i (by omega) (by omega)) hs⟩, Nat.le_trans h.top hs⟩
theorem SIns.past {w w' : World} {B C D E n : Nat} {m : Int} {A0 : Option Addr} {L0 : List (Option Addr × Nat × List Int)} (h : SIns w C D E n m A0 L0) (hp : Past B w w') (hB : C ≤ B) : SIns w' C D E n m A0 L0 :=
  h.apart (fun i hi _ => hp.block i (Nat.lt_of_lt_of_le hi h.top) (Nat.lt_of_lt_of_le hi hB)) hp.size
theorem SIns.step {w w' : World} {C D E n : Nat} {m : Int} {A0 : Option Addr} {L0 : List (Option Addr × Nat × List Int)} (h : SIns w C D E n m A0 L0) (hb : Below w.heap.size w w') : SIns w' C D E n m A0 L0 := h.past (Past.of_below hb) h.top
def asArg (n : Nat) (L : List (Nat × List Int)) : List (Option Addr × Nat × List Int) := L.map fun x => (some ⟨x.1, 0, none⟩, n, x.2)
theorem asArg_len (n : Nat) (L : List (Nat × List Int)) : (asArg n L).length = L.length := by simp [asArg]
theorem asArg_map (n : Nat) (L : List (Nat × List Int)) : (asArg n L).map (fun x => x.2.2) = L.map Prod.snd := by simp [asArg]
theorem SMade.ins {w : World} {B D E n N c : Nat} {m : Int} {A : Option Addr} {L : List (Nat × List Int)} (h : SMade w B n m (.slice A N c) L) (hE : E ≤ B) : SIns w w.heap.size D E n m A (asArg n L) :=
  ⟨fun k hk => by
    have hk' : k < L.length := by rw [asArg_len] at hk; exact hk
    obtain ⟨b, e, hb, c0, c1, hl, h0, hI, h9⟩ := h.at_ hk'
    have e2 : (asArg n L)[k] = (some ⟨L[k].1, 0, none⟩, n, L[k].2) := by simp [asArg]
    rw [e2]
    exact ⟨b, e, ⟨by omega, hb⟩, c0, c1, hl, _, _, ⟨hI.top, .inr (by omega)⟩, hI⟩, Nat.le_refl _⟩
theorem S0_any (w : World) (B n : Nat) (m : Int) (h : B ≤ w.heap.size) : SMade (w.alloc (.cells #[] 35)) B n m (.slice (some ⟨w.heap.size, 0, none⟩) 0 0) [] :=
  ⟨World.ownsRow_lit w (e := 35) (size := 2) (base := B) #[] 0 h (by unfold maxLen; omega) rfl, fun j x hx => by simp at hx⟩
theorem behindL_take (m q : Int) (L : List (List Int)) (k : Nat) (h : k < L.length) : behindL m q (L.take (k + 1)) = behindL m q (L.take k) ++ [afters L[k] m q false, afters L[k] m q true] := by
  rw [List.take_succ_eq_append_getElem h, behindL_app]
  rfl

end Go.Proofs.Ytpjoljaamakagaa
