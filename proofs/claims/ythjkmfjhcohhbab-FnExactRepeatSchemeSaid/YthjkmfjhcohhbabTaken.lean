/- Rows of words that grow by append; what is loaded of them; two rows of different kinds lie apart. -/
import Derived.Test.YthjkmfjhcohhbabWords
namespace Go.Proofs.Ythjkmfjhcohhbab
open Go.RowKit Go.ChangeShapes Go.WideShapes
set_option linter.unusedVariables false

def wl : List Nat → List Value
  | [] => []
  | v :: r => (bwv v.testBit).toList ++ wl r
theorem wl_len : ∀ L : List Nat, (wl L).length = L.length * 14
  | [] => rfl
  | v :: r => by rw [wl, List.length_append, wl_len r, Array.length_toList, bwv_size, List.length_cons]; omega
theorem wl_at : ∀ {L : List Nat} {k i : Nat}, k < L.length → i < 14 → (wl L)[k * 14 + i]? = some (.bool ((L.getD k 0).testBit i))
  | [], k, i, h, _ => absurd h (by simp)
  | v :: r, 0, i, _, hi => by
    rw [wl, List.getElem?_append_left (by simp [bwv_size]; omega), Array.getElem?_toList, Nat.zero_mul, Nat.zero_add, bwv_at _ hi]
    rfl
  | v :: r, k + 1, i, h, hi => by
    have ih := wl_at (L := r) (k := k) (i := i) (by simpa using h) hi
    have hs : (bwv v.testBit).toList.length = 14 := by simp [bwv_size]
    rw [wl, List.getElem?_append_right (by omega), hs, show (k + 1) * 14 + i - 14 = k * 14 + i by omega, ih]
    rfl
theorem wl_snoc (L : List Nat) (v : Nat) : wl (L ++ [v]) = wl L ++ (bwv v.testBit).toList := by
  induction L with
  | nil => simp [wl]
  | cons u r ih => rw [List.cons_append, wl, wl, ih, List.append_assoc]
theorem run_load14c {w : World} {b o : Nat} {p : Nat → Bool} (h : ∀ i, i < 14 → w.cell? ⟨b, o + i, none⟩ = some (.bool (p i))) : (loadVar 93 ⟨b, o, none⟩).run Try.prog w = .ok (.agg (bwv p)) w := by
  have hl : (loadCells ⟨b, o, none⟩ (bwv p).toList.length).run Try.prog w = .ok (bwv p).toList.toArray w :=
    run_loadCells_list (P := Try.prog) w ⟨b, o, none⟩ (bwv p).toList (fun j v hv => by
      have hj : j < 14 := by
        rcases Nat.lt_or_ge j 14 with h1 | h1
        · exact h1
        · rw [List.getElem?_eq_none (by simp [bwv_size]; omega)] at hv; cases hv
      have hadd : (⟨b, o, none⟩ : Addr).add j = ⟨b, o + j, none⟩ := by unfold Addr.add; split <;> simp_all
      rw [Array.getElem?_toList, bwv_at _ hj] at hv
      rw [hadd, h j hj, hv])
  simp only [Array.length_toList, Array.toArray_toList, bwv_size] at hl
  have h1 := size_word
  have h2 := isAgg_word
  simp [loadVar, Sem.run_bind, h1, h2, hl]
theorem wpList_load14c {ops : Array Oper} {rest : List Oper} {o : Oper} {a : Act} {w : World} {Q : Exit → Act → World → Prop} (hgd : o.guard = none) (x : Operand) (ho : o.op = .load 93 x)
    (b k : Nat) (p : Nat → Bool) (hx : a.eval x = .pointer (some ⟨b, k, none⟩)) (h : ∀ i, i < 14 → w.cell? ⟨b, k + i, none⟩ = some (.bool (p i)))
    (hK : wpList Try.prog ops Q rest (a.put o.dst (.agg (bwv p))) w) : wpList Try.prog ops Q (o :: rest) a w := by
  refine wpList_plain hgd fun K' hK' => ?_
  unfold Oper.wp execOp
  simp only [ho, hx, Instr.loadAt, Instr.sureAddr, Sem.run_bind, Sem.run_pure, Result.andThen_ok, run_load14c h]
  exact hK' _ _ hK
/-- Words that one has taken. -/
structure Tk (w : World) (B : Nat) (v : Value) (L : List Nat) : Prop where
  own : w.ownsRow B 93 14 v L.length (wl L)
theorem Tk.cells {w : World} {B : Nat} {v : Value} {L : List Nat} (h : Tk w B v L) (h0 : 0 < L.length) :
    ∃ g c, v = .slice (some ⟨g, 0, none⟩) L.length c ∧ B ≤ g ∧ ∀ k, k < L.length → ∀ i, i < 14 → w.cell? ⟨g, k * 14 + i, none⟩ = some (.bool ((L.getD k 0).testBit i)) := by
  rcases h.own.2 with ⟨_, h1⟩ | ⟨g, cap, cur, rfl, hb, _⟩
  · omega
  · refine ⟨g, cap, rfl, hb, fun k hk i hi => ?_⟩
    have := h.own.cells (g := g) rfl (k * 14 + i) _ (wl_at hk hi)
    have hadd : (⟨g, 0, none⟩ : Addr).add (k * 14 + i) = ⟨g, k * 14 + i, none⟩ := by unfold Addr.add; split <;> simp_all
    rwa [hadd] at this
theorem Tk.slice {w : World} {B : Nat} {v : Value} {L : List Nat} (h : Tk w B v L) : ∃ A c, v = .slice A L.length c := by
  rcases h.own.2 with ⟨rfl, h1⟩ | ⟨g, cap, cur, rfl, _⟩
  · exact ⟨none, 0, by rw [h1]⟩
  · exact ⟨_, cap, rfl⟩
theorem Tk.kept {w w' : World} {B : Nat} {v : Value} {L : List Nat} {row : Option Nat} (h : Tk w B v L) (hg : w.grownBy w' row) (hne : v.ownBlock = none ∨ v.ownBlock ≠ row) : Tk w' B v L := ⟨h.own.kept hg hne⟩
theorem grown_below {w w' : World} (hb : Below w.heap.size w w') (row : Option Nat) : w.grownBy w' row := ⟨hb.os, hb.tape, hb.output, hb.size, fun i hi _ => hb.block i hi⟩
theorem none_ne {v : Value} : v.ownBlock = none ∨ v.ownBlock ≠ none := by cases v.ownBlock <;> simp
theorem Tk.step {w w' : World} {B : Nat} {v : Value} {L : List Nat} (h : Tk w B v L) (hb : Below w.heap.size w w') : Tk w' B v L := h.kept (grown_below hb none) none_ne
theorem own_step {w w' : World} {B n : Nat} {v : Value} {e : TypeId} {xs : List Value} (h : w.ownsRow B e 1 v n xs) (hb : Below w.heap.size w w') : w'.ownsRow B e 1 v n xs := h.kept (grown_below hb none) none_ne
/-- Rows of different kinds. -/
theorem rows_apart {w : World} {B B' n n' s s' : Nat} {e e' : TypeId} {v v' : Value} {xs xs' : List Value} (h : w.ownsRow B e s v n xs) (h' : w.ownsRow B' e' s' v' n' xs') (hne : e ≠ e') : v.ownBlock = none ∨ v.ownBlock ≠ v'.ownBlock := by
  rcases h.2 with ⟨rfl, _⟩ | ⟨g, cap, cur, rfl, _, hg, _⟩
  · exact .inl rfl
  · refine .inr fun he => ?_
    rcases h'.2 with ⟨rfl, _⟩ | ⟨g', cap', cur', rfl, _, hg', _⟩
    · simp [Value.ownBlock] at he
    · simp [Value.ownBlock] at he
      subst he
      rw [hg] at hg'
      injection hg' with hg'
      injection hg' with _ ht
      exact hne ht
theorem W14.off {w : World} {B n b : Nat} {p : Nat → Bool} {v : Value} {xs : List Value} (h : W14 w b p) (hr : w.ownsRow B 3 1 v n xs) : some b ≠ v.ownBlock := fun e => by
  rcases hr.2 with ⟨rfl, _⟩ | ⟨g, cap, cur, rfl, _, hg, _⟩
  · simp [Value.ownBlock] at e
  · simp [Value.ownBlock] at e
    subst e
    rw [h.row] at hg
    injection hg with hg
    injection hg with _ ht
    exact absurd ht (by decide)
theorem W14.grown {w w' : World} {b : Nat} {p : Nat → Bool} {row : Option Nat} (h : W14 w b p) (hg : w.grownBy w' row) (hne : some b ≠ row) : W14 w' b p := ⟨(hg.block b h.lt hne).trans h.row⟩
theorem past_grown {B : Nat} {w w' : World} {row : Option Nat} (hg : w.grownBy w' row) (hr : ∀ k, row = some k → B ≤ k) : Past B w w' := ⟨hg.os, hg.tape, hg.output, hg.size, fun i hi hb => hg.block i hi (fun e => by have := hr i e.symm; omega)⟩
end Go.Proofs.Ythjkmfjhcohhbab
