/- Trees of questions: numbers alone. -/
import Derived.Test.YtdkffkgoalgjmacQuest
namespace Go.Proofs.Ytdkffkgoalgjmac
open Go.RowKit Go.ChangeShapes Go.WideShapes
set_option linter.unusedVariables false

/-- A tree: a leaf, or a question with what is behind yes and no. -/
inductive T9 where
  | leaf : T9
  | br (q : Int) (y m : T9) : T9
def T9.size : T9 → Nat
  | .leaf => 1
  | .br _ y m => 1 + y.size + m.size
def T9.depth : T9 → Nat
  | .leaf => 0
  | .br _ y m => 1 + max y.depth m.depth
def T9.ok (n : Int) : T9 → Prop
  | .leaf => True
  | .br q y m => qOK n q = true ∧ y.ok n ∧ m.ok n
def lf9 : Int × Int × Int := (-1, -1, -1)
/-- The nodes of a tree from a place on. -/
def tell9 : T9 → Nat → List (Int × Int × Int)
  | .leaf, _ => [lf9]
  | .br q y m, p => (q, ((p + 1 : Nat) : Int), ((p + 1 + y.size : Nat) : Int)) :: (tell9 y (p + 1) ++ tell9 m (p + 1 + y.size))
theorem T9.size_pos : ∀ t : T9, 1 ≤ t.size
  | .leaf => Nat.le_refl _
  | .br _ y m => by simp only [T9.size]; omega
theorem T9.depth_l {q : Int} {y m : T9} : y.depth + 1 ≤ (T9.br q y m).depth := by
  have := Nat.le_max_left y.depth m.depth
  simp only [T9.depth]; omega
theorem T9.depth_r {q : Int} {y m : T9} : m.depth + 1 ≤ (T9.br q y m).depth := by
  have := Nat.le_max_right y.depth m.depth
  simp only [T9.depth]; omega
theorem tell9_len : ∀ (t : T9) (p : Nat), (tell9 t p).length = t.size
  | .leaf, _ => rfl
  | .br q y m, p => by
    simp only [tell9, List.length_cons, List.length_append, tell9_len y, tell9_len m, T9.size]; omega
theorem T9.size_le : ∀ (t : T9) (k : Nat), t.depth ≤ k → t.size + 1 ≤ 2 ^ (k + 1)
  | .leaf, k, _ => by
    have := Nat.one_le_two_pow (n := k)
    simp only [T9.size, Nat.pow_succ]; omega
  | .br q y m, 0, h => by simp only [T9.depth] at h; omega
  | .br q y m, k + 1, h => by
    have h1 := T9.size_le y k (by have := T9.depth_l (q := q) (y := y) (m := m); omega)
    have h2 := T9.size_le m k (by have := T9.depth_r (q := q) (y := y) (m := m); omega)
    simp only [T9.size]
    rw [Nat.pow_succ] at h1 h2 ⊢
    rw [Nat.pow_succ]
    omega
theorem T9.size_127 {t : T9} (h : t.depth ≤ 6) : t.size ≤ 127 := by
  have := T9.size_le t 6 h
  omega
theorem qOK_neg (n : Int) : qOK n (-1) = false := by
  rw [Bool.eq_false_iff]
  intro h
  have := (qOK_iff.1 h).2.1
  omega

/-- The nodes of a tree lie in a list from a place on. -/
def At9 (ns : List (Int × Int × Int)) (p : Nat) (t : T9) : Prop := ∀ (j : Nat) (x : Int × Int × Int), (tell9 t p)[j]? = some x → ns[p + j]? = some x
theorem At9.leaf {ns : List (Int × Int × Int)} {p : Nat} (h : At9 ns p .leaf) : ns[p]? = some lf9 := h 0 lf9 rfl
theorem At9.head {ns : List (Int × Int × Int)} {p : Nat} {q : Int} {y m : T9} (h : At9 ns p (.br q y m)) : ns[p]? = some (q, ((p + 1 : Nat) : Int), ((p + 1 + y.size : Nat) : Int)) := h 0 _ rfl
theorem At9.yes {ns : List (Int × Int × Int)} {p : Nat} {q : Int} {y m : T9} (h : At9 ns p (.br q y m)) : At9 ns (p + 1) y := fun j x hx => by
  have hj : j < (tell9 y (p + 1)).length := by
    rcases Nat.lt_or_ge j (tell9 y (p + 1)).length with h1 | h1
    · exact h1
    · rw [List.getElem?_eq_none h1] at hx; cases hx
  have := h (j + 1) x (by
    simp only [tell9, List.getElem?_cons_succ]
    rw [List.getElem?_append_left hj]; exact hx)
  rw [show p + 1 + j = p + (j + 1) by omega]
  exact this
theorem At9.no {ns : List (Int × Int × Int)} {p : Nat} {q : Int} {y m : T9} (h : At9 ns p (.br q y m)) : At9 ns (p + 1 + y.size) m := fun j x hx => by
  have := h (y.size + j + 1) x (by
    simp only [tell9, List.getElem?_cons_succ]
    rw [List.getElem?_append_right (by rw [tell9_len]; omega), tell9_len, show y.size + j - y.size = j by omega]; exact hx)
  rw [show p + 1 + y.size + j = p + (y.size + j + 1) by omega]
  exact this
theorem At9.le {ns : List (Int × Int × Int)} {p : Nat} {t : T9} (h : At9 ns p t) : p + t.size ≤ ns.length := by
  have hp := t.size_pos
  have hl := tell9_len t p
  have := h (t.size - 1) _ (List.getElem?_eq_getElem (by rw [hl]; omega))
  rcases Nat.lt_or_ge (p + (t.size - 1)) ns.length with h1 | h1
  · omega
  · rw [List.getElem?_eq_none h1] at this; cases this
theorem At9.mk {ns : List (Int × Int × Int)} {p : Nat} {q : Int} {y m : T9} (h0 : ns[p]? = some (q, ((p + 1 : Nat) : Int), ((p + 1 + y.size : Nat) : Int))) (h1 : At9 ns (p + 1) y) (h2 : At9 ns (p + 1 + y.size) m) : At9 ns p (.br q y m) := fun j x hx => by
  match j, hx with
  | 0, hx => simp only [tell9, List.getElem?_cons_zero] at hx; rw [← hx]; exact h0
  | j + 1, hx =>
    simp only [tell9, List.getElem?_cons_succ] at hx
    rcases Nat.lt_or_ge j y.size with hj | hj
    · rw [List.getElem?_append_left (by rw [tell9_len]; exact hj)] at hx
      have := h1 j x hx
      rw [show p + (j + 1) = p + 1 + j by omega]; exact this
    · rw [List.getElem?_append_right (by rw [tell9_len]; exact hj), tell9_len] at hx
      have := h2 _ x hx
      rw [show p + (j + 1) = p + 1 + y.size + (j - y.size) by omega]; exact this
theorem At9.self (t : T9) : At9 (tell9 t 0) 0 t := fun j x hx => by rw [Nat.zero_add]; exact hx
theorem At9.all {ns : List (Int × Int × Int)} {t : T9} (h : At9 ns 0 t) (hs : ns.length = t.size) : ns = tell9 t 0 := by
  apply List.ext_getElem?
  intro j
  rcases Nat.lt_or_ge j t.size with hj | hj
  · have e := List.getElem?_eq_getElem (l := tell9 t 0) (i := j) (by rw [tell9_len]; exact hj)
    have := h j _ e
    rw [Nat.zero_add] at this
    rw [this, e]
  · rw [List.getElem?_eq_none (by omega), List.getElem?_eq_none (by rw [tell9_len]; exact hj)]
/-- The tree that is read from a place on, with at most so many questions on each way. -/
def read9 (n : Int) (ns : List (Int × Int × Int)) : Nat → Int → T9
  | 0, _ => .leaf
  | k + 1, p => if 0 ≤ p ∧ p < (ns.length : Int) ∧ qOK n (ns.getD p.toNat lf9).1 = true then .br (ns.getD p.toNat lf9).1 (read9 n ns k (ns.getD p.toNat lf9).2.1) (read9 n ns k (ns.getD p.toNat lf9).2.2) else .leaf
theorem read9_depth (n : Int) (ns : List (Int × Int × Int)) : ∀ k p, (read9 n ns k p).depth ≤ k
  | 0, p => Nat.le_refl _
  | k + 1, p => by
    unfold read9
    split
    · have h1 := read9_depth n ns k (ns.getD p.toNat lf9).2.1
      have h2 := read9_depth n ns k (ns.getD p.toNat lf9).2.2
      simp only [T9.depth]
      have := Nat.max_le.2 ⟨h1, h2⟩
      omega
    · exact Nat.zero_le _
theorem read9_ok (n : Int) (ns : List (Int × Int × Int)) : ∀ k p, (read9 n ns k p).ok n
  | 0, p => trivial
  | k + 1, p => by
    unfold read9
    split
    · rename_i h
      exact ⟨h.2.2, read9_ok n ns k _, read9_ok n ns k _⟩
    · trivial
theorem getD9 {ns : List (Int × Int × Int)} {p : Nat} {x : Int × Int × Int} (h : ns[p]? = some x) : ns.getD p lf9 = x ∧ p < ns.length := by
  refine ⟨by simp [List.getD, h], ?_⟩
  rcases Nat.lt_or_ge p ns.length with h1 | h1
  · exact h1
  · rw [List.getElem?_eq_none h1] at h; cases h
theorem read9_leaf {n : Int} {ns : List (Int × Int × Int)} {k : Nat} {p : Int} (h : ¬ (0 ≤ p ∧ p < (ns.length : Int) ∧ qOK n (ns.getD p.toNat lf9).1 = true)) : read9 n ns k p = .leaf := by
  cases k with
  | zero => rfl
  | succ k => unfold read9; rw [if_neg h]
theorem read9_at {n : Int} {ns : List (Int × Int × Int)} : ∀ {t : T9} {k p : Nat}, At9 ns p t → t.depth ≤ k → t.ok n → read9 n ns k (p : Int) = t
  | .leaf, k, p, ha, _, _ => by
    refine read9_leaf (fun h => ?_)
    have := (getD9 ha.leaf).1
    rw [Int.toNat_natCast, this] at h
    have h2 := h.2.2
    rw [show lf9.1 = -1 from rfl, qOK_neg] at h2
    cases h2
  | .br q y m, 0, p, _, hd, _ => by
    have := T9.depth_l (q := q) (y := y) (m := m); omega
  | .br q y m, k + 1, p, ha, hd, ho => by
    have h0 := getD9 ha.head
    have h1 := read9_at (k := k) ha.yes (by have := T9.depth_l (q := q) (y := y) (m := m); omega) ho.2.1
    have h2 := read9_at (k := k) ha.no (by have := T9.depth_r (q := q) (y := y) (m := m); omega) ho.2.2
    unfold read9
    rw [Int.toNat_natCast, h0.1]
    rw [if_pos ⟨by omega, by omega, ho.1⟩]
    simp only
    rw [h1, h2]
/-- Whether a list of nodes is a tree for n numbers. -/
def isT9 (n : Int) (ns : List (Int × Int × Int)) : Bool := inB n 1 12 && decide (ns = tell9 (read9 n ns 6 0) 0)
structure Tree9 (n : Int) (ns : List (Int × Int × Int)) (t : T9) : Prop where
  n12 : 1 ≤ n ∧ n ≤ 12
  deep : t.depth ≤ 6
  ok : t.ok n
  at0 : At9 ns 0 t
  len : ns.length = t.size
theorem isT9_mk {n : Int} {ns : List (Int × Int × Int)} {t : T9} (h : Tree9 n ns t) : isT9 n ns = true := by
  unfold isT9
  have := read9_at h.at0 h.deep h.ok
  rw [show (0 : Int) = ((0 : Nat) : Int) from rfl, this, inB_t h.n12.1 h.n12.2]
  simp only [Bool.true_and, decide_eq_true_eq]
  exact h.at0.all h.len
theorem isT9_of {n : Int} {ns : List (Int × Int × Int)} (h : isT9 n ns = true) : ∃ t, Tree9 n ns t := by
  unfold isT9 at h
  rw [Bool.and_eq_true, decide_eq_true_eq, inB_iff] at h
  obtain ⟨hn, he⟩ := h
  exact ⟨read9 n ns 6 0, hn, read9_depth _ _ _ _, read9_ok _ _ _ _, by
    have := At9.self (read9 n ns 6 0)
    rw [← he] at this
    exact this, by
    have := congrArg List.length he
    rwa [tell9_len] at this⟩
theorem Tree9.le127 {n : Int} {ns : List (Int × Int × Int)} {t : T9} (h : Tree9 n ns t) : 1 ≤ ns.length ∧ ns.length ≤ 127 := by
  have := h.len
  have := T9.size_127 h.deep
  have := t.size_pos
  omega
/-- The place behind a tree, if it is in form. -/
def end9 (n : Int) (ns : List (Int × Int × Int)) : Nat → Nat → Option Nat
  | 0, _ => none
  | k + 1, p =>
    if p < ns.length then
      if ns.getD p lf9 = lf9 then some (p + 1)
      else if qOK n (ns.getD p lf9).1 = true ∧ (ns.getD p lf9).2.1 = (p : Int) + 1 then
        (end9 n ns k (p + 1)).bind fun e => if (ns.getD p lf9).2.2 = (e : Int) then end9 n ns k e else none
      else none
    else none
theorem end9_at {n : Int} {ns : List (Int × Int × Int)} : ∀ {k p e : Nat}, end9 n ns k p = some e → ∃ t : T9, t.depth + 1 ≤ k ∧ t.ok n ∧ At9 ns p t ∧ e = p + t.size
  | 0, p, e, h => by cases h
  | k + 1, p, e, h => by
    unfold end9 at h
    by_cases hp : p < ns.length
    · rw [if_pos hp] at h
      have hg : ns[p]? = some (ns.getD p lf9) := by simp [List.getD, hp]
      by_cases hl : ns.getD p lf9 = lf9
      · rw [if_pos hl] at h
        injection h with h
        refine ⟨.leaf, by simp only [T9.depth]; omega, trivial, fun j x hx => ?_, by simp only [T9.size]; omega⟩
        match j, hx with
        | 0, hx =>
          simp only [tell9, List.getElem?_cons_zero] at hx
          rw [Nat.add_zero, hg, hl]; exact hx
        | j + 1, hx => simp [tell9] at hx
      · rw [if_neg hl] at h
        by_cases hq : qOK n (ns.getD p lf9).1 = true ∧ (ns.getD p lf9).2.1 = (p : Int) + 1
        · rw [if_pos hq] at h
          cases hy : end9 n ns k (p + 1) with
          | none => rw [hy] at h; cases h
          | some e1 =>
            rw [hy] at h
            simp only [Option.bind_some] at h
            by_cases hn : (ns.getD p lf9).2.2 = (e1 : Int)
            · rw [if_pos hn] at h
              obtain ⟨y, y1, y2, y3, y4⟩ := end9_at hy
              obtain ⟨m, m1, m2, m3, m4⟩ := end9_at h
              rw [y4] at m3 m4 hn
              refine ⟨.br (ns.getD p lf9).1 y m, ?_, ⟨hq.1, y2, m2⟩, At9.mk ?_ y3 m3, ?_⟩
              · simp only [T9.depth]
                have := Nat.max_le.2 ⟨show y.depth ≤ k - 1 by omega, show m.depth ≤ k - 1 by omega⟩
                omega
              · rw [hg]
                congr 1
                refine Prod.ext rfl (Prod.ext ?_ ?_)
                · rw [hq.2]; show _ = ((p + 1 : Nat) : Int); omega
                · rw [hn]
              · rw [m4]; simp only [T9.size]; omega
            · rw [if_neg hn] at h; cases h
        · rw [if_neg hq] at h; cases h
    · rw [if_neg hp] at h; cases h
theorem at_end9 {n : Int} {ns : List (Int × Int × Int)} : ∀ {t : T9} {k p : Nat}, At9 ns p t → t.ok n → t.depth + 1 ≤ k → end9 n ns k p = some (p + t.size)
  | .leaf, 0, p, _, _, h => by omega
  | .leaf, k + 1, p, ha, _, _ => by
    have h0 := getD9 ha.leaf
    unfold end9
    rw [if_pos h0.2, if_pos h0.1]
    rfl
  | .br q y m, 0, p, _, _, h => by omega
  | .br q y m, k + 1, p, ha, ho, hd => by
    have h0 := getD9 ha.head
    have h1 := at_end9 (k := k) ha.yes ho.2.1 (by have := T9.depth_l (q := q) (y := y) (m := m); omega)
    have h2 := at_end9 (k := k) ha.no ho.2.2 (by have := T9.depth_r (q := q) (y := y) (m := m); omega)
    unfold end9
    rw [if_pos h0.2, h0.1, if_neg (fun e => by
      have := congrArg (fun x : Int × Int × Int => x.2.1) e
      simp only [lf9] at this
      omega), if_pos ⟨ho.1, by show ((p + 1 : Nat) : Int) = _; omega⟩, h1]
    simp only [Option.bind_some]
    rw [if_pos trivial, h2]
    simp only [T9.size]
    congr 1
    omega
theorem isT9_end (n : Int) (ns : List (Int × Int × Int)) (hn : inB n 1 12 = true) : isT9 n ns = (inB ns.length 1 127 && decide (end9 n ns 7 0 = some ns.length)) := by
  have hn' := inB_iff.1 hn
  cases h : isT9 n ns with
  | true =>
    obtain ⟨t, ht⟩ := isT9_of h
    have hl := ht.le127
    have he := at_end9 (k := 7) ht.at0 ht.ok (by have := ht.deep; omega)
    rw [Nat.zero_add, ← ht.len] at he
    rw [inB_t (by omega) (by omega), he]
    simp
  | false =>
    symm
    rw [Bool.eq_false_iff]
    intro hh
    rw [Bool.and_eq_true, decide_eq_true_eq] at hh
    obtain ⟨t, h1, h2, h3, h4⟩ := end9_at hh.2
    have := isT9_mk (t := t) ⟨hn', by omega, h2, h3, by omega⟩
    rw [h] at this
    cases this
theorem isT9_no {n : Int} {ns : List (Int × Int × Int)} (hn : inB n 1 12 = false) : isT9 n ns = false := by simp [isT9, hn]

/-- The way to a node. -/
def way9 : T9 → Nat → Nat → List (Int × Bool)
  | .leaf, _, _ => []
  | .br q y m, p, k => if k ≤ p then [] else if k < p + 1 + y.size then (q, true) :: way9 y (p + 1) k else (q, false) :: way9 m (p + 1 + y.size) k
theorem way9_self : ∀ (t : T9) (p : Nat), way9 t p p = []
  | .leaf, _ => rfl
  | .br q y m, p => by unfold way9; rw [if_pos (Nat.le_refl _)]
theorem way9_len : ∀ (t : T9) (p k : Nat), (way9 t p k).length ≤ t.depth
  | .leaf, _, _ => Nat.zero_le _
  | .br q y m, p, k => by
    have h1 := way9_len y (p + 1) k
    have h2 := way9_len m (p + 1 + y.size) k
    have h3 := T9.depth_l (q := q) (y := y) (m := m)
    have h4 := T9.depth_r (q := q) (y := y) (m := m)
    unfold way9
    split
    · exact Nat.zero_le _
    · split
      · rw [List.length_cons]; omega
      · rw [List.length_cons]; omega
theorem way9_ok {n : Int} : ∀ {t : T9} {p k : Nat}, t.ok n → ∀ x ∈ way9 t p k, qOK n x.1 = true
  | .leaf, p, k, _, x, h => by cases h
  | .br q y m, p, k, ho, x, h => by
    unfold way9 at h
    split at h
    · cases h
    · split at h
      · rcases List.mem_cons.1 h with rfl | h
        · exact ho.1
        · exact way9_ok ho.2.1 x h
      · rcases List.mem_cons.1 h with rfl | h
        · exact ho.1
        · exact way9_ok ho.2.2 x h
/-- On the way to a node: at a place, with what has been asked. -/
structure Going9 (n : Int) (ns : List (Int × Int × Int)) (k : Nat) (W : List (Int × Bool)) (t : T9) (p : Nat) (acc : List (Int × Bool)) : Prop where
  at9 : At9 ns p t
  ok : t.ok n
  lo : p ≤ k
  hi : k < p + t.size
  way : acc ++ way9 t p k = W
theorem Going9.start {n : Int} {ns : List (Int × Int × Int)} {t : T9} {k : Nat} (h : Tree9 n ns t) (hk : k < ns.length) : Going9 n ns k (way9 t 0 k) t 0 [] :=
  ⟨h.at0, h.ok, Nat.zero_le _, by have := h.len; omega, rfl⟩
theorem Going9.done {n : Int} {ns : List (Int × Int × Int)} {W : List (Int × Bool)} {t : T9} {p : Nat} {acc : List (Int × Bool)} (h : Going9 n ns p W t p acc) : acc = W := by
  have := h.way
  rwa [way9_self, List.append_nil] at this
theorem Going9.parts {n : Int} {ns : List (Int × Int × Int)} {k : Nat} {W : List (Int × Bool)} {t : T9} {p : Nat} {acc : List (Int × Bool)} (h : Going9 n ns k W t p acc) (hk : p ≠ k) : ∃ q y m, t = .br q y m := by
  cases t with
  | leaf =>
    have h1 := h.lo; have h2 := h.hi
    simp only [T9.size] at h2
    omega
  | br q y m => exact ⟨q, y, m, rfl⟩
theorem Going9.left {n : Int} {ns : List (Int × Int × Int)} {k : Nat} {W : List (Int × Bool)} {q : Int} {y m : T9} {p : Nat} {acc : List (Int × Bool)} (h : Going9 n ns k W (.br q y m) p acc) (hk : p ≠ k) (hl : k < p + 1 + y.size) : Going9 n ns k W y (p + 1) (acc ++ [(q, true)]) :=
  ⟨h.at9.yes, h.ok.2.1, by have := h.lo; omega, hl, by
    have h1 := h.way
    have h2 := h.lo
    unfold way9 at h1
    rw [if_neg (by omega), if_pos hl] at h1
    rw [List.append_assoc]; exact h1⟩
theorem Going9.right {n : Int} {ns : List (Int × Int × Int)} {k : Nat} {W : List (Int × Bool)} {q : Int} {y m : T9} {p : Nat} {acc : List (Int × Bool)} (h : Going9 n ns k W (.br q y m) p acc) (hk : p ≠ k) (hl : ¬ k < p + 1 + y.size) : Going9 n ns k W m (p + 1 + y.size) (acc ++ [(q, false)]) :=
  ⟨h.at9.no, h.ok.2.2, by omega, by have := h.hi; simp only [T9.size] at this; omega, by
    have h1 := h.way
    have h2 := h.lo
    unfold way9 at h1
    rw [if_neg (by omega), if_neg hl] at h1
    rw [List.append_assoc]; exact h1⟩

/-- The leaf that is reached by true answers. -/
def leaf9 (s : Nat) : T9 → Nat → Nat
  | .leaf, p => p
  | .br q y m, p => if inQ q s = true then leaf9 s y (p + 1) else leaf9 s m (p + 1 + y.size)
theorem leaf9_lt (s : Nat) : ∀ (t : T9) (p : Nat), p ≤ leaf9 s t p ∧ leaf9 s t p < p + t.size
  | .leaf, p => ⟨Nat.le_refl _, Nat.lt_succ_self _⟩
  | .br q y m, p => by
    have h1 := leaf9_lt s y (p + 1)
    have h2 := leaf9_lt s m (p + 1 + y.size)
    unfold leaf9
    simp only [T9.size]
    split
    · omega
    · omega
/-- A play: the place at which it ends, and the answers that are used. -/
def play9 : T9 → Nat → List Bool → Nat × Nat
  | .leaf, p, _ => (p, 0)
  | .br _ _ _, p, [] => (p, 0)
  | .br _ y m, p, a :: l => if a = true then ((play9 y (p + 1) l).1, (play9 y (p + 1) l).2 + 1) else ((play9 m (p + 1 + y.size) l).1, (play9 m (p + 1 + y.size) l).2 + 1)
theorem play9_nil : ∀ (t : T9) (p : Nat), play9 t p [] = (p, 0)
  | .leaf, _ => rfl
  | .br _ _ _, _ => rfl

/-- The nodes of a tree that are leaves, and those that are not. -/
theorem tell9_kind : ∀ (t : T9) (p : Nat) (x : Int × Int × Int), x ∈ tell9 t p → x = lf9 ∨ (0 ≤ x.2.1 ∧ x.2.1 ≤ (p + t.size : Nat) ∧ 0 ≤ x.2.2 ∧ x.2.2 ≤ (p + t.size : Nat) ∧ x ≠ lf9)
  | .leaf, p, x, h => by simp only [tell9, List.mem_singleton] at h; exact .inl h
  | .br q y m, p, x, h => by
    simp only [tell9] at h
    have hy := y.size_pos
    have hm := m.size_pos
    rcases List.mem_cons.1 h with rfl | h
    · refine .inr ⟨by simp only; omega, by simp only [T9.size]; omega, by simp only; omega, by simp only [T9.size]; omega, fun e => ?_⟩
      have := congrArg (fun x : Int × Int × Int => x.2.1) e
      simp only [lf9] at this
      omega
    · rcases List.mem_append.1 h with h | h
      · rcases tell9_kind y _ x h with h | ⟨a, b, c, d, e⟩
        · exact .inl h
        · refine .inr ⟨a, ?_, c, ?_, e⟩ <;> (simp only [T9.size]; omega)
      · rcases tell9_kind m _ x h with h | ⟨a, b, c, d, e⟩
        · exact .inl h
        · refine .inr ⟨a, ?_, c, ?_, e⟩ <;> (simp only [T9.size]; omega)
theorem Tree9.eq {n : Int} {ns : List (Int × Int × Int)} {t : T9} (h : Tree9 n ns t) : ns = tell9 t 0 := h.at0.all h.len
theorem Tree9.kind {n : Int} {ns : List (Int × Int × Int)} {t : T9} (h : Tree9 n ns t) {k : Nat} (hk : k < ns.length) : ns[k] = lf9 ∨ (0 ≤ ns[k].2.1 ∧ ns[k].2.1 ≤ 127 ∧ 0 ≤ ns[k].2.2 ∧ ns[k].2.2 ≤ 127 ∧ ns[k] ≠ lf9) := by
  have h1 := h.le127
  have h2 := h.len
  have hm : ns[k] ∈ tell9 t 0 := by
    have := List.getElem_mem hk
    rw [← h.eq]
    exact this
  rcases tell9_kind t 0 _ hm with h | ⟨a, b, c, d, e⟩
  · exact .inl h
  · exact .inr ⟨a, by omega, c, by omega, e⟩

/-- Nodes that are moved. -/
def mov9 (d : Int) (x : Int × Int × Int) : Int × Int × Int := if 0 ≤ x.2.1 then (x.1, x.2.1 + d, x.2.2 + d) else x
theorem mov9_tell (d : Int) : ∀ (t : T9) (p p' : Nat), (p' : Int) = p + d → (tell9 t p).map (mov9 d) = tell9 t p'
  | .leaf, p, p', _ => rfl
  | .br q y m, p, p', h => by
    simp only [tell9, List.map_cons, List.map_append]
    rw [mov9_tell d y (p + 1) (p' + 1) (by omega), mov9_tell d m (p + 1 + y.size) (p' + 1 + y.size) (by omega)]
    congr 1
    unfold mov9
    rw [if_pos (by simp only; omega)]
    refine Prod.ext rfl (Prod.ext ?_ ?_)
    · simp only; omega
    · simp only; omega
/-- Two trees joined. -/
def join9 (q : Int) (a b : List (Int × Int × Int)) : List (Int × Int × Int) := (q, 1, 1 + (a.length : Int)) :: (a.map (mov9 1) ++ b.map (mov9 (1 + (a.length : Int))))
theorem join9_tell (q : Int) (y m : T9) : join9 q (tell9 y 0) (tell9 m 0) = tell9 (.br q y m) 0 := by
  unfold join9
  rw [tell9_len, mov9_tell 1 y 0 1 (by omega), mov9_tell (1 + (y.size : Int)) m 0 (0 + 1 + y.size) (by omega)]
  simp only [tell9]
  congr 1

/-- A tree with the other questions. -/
def turn9 (n : Nat) : T9 → T9
  | .leaf => .leaf
  | .br q y m => .br (2 ^ n - 1 - q) (turn9 n m) (turn9 n y)
theorem turn9_depth (n : Nat) : ∀ t, (turn9 n t).depth = t.depth
  | .leaf => rfl
  | .br q y m => by
    simp only [turn9, T9.depth, turn9_depth n y, turn9_depth n m]
    rw [Nat.max_comm]
theorem turn9_size (n : Nat) : ∀ t, (turn9 n t).size = t.size
  | .leaf => rfl
  | .br q y m => by
    simp only [turn9, T9.size, turn9_size n y, turn9_size n m]; omega
def tn9 (n : Nat) (x : Int × Int × Int) : Int × Int × Int := if x = lf9 then x else (2 ^ n - 1 - x.1, x.2.2, x.2.1)
theorem qOK_other {n : Nat} {q : Int} (h : qOK (n : Int) q = true) : qOK (n : Int) (2 ^ n - 1 - q) = true := by
  rw [qOK_iff] at h ⊢
  obtain ⟨h1, h2, h3⟩ := h
  rw [Int.toNat_natCast] at h3 ⊢
  exact ⟨h1, by omega, by omega⟩
theorem read9_turn {n : Nat} {ns : List (Int × Int × Int)} : ∀ {t : T9} {k p : Nat}, At9 ns p t → t.depth ≤ k → t.ok (n : Int) → read9 (n : Int) (ns.map (tn9 n)) k (p : Int) = turn9 n t
  | .leaf, k, p, ha, _, _ => by
    refine read9_leaf (fun h => ?_)
    have h0 := ha.leaf
    have h1 : (ns.map (tn9 n))[p]? = some lf9 := by rw [List.getElem?_map, h0]; rfl
    rw [Int.toNat_natCast, (getD9 h1).1] at h
    have h2 := h.2.2
    rw [show lf9.1 = -1 from rfl, qOK_neg] at h2
    cases h2
  | .br q y m, 0, p, _, hd, _ => by
    have := T9.depth_l (q := q) (y := y) (m := m); omega
  | .br q y m, k + 1, p, ha, hd, ho => by
    have h0 := ha.head
    have h3 : (ns.map (tn9 n))[p]? = some (2 ^ n - 1 - q, ((p + 1 + y.size : Nat) : Int), ((p + 1 : Nat) : Int)) := by
      rw [List.getElem?_map, h0]
      simp only [Option.map_some, tn9]
      rw [if_neg (fun e => by
        have := congrArg (fun x : Int × Int × Int => x.2.1) e
        simp only [lf9] at this
        omega)]
    have h0' := getD9 h3
    have h1 := read9_turn (k := k) ha.yes (by have := T9.depth_l (q := q) (y := y) (m := m); omega) ho.2.1
    have h2 := read9_turn (k := k) ha.no (by have := T9.depth_r (q := q) (y := y) (m := m); omega) ho.2.2
    unfold read9
    rw [Int.toNat_natCast, h0'.1]
    rw [if_pos ⟨by omega, by have := h0'.2; omega, qOK_other ho.1⟩]
    simp only
    rw [h1, h2]
    rfl
/-- A tree with a leaf in the place of a node. -/
def cut9 : T9 → Nat → Nat → T9
  | .leaf, _, _ => .leaf
  | .br q y m, p, k => if k ≤ p then .leaf else if k < p + 1 + y.size then .br q (cut9 y (p + 1) k) m else .br q y (cut9 m (p + 1 + y.size) k)
theorem At9.other {ns ns' : List (Int × Int × Int)} {p : Nat} {t : T9} (h : At9 ns p t) (hs : ∀ j, p ≤ j → j < p + t.size → ns'[j]? = ns[j]?) : At9 ns' p t := fun j x hx => by
  have hj : j < (tell9 t p).length := by
    rcases Nat.lt_or_ge j (tell9 t p).length with h1 | h1
    · exact h1
    · rw [List.getElem?_eq_none h1] at hx; cases hx
  rw [tell9_len] at hj
  rw [hs (p + j) (by omega) (by omega)]
  exact h j x hx
theorem read9_cut {n : Int} {ns : List (Int × Int × Int)} {k : Nat} : ∀ {t : T9} {d p : Nat}, At9 ns p t → t.depth ≤ d → t.ok n → p ≤ k → k < p + t.size → read9 n (ns.set k lf9) d (p : Int) = cut9 t p k
  | t, d, p, ha, hd, ho, h1, h2 => by
    have hle := ha.le
    by_cases e : k = p
    · subst e
      have h3 : (ns.set k lf9)[k]? = some lf9 := by rw [List.getElem?_set_self (by have := t.size_pos; omega)]
      have : read9 n (ns.set k lf9) d (k : Int) = .leaf := read9_leaf (fun h => by
        rw [Int.toNat_natCast, (getD9 h3).1] at h
        have h4 := h.2.2
        rw [show lf9.1 = -1 from rfl, qOK_neg] at h4
        cases h4)
      rw [this]
      cases t with
      | leaf => rfl
      | br q y m => unfold cut9; rw [if_pos (Nat.le_refl _)]
    · match t, d, ha, hd, ho, h2, hle with
      | .leaf, d, ha, hd, ho, h2, hle => simp only [T9.size] at h2; omega
      | .br q y m, 0, ha, hd, ho, h2, hle =>
        have := T9.depth_l (q := q) (y := y) (m := m); omega
      | .br q y m, d + 1, ha, hd, ho, h2, hle =>
        have hdl := T9.depth_l (q := q) (y := y) (m := m)
        have hdr := T9.depth_r (q := q) (y := y) (m := m)
        have h0 : (ns.set k lf9)[p]? = some (q, ((p + 1 : Nat) : Int), ((p + 1 + y.size : Nat) : Int)) := by
          rw [List.getElem?_set_ne e]; exact ha.head
        have h0' := getD9 h0
        simp only [T9.size] at h2
        unfold read9 cut9
        rw [Int.toNat_natCast, h0'.1, if_pos ⟨by omega, by have := h0'.2; omega, ho.1⟩, if_neg (by omega)]
        simp only
        by_cases hl : k < p + 1 + y.size
        · rw [if_pos hl, read9_cut (t := y) ha.yes (by omega) ho.2.1 (by omega) hl]
          rw [read9_at (t := m) (ha.no.other (fun j j1 j2 => by rw [List.getElem?_set_ne (by omega)])) (by omega) ho.2.2]
        · rw [if_neg hl, read9_cut (t := m) ha.no (by omega) ho.2.2 (by omega) (by omega)]
          rw [read9_at (t := y) (ha.yes.other (fun j j1 j2 => by rw [List.getElem?_set_ne (by omega)])) (by omega) ho.2.1]
/-- The tree at a node. -/
theorem sub9_at {n : Int} {ns : List (Int × Int × Int)} {k : Nat} : ∀ {t : T9} {p : Nat}, At9 ns p t → t.ok n → p ≤ k → k < p + t.size → ∃ b : T9, At9 ns k b ∧ b.ok n ∧ b.depth ≤ t.depth
  | .leaf, p, ha, ho, h1, h2 => by
    simp only [T9.size] at h2
    obtain rfl : k = p := by omega
    exact ⟨.leaf, ha, trivial, Nat.le_refl _⟩
  | .br q y m, p, ha, ho, h1, h2 => by
    by_cases e : k = p
    · subst e; exact ⟨_, ha, ho, Nat.le_refl _⟩
    · simp only [T9.size] at h2
      have hdl := T9.depth_l (q := q) (y := y) (m := m)
      have hdr := T9.depth_r (q := q) (y := y) (m := m)
      by_cases hl : k < p + 1 + y.size
      · obtain ⟨b, b1, b2, b3⟩ := sub9_at ha.yes ho.2.1 (by omega) hl
        exact ⟨b, b1, b2, by omega⟩
      · have g1 : p + 1 + y.size ≤ k := by omega
        have g2 : k < p + 1 + y.size + m.size := by omega
        have g3 := ha.no
        obtain ⟨b, b1, b2, b3⟩ := sub9_at g3 ho.2.2 g1 g2
        exact ⟨b, b1, b2, by omega⟩
theorem At9.drop {ns : List (Int × Int × Int)} {p : Nat} {t : T9} (h : At9 ns p t) : (ns.drop p).take t.size = tell9 t p := by
  apply List.ext_getElem?
  intro j
  rcases Nat.lt_or_ge j t.size with hj | hj
  · have e := List.getElem?_eq_getElem (l := tell9 t p) (i := j) (by rw [tell9_len]; exact hj)
    rw [List.getElem?_take_of_lt hj, List.getElem?_drop, h j _ e, e]
  · rw [List.getElem?_eq_none (by rw [List.length_take]; omega), List.getElem?_eq_none (by rw [tell9_len]; exact hj)]
/-- A question asked so often. -/
def rep9 (q : Int) : Nat → T9
  | 0 => .leaf
  | k + 1 => .br q (rep9 q k) (rep9 q k)
theorem rep9_size (q : Int) : ∀ k, (rep9 q k).size + 1 = 2 ^ (k + 1)
  | 0 => rfl
  | k + 1 => by
    have := rep9_size q k
    simp only [rep9, T9.size]
    rw [Nat.pow_succ]
    omega
/-- The tree that halves. -/
def halv9 : Nat → Nat → Nat → T9
  | 0, _, _ => .leaf
  | f + 1, lo, many => if many ≤ 1 then .leaf else .br (2 ^ (lo + (many + 1) / 2) - 2 ^ lo) (halv9 f lo ((many + 1) / 2)) (halv9 f (lo + (many + 1) / 2) (many / 2))
end Go.Proofs.Ytdkffkgoalgjmac
