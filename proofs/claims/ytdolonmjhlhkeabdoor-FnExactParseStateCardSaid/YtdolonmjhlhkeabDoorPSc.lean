/- ParseState: where a text is cut, and what the parts must be. -/
import Derived.Test.YtdolonmjhlhkeabDoorPSs
import Derived.Test.YtdolonmjhlhkeabDoorDec
import Derived.Lib.IndexMore
namespace Go.Proofs.YtdolonmjhlhkeabDoor
open Go.RowKit Go.ChangeShapes Go.WideShapes
set_option linter.unusedVariables false

theorem index_at (c : UInt8) : ∀ (p r : List UInt8), c ∉ p → Lib.index (p ++ c :: r) [c] = (p.length : Int)
  | [], r, _ => by
    show Lib.index (c :: r) [c] = 0
    unfold Lib.index
    simp [List.isPrefixOf]
  | b :: p, r, h => by
    have hb : c ≠ b := fun e => h (by rw [e]; exact List.mem_cons_self ..)
    have ih := index_at c p r (fun hm => h (List.mem_cons_of_mem _ hm))
    show Lib.index (b :: (p ++ c :: r)) [c] = _
    unfold Lib.index
    have hp : List.isPrefixOf [c] (b :: (p ++ c :: r)) = false := by simp [List.isPrefixOf, hb]
    rw [if_neg (by rw [hp]; decide), ih]
    have hne : ((p.length : Int) == -1) = false := by rw [beq_eq_false_iff_ne]; omega
    rw [if_neg (by rw [hne]; decide), List.length_cons]
    omega
theorem index_none (c : UInt8) : ∀ (l : List UInt8), c ∉ l → Lib.index l [c] = -1
  | [], _ => by simp [Lib.index]
  | b :: l, h => by
    have hb : c ≠ b := fun e => h (by rw [e]; exact List.mem_cons_self ..)
    have ih := index_none c l (fun hm => h (List.mem_cons_of_mem _ hm))
    unfold Lib.index
    have hp : List.isPrefixOf [c] (b :: l) = false := by simp [List.isPrefixOf, hb]
    rw [if_neg (by rw [hp]; decide), ih]
    rfl
theorem cut_at {l p r : List UInt8} {c : UInt8} (hl : l = p ++ c :: r) (hp : c ∉ p) : Lib.cut l [c] = (p, r, true) := by
  subst hl
  unfold Lib.cut
  rw [index_at c p r hp, if_pos (by omega), Int.toNat_natCast]
  simp
theorem cut_none {l : List UInt8} {c : UInt8} (h : c ∉ l) : Lib.cut l [c] = (l, [], false) := by
  unfold Lib.cut
  rw [index_none c l h, if_neg (by omega)]
theorem first_split (c : UInt8) : ∀ l : List UInt8, c ∈ l → ∃ p r, l = p ++ c :: r ∧ c ∉ p
  | [], h => by cases h
  | b :: l, h => by
    by_cases hb : c = b
    · subst hb; exact ⟨[], l, rfl, by simp⟩
    · rcases List.mem_cons.1 h with e | e
      · exact absurd e hb
      · obtain ⟨p, r, h1, h2⟩ := first_split c l e
        exact ⟨b :: p, r, by rw [h1]; rfl, fun hm => by
          rcases List.mem_cons.1 hm with e | e
          · exact hb e
          · exact h2 e⟩

theorem byte_list {s : ByteArray} {i : Nat} (h : i < s.size) : s.data.toList[i]? = some s[i] := by
  have h' : i < s.data.toList.length := by rw [Array.length_toList]; exact h
  rw [List.getElem?_eq_getElem h']
  rfl
theorem size_listP (s : ByteArray) : s.data.toList.length = s.size := Array.length_toList
/-- A mark that the program reads. -/
def okB (b : UInt8) : Bool := b == 45 || (decide (48 ≤ b.toNat) && decide (b.toNat ≤ 57))
theorem okB_iff {b : UInt8} : okB b = true ↔ b = 45 ∨ (48 ≤ b.toNat ∧ b.toNat ≤ 57) := by simp [okB]
theorem good_parts {s : ByteArray} (h : Good s) : ∃ a r, s.data.toList = a :: 58 :: r ∧ r.length = s.size - 2 ∧ (s[0]'(by have := h.lo; omega)) = a := by
  have h3 := h.lo
  have h0 := byte_list (s := s) (i := 0) (by omega)
  have h1 := byte_list (s := s) (i := 1) (by omega)
  have hc : (s[1]'(by omega)) = 58 := by
    apply UInt8.toNat_inj.1
    rw [h.colon]; rfl
  have hz := size_listP s
  generalize s.data.toList = l at h0 h1 hz
  match l, h0, h1, hz with
  | a :: b :: r, h0, h1, hz =>
    have e1 : b = s[1] := by simpa using h1
    have e0 : a = s[0] := by simpa using h0
    exact ⟨a, r, by rw [e1, hc], by simp at hz; omega, e0.symm⟩
theorem lies_list {s : ByteArray} {a b : UInt8} {r : List UInt8} (hl : s.data.toList = a :: b :: r) : liesTo s r.length = r.map lieB := by
  unfold liesTo
  rw [hl]
  apply List.ext_getElem
  · simp
  · intro i h1 h2
    have hi : i < r.length := by simpa using h2
    simp [hi]
theorem upTo_list {s : ByteArray} {a b : UInt8} {r : List UInt8} (hl : s.data.toList = a :: b :: r) : UpTo s r.length ↔ ∀ x ∈ r, x = 45 ∨ 48 ≤ x.toNat := by
  have hz := size_listP s
  rw [hl] at hz
  simp at hz
  constructor
  · intro hu x hx
    obtain ⟨i, hi, rfl⟩ := List.getElem_of_mem hx
    have h2 := byte_list (s := s) (i := i + 2) (by omega)
    rw [hl] at h2
    simp [hi] at h2
    rw [h2]
    exact hu i (by omega) hi
  · intro hu i h hi
    have h2 := byte_list (s := s) (i := i + 2) h
    rw [hl] at h2
    simp [hi] at h2
    rw [← h2]
    exact hu _ (List.getElem_mem hi)
theorem itoa_digit {a : UInt8} (h1 : 48 ≤ a.toNat) (h2 : a.toNat ≤ 57) : Lib.itoa ((a.toNat : Int) - 48) = [a] := by
  unfold Lib.itoa
  rw [if_neg (by omega)]
  rw [show ((a.toNat : Int) - 48).toNat = a.toNat - 48 by omega, dd_small (by omega)]
  congr 1
  apply UInt8.toNat_inj.1
  rw [show 48 + (a.toNat - 48) = a.toNat by omega]
  simp
theorem okB_of {b : UInt8} {m : Int} (h : b = 45 ∨ 48 ≤ b.toNat) (h1 : lieB b ≤ m) (h2 : m ≤ 2) : okB b = true := by
  rw [okB_iff]
  rcases h with h | h
  · exact .inl h
  · refine .inr ⟨h, ?_⟩
    have hb : b ≠ 45 := fun e => by rw [e] at h; simp at h
    rw [lieB_digit hb] at h1
    omega
/-- What the program's parts are, where the text is one of a State. -/
theorem good_imp {s : ByteArray} {p r : List UInt8} (hl : s.data.toList = p ++ 58 :: r) (hp : (58 : UInt8) ∉ p) (h : Good s) :
    pAns p = some (((s[0]'(by have := h.lo; omega)).toNat : Int) - 48) ∧ r.length = s.size - 2 ∧ (∀ b ∈ r, okB b = true) ∧ r.map lieB = liesTo s (s.size - 2) := by
  obtain ⟨a, r', hl', hr, ha⟩ := good_parts h
  have hh := h.head
  rw [ha] at hh ⊢
  have hne : a ≠ 58 := fun e => by rw [e] at hh; simp at hh
  rw [hl'] at hl
  have hpr : p = [a] ∧ r = r' := by
    match p, hp, hl with
    | [], _, hl => injection hl with h1 _; exact absurd h1 hne
    | [x], _, hl => injection hl with h1 h2; injection h2 with _ h3; exact ⟨by rw [h1], h3.symm⟩
    | x :: y :: p', hp, hl =>
      injection hl with h1 h2
      injection h2 with h3 h4
      exact absurd (by rw [h3]; exact List.mem_cons_of_mem _ (List.mem_cons_self ..)) hp
  obtain ⟨rfl, rfl⟩ := hpr
  have hst := h.st
  rw [ha] at hst
  rw [← hr, lies_list hl'] at hst
  refine ⟨?_, hr, ?_, by rw [← hr, lies_list hl']⟩
  · rw [← itoa_digit hh.1 (by omega)]
    exact pAns_itoa (by omega) (by omega)
  · intro b hb
    have hu := h.all
    rw [← hr] at hu
    have hu := (upTo_list hl').1 hu b hb
    obtain ⟨i, hi, rfl⟩ := List.getElem_of_mem hb
    have := isSt_at hst (k := i) (by simpa using hi)
    rw [List.getElem_map] at this
    exact okB_of hu this.2 (by omega)
theorem imp_good {s : ByteArray} {p r : List UInt8} {m : Int} (hl : s.data.toList = p ++ 58 :: r) (hm : pAns p = some m) (hb : ∀ b ∈ r, okB b = true) (hst : isSt (r.map lieB) m = true) :
    ∃ h : Good s, m = ((s[0]'(by have := h.lo; omega)).toNat : Int) - 48 ∧ liesTo s (s.size - 2) = r.map lieB ∧ r.length = s.size - 2 := by
  have hs := isSt_len hst
  rw [List.length_map] at hs
  obtain ⟨_, _, hi⟩ := pAns_some hm
  have hp : p = [UInt8.ofNat (48 + m.toNat)] := by
    rw [← hi]
    unfold Lib.itoa
    rw [if_neg (by omega), dd_small (by omega)]
  subst hp
  have hl' : s.data.toList = UInt8.ofNat (48 + m.toNat) :: 58 :: r := hl
  have hz := size_listP s
  rw [hl'] at hz
  simp at hz
  have ha : (UInt8.ofNat (48 + m.toNat)).toNat = 48 + m.toNat := byte_toNat (by omega)
  have h0 := byte_list (s := s) (i := 0) (by omega)
  have h1 := byte_list (s := s) (i := 1) (by omega)
  rw [hl'] at h0 h1
  have e0 : s[0]'(by omega) = UInt8.ofNat (48 + m.toNat) := by simpa using h0.symm
  have e1 : s[1]'(by omega) = 58 := by simpa using h1.symm
  have hr : r.length = s.size - 2 := by omega
  have hmm : ((s[0]'(by omega)).toNat : Int) - 48 = m := by rw [e0, ha]; omega
  have hlz : liesTo s (s.size - 2) = r.map lieB := by rw [← hr]; exact lies_list hl'
  refine ⟨⟨by omega, by omega, by rw [e0, ha]; omega, by rw [e1]; rfl, ?_, by rw [hmm, hlz]; exact hst⟩, hmm.symm, hlz, hr⟩
  rw [← hr]
  refine (upTo_list hl').2 fun x hx => ?_
  rcases okB_iff.1 (hb x hx) with h | h
  · exact .inl h
  · exact .inr h.1
end Go.Proofs.YtdolonmjhlhkeabDoor
