/- Bytes that a record may hold; texts cut at a byte. -/
import Derived.Test.YtpjoljaamakagabDoorIdx12
namespace Go.Proofs.YtpjoljaamakagabDoor
open Go.RowKit
set_option linter.unusedVariables false

/-- The bytes ahead of the first c, and those behind it. -/
def bef (c : UInt8) (l : List UInt8) : List UInt8 := l.takeWhile (fun x => !(x == c))
def aft (c : UInt8) (l : List UInt8) : List UInt8 := (l.dropWhile (fun x => !(x == c))).drop 1
theorem bef_append {c : UInt8} {b : List UInt8} : ∀ {a : List UInt8}, c ∉ a → bef c (a ++ c :: b) = a
  | [], _ => by simp [bef]
  | x :: a, h => by
    have hx : (x == c) = false := by rw [beq_eq_false_iff_ne]; exact fun e => h (by rw [e]; exact List.mem_cons_self ..)
    have ih := bef_append (b := b) (fun hm => h (List.mem_cons_of_mem x hm))
    unfold bef at ih ⊢
    rw [List.cons_append, List.takeWhile_cons, hx]
    show x :: _ = _
    rw [ih]
theorem aft_append {c : UInt8} {b : List UInt8} : ∀ {a : List UInt8}, c ∉ a → aft c (a ++ c :: b) = b
  | [], _ => by simp [aft]
  | x :: a, h => by
    have hx : (x == c) = false := by rw [beq_eq_false_iff_ne]; exact fun e => h (by rw [e]; exact List.mem_cons_self ..)
    have ih := aft_append (b := b) (fun hm => h (List.mem_cons_of_mem x hm))
    unfold aft at ih ⊢
    rw [List.cons_append, List.dropWhile_cons, hx]
    exact ih
theorem bef_none {c : UInt8} {l : List UInt8} (h : c ∉ l) : bef c l = l := takeWhile_none h
theorem aft_none {c : UInt8} {l : List UInt8} (h : c ∉ l) : aft c l = [] := by
  have e : l.dropWhile (fun x => !(x == c)) = [] := by
    have h1 := takeWhile_none h
    have h2 := List.takeWhile_append_dropWhile (p := fun x => !(x == c)) (l := l)
    rw [h1] at h2
    simpa using h2
  unfold aft
  rw [e]
  rfl
theorem split_at {c : UInt8} {l : List UInt8} (h : c ∈ l) : l = bef c l ++ c :: aft c l := by
  induction l with
  | nil => cases h
  | cons x l ih =>
    by_cases e : x = c
    · subst e; simp [bef, aft]
    · have hx : (x == c) = false := by rw [beq_eq_false_iff_ne]; exact e
      have hm : c ∈ l := by
        rcases List.mem_cons.1 h with h | h
        · exact absurd h.symm e
        · exact h
      have ih' := ih hm
      unfold bef aft at ih' ⊢
      rw [List.takeWhile_cons, List.dropWhile_cons, hx]
      simp only [Bool.not_false, if_true, List.cons_append]
      rw [← ih']
theorem bef_free (c : UInt8) : ∀ l : List UInt8, c ∉ bef c l
  | [] => by simp [bef]
  | x :: l => by
    have ih := bef_free c l
    unfold bef at ih ⊢
    rw [List.takeWhile_cons]
    by_cases e : x = c
    · subst e; simp
    · have hx : (x == c) = false := by rw [beq_eq_false_iff_ne]; exact e
      rw [hx]
      simp only [Bool.not_false, if_true, List.mem_cons, not_or]
      exact ⟨fun h => e h.symm, ih⟩
theorem drop_behind {c : UInt8} {l b a : List UInt8} (e : l = b ++ c :: a) : l.drop (b.length + 1) = a := by
  rw [e, show b ++ c :: a = (b ++ [c]) ++ a by simp, List.drop_left' (by simp)]
/-- strings.Cut at one byte. -/
theorem cut_bef (l : List UInt8) (c : UInt8) : (Lib.cut l [c]).1 = bef c l := cut_one l c
theorem cut_aft (l : List UInt8) (c : UInt8) : (Lib.cut l [c]).2.1 = aft c l := by
  unfold Lib.cut
  by_cases h : 0 ≤ Lib.index l [c]
  · rw [if_pos h]
    have hm := (index_one c l).1.1 h
    have h1 := (index_one c l).2 hm
    show l.drop ((Lib.index l [c]).toNat + 1) = aft c l
    have h2 := split_at hm
    have hb : l.take (Lib.index l [c]).toNat = bef c l := h1
    have hlen : (Lib.index l [c]).toNat ≤ l.length := by
      rcases Nat.lt_or_ge l.length (Lib.index l [c]).toNat with h3 | h3
      · rw [List.take_of_length_le (by omega)] at hb
        exact absurd (hb ▸ hm : c ∈ bef c l) (bef_free c l)
      · exact h3
    have hl : (bef c l).length = (Lib.index l [c]).toNat := by rw [← hb, List.length_take]; omega
    have h4 := drop_behind h2
    rw [← hl]
    exact h4
  · rw [if_neg h]
    exact (aft_none (fun hm => h ((index_one c l).1.2 hm))).symm

/-- A byte that a record may hold; a text of such bytes; a record. -/
def okB (c : UInt8) : Bool := decide (32 ≤ c.toNat) && decide (c.toNat ≤ 126) && !(c == 35)
def txtOK (l : List UInt8) : Bool := l.all okB
abbrev Rec := ByteArray × ByteArray
def recOK (e : Rec) : Bool := (decide (1 ≤ e.1.size) && decide (e.1.size ≤ 160) && txtOK e.1.data.toList && !hasC e.1 64) && (decide (e.2.size ≤ 250) && txtOK e.2.data.toList)
theorem recOK_iff {e : Rec} : recOK e = true ↔ 1 ≤ e.1.size ∧ e.1.size ≤ 160 ∧ txtOK e.1.data.toList = true ∧ (64 : UInt8) ∉ e.1.data.toList ∧ e.2.size ≤ 250 ∧ txtOK e.2.data.toList = true := by
  unfold recOK hasC
  simp only [Bool.and_eq_true, decide_eq_true_eq, Bool.not_eq_true', List.contains_eq_mem, decide_eq_false_iff_not]
  constructor
  · rintro ⟨⟨⟨⟨a, b⟩, c⟩, d⟩, e, f⟩; exact ⟨a, b, c, d, e, f⟩
  · rintro ⟨a, b, c, d, e, f⟩; exact ⟨⟨⟨⟨a, b⟩, c⟩, d⟩, e, f⟩
theorem txtOK_mem {l : List UInt8} (h : txtOK l = true) {c : UInt8} (hc : c ∈ l) : 32 ≤ c.toNat ∧ c.toNat ≤ 126 ∧ c ≠ 35 := by
  have := List.all_eq_true.1 h c hc
  unfold okB at this
  simp only [Bool.and_eq_true, decide_eq_true_eq, Bool.not_eq_true', beq_eq_false_iff_ne] at this
  exact ⟨this.1.1, this.1.2, this.2⟩
theorem txt_no10 {l : List UInt8} (h : txtOK l = true) : (10 : UInt8) ∉ l := fun hm => by
  have := (txtOK_mem h hm).1
  simp at this
theorem txt_no35 {l : List UInt8} (h : txtOK l = true) : (35 : UInt8) ∉ l := fun hm => (txtOK_mem h hm).2.2 rfl

end Go.Proofs.YtpjoljaamakagabDoor
