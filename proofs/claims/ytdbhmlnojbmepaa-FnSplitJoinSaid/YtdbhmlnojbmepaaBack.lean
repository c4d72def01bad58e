/- What the law on splitting and joining rests on: the parts of a text, joined, are the text; a text is not less than one that is less than it. -/
import Derived.Test.YtdbhmlnojbmepaaSplit
import Derived.Test.YtdbhmlnojbmepaaJoin
import Derived.Sort.Walk0
namespace Go.Proofs.Ytdbhmlnojbmepaa
open Go.RowKit
set_option linter.unusedVariables false

theorem less_asymm (a b : List UInt8) : Op.bytesLess a b = true → Op.bytesLess b a = false := by
  induction a generalizing b with
  | nil => intro h; cases b <;> simp [Op.bytesLess] at h ⊢
  | cons x a ih =>
    cases b with
    | nil => intro h; simp [Op.bytesLess] at h
    | cons y b =>
      intro h
      simp only [Op.bytesLess, Bool.or_eq_true, decide_eq_true_eq, Bool.and_eq_true, beq_iff_eq] at h
      simp only [Op.bytesLess, Bool.or_eq_false_iff, decide_eq_false_iff_not, Bool.and_eq_false_iff]
      rcases h with h | ⟨rfl, h⟩
      · exact ⟨fun h2 => by rw [UInt8.lt_iff_toNat_lt] at h h2; omega, .inl (by rw [beq_eq_false_iff_ne]; rintro rfl; rw [UInt8.lt_iff_toNat_lt] at h; omega)⟩
      · exact ⟨fun h2 => by rw [UInt8.lt_iff_toNat_lt] at h2; omega, .inr (ih b h)⟩

theorem join_snoc (sep : List UInt8) (xs : List (List UInt8)) (x : List UInt8) : Lib.join (xs ++ [x]) sep = (xs.map (· ++ sep)).flatten ++ x := by
  induction xs with
  | nil => simp [Lib.join_one]
  | cons y r ih =>
    cases r with
    | nil => simp [Lib.join_cons, Lib.joinTail]
    | cons z r =>
      rw [List.cons_append, List.cons_append, Lib.join_cons]
      rw [List.cons_append, Lib.join_cons] at ih
      rw [List.map_cons, List.flatten_cons, List.append_assoc, ← ih]
      simp [Lib.joinTail, List.append_assoc]

/-- What holds ahead of place k: the parts with their ends are the text so far, and the byte stands in none of them, nor behind them. -/
def CutOk (s : ByteArray) (c : UInt8) (k : Nat) : Prop :=
  (((cutAt s c k).1.map (fun x => x.data.toList ++ [c])).flatten = s.data.toList.take (cutAt s c k).2) ∧ (cutAt s c k).2 ≤ k ∧
  (∀ x ∈ (cutAt s c k).1, hasC x c = false) ∧ ∀ j, (cutAt s c k).2 ≤ j → j < k → s.data.toList[j]? ≠ some c
theorem extract_list (s : ByteArray) (f k : Nat) (h : k ≤ s.size) : (s.extract f k).data.toList = (s.data.toList.drop f).take (k - f) := by
  simp [ByteArray.data_extract, List.extract_eq_take_drop]
theorem noC_extract {s : ByteArray} {c : UInt8} {f k : Nat} (hk : k ≤ s.size) (h : ∀ j, f ≤ j → j < k → s.data.toList[j]? ≠ some c) : hasC (s.extract f k) c = false := by
  unfold hasC
  rw [Bool.eq_false_iff]
  intro hc
  rw [List.contains_iff_mem, extract_list s f k hk] at hc
  obtain ⟨j, hj, e⟩ := List.getElem_of_mem hc
  have hj2 : j < k - f := by simp at hj; omega
  have h2 : ((s.data.toList.drop f).take (k - f))[j]? = some c := by rw [List.getElem?_eq_getElem hj, e]
  rw [List.getElem?_take_of_lt hj2, List.getElem?_drop] at h2
  exact h (f + j) (by omega) (by omega) h2
theorem cut_ok (s : ByteArray) (c : UInt8) : ∀ k, k ≤ s.size → CutOk s c k
  | 0, _ => ⟨by simp [cutAt], Nat.le_refl _, by simp [cutAt], fun j _ h => absurd h (by omega)⟩
  | k + 1, h => by
    obtain ⟨h1, h2, h3, h4⟩ := cut_ok s c k (by omega)
    have hk : k < s.data.toList.length := by rw [← Lib.size_eq]; omega
    by_cases e : s.data.toList[k]? = some c
    · have e1 : cutAt s c (k + 1) = ((cutAt s c k).1 ++ [s.extract (cutAt s c k).2 k], k + 1) := by
        show (if s.data.toList[k]? = some c then _ else _) = _
        rw [if_pos e]
      unfold CutOk
      rw [e1]
      refine ⟨?_, Nat.le_refl _, fun x hx => ?_, fun j a b => absurd b (by simp at a; omega)⟩
      · simp only [List.map_append, List.flatten_append, List.map_cons, List.map_nil, List.flatten_cons, List.flatten_nil, List.append_nil]
        rw [h1, extract_list s _ k (by omega)]
        have e2 : s.data.toList.take (k + 1) = s.data.toList.take k ++ [c] := by
          rw [List.take_add_one, e]; rfl
        rw [e2, ← List.append_assoc, List.append_left_inj]
        have e3 : s.data.toList.take k = s.data.toList.take ((cutAt s c k).2 + (k - (cutAt s c k).2)) := by congr 1; omega
        rw [e3, List.take_add]
      · rcases List.mem_append.1 hx with hx | hx
        · exact h3 x hx
        · rw [List.mem_singleton.1 hx]
          exact noC_extract (by omega) h4
    · have e1 : cutAt s c (k + 1) = cutAt s c k := by
        show (if s.data.toList[k]? = some c then _ else _) = _
        rw [if_neg e]
      unfold CutOk
      rw [e1]
      refine ⟨h1, by omega, h3, fun j a b => ?_⟩
      rcases Nat.lt_or_ge j k with hj | hj
      · exact h4 j a hj
      · rw [show j = k from by omega]; exact e
theorem parts_back (s : ByteArray) (c : UInt8) : Lib.join (lts (parts s c)) [c] = s.data.toList := by
  obtain ⟨h1, h2, h3, h4⟩ := cut_ok s c s.size (Nat.le_refl _)
  unfold parts lts
  rw [List.map_append, List.map_cons, List.map_nil, join_snoc, List.map_map]
  rw [show ((fun x => x ++ [c]) ∘ fun (x : ByteArray) => x.data.toList) = fun (x : ByteArray) => x.data.toList ++ [c] from rfl, h1, extract_list s _ _ (Nat.le_refl _)]
  have hz : s.data.toList.length = s.size := (Lib.size_eq s).symm
  rw [← List.take_add, show (cutAt s c s.size).2 + (s.size - (cutAt s c s.size).2) = s.data.toList.length from by omega, List.take_length]
theorem parts_noC (s : ByteArray) (c : UInt8) : anyC (parts s c) c = false := by
  obtain ⟨h1, h2, h3, h4⟩ := cut_ok s c s.size (Nat.le_refl _)
  unfold anyC
  rw [List.any_eq_false]
  intro x hx
  unfold parts at hx
  rcases List.mem_append.1 hx with hx | hx
  · rw [h3 x hx]; decide
  · rw [List.mem_singleton.1 hx, noC_extract (Nat.le_refl _) h4]; decide
theorem sep_list {sep : ByteArray} (h : sep.size = 1) : sep.data.toList = [sep[0]'(by omega)] := by
  have hl : sep.data.toList.length = 1 := by rw [← Lib.size_eq]; exact h
  obtain ⟨x, hx⟩ := List.length_eq_one_iff.1 hl
  have h0 : sep.data.toList[0]? = some (sep[0]'(by omega)) := List.getElem?_eq_getElem (by omega)
  rw [hx] at h0 ⊢
  injection h0 with h0
  rw [h0]
theorem parts_letters (s : ByteArray) (sep : ByteArray) (h : sep.size = 1) : (parts s (sep[0]'(by omega))).length - 1 + letters (parts s (sep[0]'(by omega))) = s.size := by
  have hne : parts s (sep[0]'(by omega)) ≠ [] := by
    intro e
    have := (parts_len s (sep[0]'(by omega))).1
    rw [e] at this
    simp at this
  have h1 := join_len hne sep
  rw [sep_list h, parts_back, ← Lib.size_eq] at h1
  generalize (parts s (sep[0]'(by omega))).length - 1 = m at h1 ⊢
  have h2 : sep.size * m = m := by rw [h, Nat.one_mul]
  omega
theorem parts_join (s : ByteArray) (sep : ByteArray) (h : sep.size = 1) (hs : s.size ≤ 4000) : joinAns (parts s (sep[0]'(by omega))) sep = some s.data.toList := by
  have hl := parts_letters s sep h
  rw [joinAns_yes h ?_ ?_ (parts_noC s _), sep_list h, parts_back]
  · intro e
    have := (parts_len s (sep[0]'(by omega))).1
    rw [e] at this
    simp at this
  · unfold fits
    rw [decide_eq_true_eq]
    omega
end Go.Proofs.Ytdbhmlnojbmepaa
