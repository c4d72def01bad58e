/- Records as bytes: what is written, and what is read back. -/
import Derived.Test.YtpjoljaamakagabDoorSeal2
import Derived.Test.YtpjoljaamakagabDoorL12B
namespace Go.Proofs.YtpjoljaamakagabDoor
open Go.RowKit
set_option linter.unusedVariables false

theorem itoa_nat (k : Nat) : Lib.itoa (k : Int) = Lib.decDigits k := by
  unfold Lib.itoa
  rw [if_neg (by omega), Int.toNat_natCast]
theorem dig_no {k : Nat} {c : UInt8} (hc : c.toNat < 48 ∨ 57 < c.toNat) : c ∉ Lib.decDigits k := fun hm => by
  have := dd_digit hm
  omega
theorem itoa_pos_no {n : Int} (hn : 0 ≤ n) {c : UInt8} (hc : c.toNat < 48 ∨ 57 < c.toNat) : c ∉ Lib.itoa n := by
  unfold Lib.itoa
  rw [if_neg (by omega)]
  exact dig_no hc

/-- What is sealed of a record, and its encoding. -/
def txt12 (k : Nat) (e : Rec) : ByteArray := ⟨(Lib.itoa (k : Int)).toArray⟩ ++ ⟨#[32]⟩ ++ e.1 ++ ⟨#[64]⟩ ++ e.2
def enc12 (k : Nat) (e : Rec) : ByteArray := sealB (txt12 k e) ++ ⟨#[10]⟩
def body12 (k : Nat) (e : Rec) : List UInt8 := Lib.decDigits k ++ 32 :: (e.1.data.toList ++ 64 :: (e.2.data.toList ++ 35 :: Lib.itoa (cks (txt12 k e).data.toList)))
theorem txt12_list (k : Nat) (e : Rec) : (txt12 k e).data.toList = Lib.decDigits k ++ 32 :: (e.1.data.toList ++ 64 :: e.2.data.toList) := by
  unfold txt12
  rw [itoa_nat]
  simp [ByteArray.data_append]
theorem sealB_list (s : ByteArray) : (sealB s).data.toList = s.data.toList ++ 35 :: Lib.itoa (cks s.data.toList) := by
  unfold sealB
  simp [ByteArray.data_append]
theorem enc12_list (k : Nat) (e : Rec) : (enc12 k e).data.toList = body12 k e ++ [10] := by
  unfold enc12 body12
  rw [ByteArray.data_append, Array.toList_append, sealB_list]
  conv => lhs; rw [show (txt12 k e).data.toList ++ 35 :: Lib.itoa (cks (txt12 k e).data.toList) = Lib.decDigits k ++ 32 :: (e.1.data.toList ++ 64 :: e.2.data.toList) ++ 35 :: Lib.itoa (cks (txt12 k e).data.toList) from by rw [← txt12_list]]
  simp
theorem body_nl {k : Nat} {e : Rec} (h : recOK e = true) : (10 : UInt8) ∉ body12 k e := by
  obtain ⟨_, _, h1, _, _, h2⟩ := recOK_iff.1 h
  have hb := cks_bd (txt12 k e).data.toList
  have d := itoa_pos_no (n := cks (txt12 k e).data.toList) (c := 10) hb.1 (.inl (by decide))
  have d0 := dig_no (k := k) (c := 10) (.inl (by decide))
  have a := txt_no10 h1
  have b := txt_no10 h2
  unfold body12
  simp only [List.mem_append, List.mem_cons, not_or]
  exact ⟨d0, by decide, a, by decide, b, by decide, d⟩
theorem data_size (x : ByteArray) : x.data.toList.length = x.size := (Lib.size_eq x).symm
theorem enc12_size {k : Nat} {e : Rec} (hk : k < 60) (h : recOK e = true) : 1 ≤ (enc12 k e).size ∧ (enc12 k e).size ≤ 423 := by
  obtain ⟨_, h1, _, _, h2, _⟩ := recOK_iff.1 h
  have hi := itoa_cks (txt12 k e)
  have hd : (Lib.decDigits k).length ≤ 2 := dd_len 1 k (by omega)
  rw [← data_size, enc12_list]
  unfold body12
  simp only [List.length_append, List.length_cons, List.length_nil, data_size]
  omega
/-- The record that the program looks for at the head of a text. -/
def eI (s : List UInt8) : Rec := (⟨(bef 64 (aft 32 s)).toArray⟩, ⟨(bef 35 (aft 64 (aft 32 s))).toArray⟩)
theorem mk_list (x : ByteArray) : (⟨x.data.toList.toArray⟩ : ByteArray) = x := by simp
theorem eI_body {k : Nat} {e : Rec} (h : recOK e = true) (t : List UInt8) : eI (body12 k e ++ t) = e := by
  obtain ⟨_, _, h1, h0, _, h2⟩ := recOK_iff.1 h
  have d0 := dig_no (k := k) (c := 32) (.inl (by decide))
  unfold eI body12
  rw [List.append_assoc, List.cons_append, aft_append d0, List.append_assoc, List.cons_append, bef_append h0, aft_append h0, List.append_assoc, List.cons_append, bef_append (txt_no35 h2), mk_list, mk_list]
theorem eI_enc {k : Nat} {e : Rec} {s : List UInt8} (h : recOK e = true) (hp : (enc12 k e).data.toList.isPrefixOf s = true) : eI s = e := by
  obtain ⟨t, rfl⟩ := List.isPrefixOf_iff_prefix.1 hp
  rw [enc12_list, List.append_assoc]
  exact eI_body h _
/-- The record of number k at the head of a text. -/
def readR (k : Nat) (s : List UInt8) : Option Rec :=
  if decide (k < 60) && recOK (eI s) && (enc12 k (eI s)).data.toList.isPrefixOf s then some (eI s) else none
theorem readR_some {k : Nat} {s : List UInt8} {e : Rec} : readR k s = some e ↔ k < 60 ∧ recOK e = true ∧ (enc12 k e).data.toList.isPrefixOf s = true := by
  unfold readR
  constructor
  · intro h
    split at h
    · rename_i hc
      injection h with h
      subst h
      simp only [Bool.and_eq_true, decide_eq_true_eq] at hc
      exact ⟨hc.1.1, hc.1.2, hc.2⟩
    · cases h
  · rintro ⟨h1, h2, h3⟩
    rw [eI_enc h2 h3, if_pos (by simp [h1, h2, h3])]
theorem readR_late {k : Nat} {s : List UInt8} (h : 60 ≤ k) : readR k s = none := by
  cases he : readR k s with
  | none => rfl
  | some e => have := (readR_some.1 he).1; omega
theorem readR_nil {k : Nat} : readR k [] = none := by
  cases he : readR k [] with
  | none => rfl
  | some e =>
    obtain ⟨h1, h2, h3⟩ := readR_some.1 he
    have := List.isPrefixOf_iff_prefix.1 h3
    rw [enc12_list] at this
    have := this.length_le
    simp at this
theorem readR_room {k : Nat} {s : List UInt8} {e : Rec} (h : readR k s = some e) : 1 ≤ (enc12 k e).size ∧ (enc12 k e).size ≤ s.length ∧ (enc12 k e).size ≤ 423 := by
  obtain ⟨h1, h2, h3⟩ := readR_some.1 h
  have h4 := (List.isPrefixOf_iff_prefix.1 h3).length_le
  rw [data_size] at h4
  have := enc12_size h1 h2
  omega
/-- The records at the head of a text, from number k on, f at most; how many bytes they are. -/
def recsF : Nat → Nat → List UInt8 → List Rec × Nat
  | 0, _, _ => ([], 0)
  | f + 1, k, s => match readR k s with
    | none => ([], 0)
    | some e => (e :: (recsF f (k + 1) (s.drop (enc12 k e).size)).1, (enc12 k e).size + (recsF f (k + 1) (s.drop (enc12 k e).size)).2)
theorem recsF_none {f k : Nat} {s : List UInt8} (h : readR k s = none) : recsF f k s = ([], 0) := by
  cases f with
  | zero => rfl
  | succ f => show (match readR k s with | none => _ | some e => _) = _; rw [h]
theorem recsF_some {f k : Nat} {s : List UInt8} {e : Rec} (h : readR k s = some e) : recsF (f + 1) k s = (e :: (recsF f (k + 1) (s.drop (enc12 k e).size)).1, (enc12 k e).size + (recsF f (k + 1) (s.drop (enc12 k e).size)).2) := by
  show (match readR k s with | none => _ | some e => _) = _
  rw [h]
theorem recsF_bd : ∀ (f k : Nat) (s : List UInt8), (recsF f k s).1.length ≤ f ∧ (recsF f k s).2 ≤ s.length
  | 0, _, s => ⟨Nat.le_refl _, Nat.zero_le _⟩
  | f + 1, k, s => by
    cases h : readR k s with
    | none => rw [recsF_none h]; simp
    | some e =>
      rw [recsF_some h]
      have ih := recsF_bd f (k + 1) (s.drop (enc12 k e).size)
      have hr := readR_room h
      simp only [List.length_cons, List.length_drop] at ih ⊢
      omega
/-- All of the records at the head of a text. -/
def recs12 (s : List UInt8) : List Rec × Nat := recsF 60 0 s
theorem recs12_bd (s : List UInt8) : (recs12 s).1.length ≤ 60 ∧ (recs12 s).2 ≤ s.length := recsF_bd 60 0 s
theorem recsF_ok : ∀ (f k : Nat) (s : List UInt8), ∀ e ∈ (recsF f k s).1, recOK e = true
  | 0, _, s => fun e h => by cases h
  | f + 1, k, s => by
    cases h : readR k s with
    | none => rw [recsF_none h]; intro e h; cases h
    | some e0 =>
      rw [recsF_some h]
      intro e he
      rcases List.mem_cons.1 he with rfl | he
      · exact (readR_some.1 h).2.1
      · exact recsF_ok f (k + 1) _ e he
/-- While reading: what is read, and the rest. -/
structure Reading (s : List UInt8) (pre : List Rec) (rd : Nat) : Prop where
  le : rd ≤ s.length
  short : pre.length ≤ 60
  all : recs12 s = (pre ++ (recsF (60 - pre.length) pre.length (s.drop rd)).1, rd + (recsF (60 - pre.length) pre.length (s.drop rd)).2)
theorem Reading.start (s : List UInt8) : Reading s [] 0 := ⟨Nat.zero_le _, by simp, by simp [recs12]⟩
theorem Reading.next {s : List UInt8} {pre : List Rec} {rd : Nat} {e : Rec} (h : Reading s pre rd) (he : readR pre.length (s.drop rd) = some e) : Reading s (pre ++ [e]) (rd + (enc12 pre.length e).size) := by
  have hk := (readR_some.1 he).1
  have hr := readR_room he
  rw [List.length_drop] at hr
  refine ⟨by have := h.le; omega, by simp; omega, ?_⟩
  rw [h.all, show 60 - pre.length = (60 - (pre.length + 1)) + 1 by omega, recsF_some he, List.drop_drop]
  simp [Nat.add_assoc]
theorem Reading.stop {s : List UInt8} {pre : List Rec} {rd : Nat} (h : Reading s pre rd) (he : readR pre.length (s.drop rd) = none) : recs12 s = (pre, rd) := by
  rw [h.all, recsF_none he]
  simp
theorem Reading.full {s : List UInt8} {pre : List Rec} {rd : Nat} (h : Reading s pre rd) (hl : 60 ≤ pre.length) : recs12 s = (pre, rd) := h.stop (readR_late hl)

/-- What the specification decodes of a line. -/
def eS (k : Nat) (line : List UInt8) : Option Rec :=
  let text := bef 35 line
  let rest := text.drop ((Lib.decDigits k).length + 1)
  let ask := bef 64 rest
  let e : Rec := (⟨ask.toArray⟩, ⟨(rest.drop (ask.length + 1)).toArray⟩)
  if (Lib.decDigits k ++ [32]).isPrefixOf text && decide (ask.length ≠ rest.length) && recOK e && decide ((enc12 k e).data.toList = line ++ [10]) then some e else none
theorem eS_body {k : Nat} {e : Rec} (h : recOK e = true) : eS k (body12 k e) = some e := by
  obtain ⟨_, _, h1, h0, _, h2⟩ := recOK_iff.1 h
  have d0 := dig_no (k := k) (c := 35) (.inl (by decide))
  have ht : bef 35 (body12 k e) = Lib.decDigits k ++ 32 :: (e.1.data.toList ++ 64 :: e.2.data.toList) := by
    unfold body12
    rw [show Lib.decDigits k ++ 32 :: (e.1.data.toList ++ 64 :: (e.2.data.toList ++ 35 :: Lib.itoa (cks (txt12 k e).data.toList))) = (Lib.decDigits k ++ 32 :: (e.1.data.toList ++ 64 :: e.2.data.toList)) ++ 35 :: Lib.itoa (cks (txt12 k e).data.toList) by simp]
    apply bef_append
    have a := txt_no35 h1
    have b := txt_no35 h2
    simp only [List.mem_append, List.mem_cons, not_or]
    exact ⟨d0, by decide, a, by decide, b⟩
  have hr : (bef 35 (body12 k e)).drop ((Lib.decDigits k).length + 1) = e.1.data.toList ++ 64 :: e.2.data.toList := by
    rw [ht, show Lib.decDigits k ++ 32 :: (e.1.data.toList ++ 64 :: e.2.data.toList) = (Lib.decDigits k ++ [32]) ++ (e.1.data.toList ++ 64 :: e.2.data.toList) by simp, List.drop_left' (by simp)]
  have hp : (Lib.decDigits k ++ [32]).isPrefixOf (bef 35 (body12 k e)) = true := by
    rw [ht, List.isPrefixOf_iff_prefix]
    exact ⟨e.1.data.toList ++ 64 :: e.2.data.toList, by simp⟩
  have hd : (e.1.data.toList ++ 64 :: e.2.data.toList).drop (e.1.data.toList.length + 1) = e.2.data.toList := by
    rw [show e.1.data.toList ++ 64 :: e.2.data.toList = (e.1.data.toList ++ [64]) ++ e.2.data.toList by simp, List.drop_left' (by simp)]
  unfold eS
  simp only []
  rw [hr, hp, bef_append h0, hd, mk_list, mk_list, if_pos]
  have hl : e.1.data.toList.length ≠ (e.1.data.toList ++ 64 :: e.2.data.toList).length := by simp
  simp [h, enc12_list]
theorem eS_some {k : Nat} {line : List UInt8} {e : Rec} (h : eS k line = some e) : recOK e = true ∧ (enc12 k e).data.toList = line ++ [10] := by
  unfold eS at h
  simp only [] at h
  split at h
  · rename_i hc
    injection h with h
    subst h
    simp only [Bool.and_eq_true, decide_eq_true_eq] at hc
    exact ⟨hc.1.2, hc.2⟩
  · cases h
theorem read_eS {k : Nat} {s : List UInt8} {e : Rec} (h : readR k s = some e) : (10 : UInt8) ∈ s ∧ eS k (bef 10 s) = some e ∧ (bef 10 s).length + 1 = (enc12 k e).size := by
  obtain ⟨h1, h2, h3⟩ := readR_some.1 h
  obtain ⟨t, rfl⟩ := List.isPrefixOf_iff_prefix.1 h3
  have hb : bef 10 ((enc12 k e).data.toList ++ t) = body12 k e := by
    rw [enc12_list, List.append_assoc, List.singleton_append]
    exact bef_append (body_nl h2)
  rw [hb]
  refine ⟨by rw [enc12_list]; simp, eS_body h2, ?_⟩
  rw [← data_size, enc12_list]
  simp
theorem eS_read {k : Nat} {s : List UInt8} {e : Rec} (hk : k < 60) (hm : (10 : UInt8) ∈ s) (h : eS k (bef 10 s) = some e) : readR k s = some e := by
  obtain ⟨h1, h2⟩ := eS_some h
  refine readR_some.2 ⟨hk, h1, ?_⟩
  rw [h2, List.isPrefixOf_iff_prefix]
  refine ⟨aft 10 s, ?_⟩
  rw [List.append_assoc, List.singleton_append]
  exact (split_at hm).symm
/-- Is a log valid. -/
def logOK (d p : ByteArray) (n : Int) : Bool :=
  decide (d.size + p.size ≤ 30000) && (decide ((recs12 (d.data.toList ++ p.data.toList)).2 = d.size + p.size) && decide ((recs12 d.data.toList).2 = d.size) && decide ((((recs12 (d.data.toList ++ p.data.toList)).1.length : Nat) : Int) = n))
theorem logOK_iff {d p : ByteArray} {n : Int} : logOK d p n = true ↔ d.size + p.size ≤ 30000 ∧ (recs12 (d.data.toList ++ p.data.toList)).2 = d.size + p.size ∧ (recs12 d.data.toList).2 = d.size ∧ (((recs12 (d.data.toList ++ p.data.toList)).1.length : Nat) : Int) = n := by
  unfold logOK
  simp only [Bool.and_eq_true, decide_eq_true_eq]
  constructor
  · rintro ⟨a, ⟨b, c⟩, d⟩; exact ⟨a, b, c, d⟩
  · rintro ⟨a, b, c, d⟩; exact ⟨a, ⟨b, c⟩, d⟩
/-- The parts of a text: the first one, and whether there is a second. -/
theorem extract_head (s : ByteArray) (k : Nat) : (s.extract 0 k).data.toList = s.data.toList.take k := by
  simp [ByteArray.data_extract]
theorem cutAt_head (s : ByteArray) (b : UInt8) : ∀ k, k ≤ s.size → (b ∉ s.data.toList.take k → cutAt s b k = ([], 0)) ∧ (b ∈ s.data.toList.take k → (cutAt s b k).1.head? = some ⟨(bef b s.data.toList).toArray⟩)
  | 0, _ => ⟨fun _ => rfl, fun h => by simp at h⟩
  | k + 1, hk => by
    obtain ⟨ih1, ih2⟩ := cutAt_head s b k (by omega)
    have hkl : k < s.data.toList.length := by rw [data_size]; omega
    have htk : s.data.toList.take (k + 1) = s.data.toList.take k ++ [s.data.toList[k]] := List.take_succ_eq_append_getElem hkl
    have hgk : s.data.toList[k]? = some s.data.toList[k] := List.getElem?_eq_getElem hkl
    have hun : cutAt s b (k + 1) = if s.data.toList[k]? = some b then ((cutAt s b k).1 ++ [s.extract (cutAt s b k).2 k], k + 1) else cutAt s b k := rfl
    rw [hun, htk, hgk]
    by_cases e : s.data.toList[k] = b
    · rw [if_pos (by rw [e])]
      refine ⟨fun h => absurd (by rw [e]; simp) h, fun _ => ?_⟩
      by_cases hm : b ∈ s.data.toList.take k
      · have := ih2 hm
        rw [List.head?_append, this]
        rfl
      · rw [ih1 hm]
        have hs : s.data.toList = s.data.toList.take k ++ b :: s.data.toList.drop (k + 1) := by
          conv => lhs; rw [← List.take_append_drop k s.data.toList, List.drop_eq_getElem_cons hkl, e]
        have hbf : bef b s.data.toList = s.data.toList.take k := by
          conv => lhs; rw [hs]
          exact bef_append hm
        rw [hbf, ← extract_head, mk_list]
        rfl
    · rw [if_neg (by intro h; injection h with h; exact e h)]
      refine ⟨fun h => ih1 (fun hm => h (by simp [hm])), fun h => ih2 ?_⟩
      simp only [List.mem_append, List.mem_singleton] at h
      rcases h with h | h
      · exact h
      · exact absurd h.symm e
theorem parts_head (s : ByteArray) (b : UInt8) : (parts s b)[0]? = some ⟨(bef b s.data.toList).toArray⟩ ∧ (2 ≤ (parts s b).length ↔ b ∈ s.data.toList) := by
  obtain ⟨h1, h2⟩ := cutAt_head s b s.size (Nat.le_refl _)
  have hall : s.data.toList.take s.size = s.data.toList := List.take_of_length_le (by rw [data_size]; exact Nat.le_refl _)
  rw [hall] at h1 h2
  unfold parts
  by_cases hm : b ∈ s.data.toList
  · have h3 := h2 hm
    cases hc : (cutAt s b s.size).1 with
    | nil => rw [hc] at h3; cases h3
    | cons x l =>
      rw [hc] at h3
      have hx : x = ⟨(bef b s.data.toList).toArray⟩ := by simpa using h3
      subst hx
      exact ⟨rfl, fun _ => hm, fun _ => by simp <;> omega⟩
  · rw [h1 hm]
    refine ⟨?_, fun h => absurd h (by simp), fun h => absurd h hm⟩
    have : s.extract 0 s.size = ⟨(bef b s.data.toList).toArray⟩ := by
      rw [bef_none hm, mk_list]
      simp
    rw [← this]
    rfl
end Go.Proofs.YtpjoljaamakagabDoor
