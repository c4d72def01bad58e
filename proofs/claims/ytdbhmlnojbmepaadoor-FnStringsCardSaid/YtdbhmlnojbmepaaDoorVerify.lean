/- VerifyChecksum: what the program's and the model's functions compute. -/
import Derived.Test.YtdbhmlnojbmepaaDoorSeal
import Derived.Deep.AppendLies
namespace Go.Proofs.YtdbhmlnojbmepaaDoor
open Go.RowKit
set_option linter.unusedVariables false

/-- What stands before the first sign. -/
def front (s : ByteArray) : ByteArray := ⟨(s.data.toList.takeWhile (fun x => !(x == 35))).toArray⟩
theorem front_list (s : ByteArray) : (front s).data.toList = s.data.toList.takeWhile (fun x => !(x == 35)) := by simp [front]
theorem front_has (s : ByteArray) : hasC (front s) 35 = false := by
  unfold hasC
  rw [front_list, Bool.eq_false_iff]
  intro h
  rw [List.contains_iff_mem] at h
  have key : ∀ l : List UInt8, (35 : UInt8) ∈ l.takeWhile (fun x => !(x == 35)) → False := by
    intro l
    induction l with
    | nil => simp
    | cons b r ih =>
      rw [List.takeWhile_cons]
      split
      · rename_i hb
        intro h
        rcases List.mem_cons.1 h with e | h
        · rw [← e] at hb; simp at hb
        · exact ih h
      · simp
  exact key _ h
theorem takeWhile_le (p : UInt8 → Bool) : ∀ l : List UInt8, (l.takeWhile p).length ≤ l.length
  | [] => Nat.le_refl _
  | b :: l => by
    rw [List.takeWhile_cons]
    split
    · have := takeWhile_le p l; simp; omega
    · simp
theorem front_size (s : ByteArray) : (front s).size ≤ s.size := by
  rw [Lib.size_eq, Lib.size_eq, front_list]
  exact takeWhile_le _ _
theorem takeWhile_at {c : UInt8} : ∀ {l : List UInt8} {k : Nat}, l[k]? = some c → (∀ j, j < k → l[j]? ≠ some c) → l.takeWhile (fun x => !(x == c)) = l.take k
  | [], k, h, _ => by simp at h
  | b :: l, 0, h, _ => by
    simp at h
    subst h
    simp
  | b :: l, k + 1, h, hn => by
    have hb : (b == c) = false := by
      rw [beq_eq_false_iff_ne]
      intro e
      exact hn 0 (by omega) (by simp [e])
    rw [List.takeWhile_cons, hb, List.take_succ_cons]
    show b :: _ = _
    rw [takeWhile_at (l := l) (k := k) (by simpa using h) (fun j hj => by have := hn (j + 1) (by omega); simpa using this)]
theorem extract_take (s : ByteArray) (k : Nat) : (s.extract 0 k).data.toList = s.data.toList.take k := by
  rw [Lib.extract_data]; simp
/-- The first part, or none is whole yet. -/
theorem cutAt_first (s : ByteArray) (c : UInt8) : ∀ k, k ≤ s.size →
    ((cutAt s c k).1 = [] ∧ (cutAt s c k).2 = 0 ∧ ∀ j, j < k → s.data.toList[j]? ≠ some c) ∨ (∃ h r, (cutAt s c k).1 = h :: r ∧ h.data.toList = s.data.toList.takeWhile (fun x => !(x == c)))
  | 0, _ => .inl ⟨rfl, rfl, fun j hj => absurd hj (by omega)⟩
  | k + 1, hk => by
    have hlt : k < s.size := by omega
    have hget : s.data.toList[k]? = some s[k] := by rw [List.getElem?_eq_getElem (by rw [← Lib.size_eq]; exact hlt)]; rfl
    rcases cutAt_first s c k (by omega) with ⟨h1, h2, h3⟩ | ⟨h, r, h1, h2⟩
    · by_cases he : s[k] = c
      · refine .inr ⟨s.extract 0 k, [], ?_, ?_⟩
        · rw [cutAt_hit hlt he, h1, h2]; rfl
        · rw [extract_take, takeWhile_at (k := k) (by rw [hget, he]) h3]
      · refine .inl ?_
        rw [cutAt_miss hlt he]
        refine ⟨h1, h2, fun j hj => ?_⟩
        rcases Nat.lt_succ_iff_lt_or_eq.1 hj with h | rfl
        · exact h3 j h
        · rw [hget]
          intro e
          injection e with e
          exact he e
    · refine .inr ?_
      by_cases he : s[k] = c
      · rw [cutAt_hit hlt he, h1]
        exact ⟨h, _, rfl, h2⟩
      · rw [cutAt_miss hlt he]
        exact ⟨h, r, h1, h2⟩
theorem text_ext {a b : ByteArray} (h : a.data.toList = b.data.toList) : a = b := by
  rw [← Lib.mk_data a, ← Lib.mk_data b, h]
theorem parts_first (s : ByteArray) : ∃ r, parts s 35 = front s :: r := by
  rcases cutAt_first s 35 s.size (Nat.le_refl _) with ⟨h1, h2, h3⟩ | ⟨h, r, h1, h2⟩
  · refine ⟨[], ?_⟩
    unfold parts
    rw [h1, h2]
    have e : s.extract 0 s.size = front s := text_ext (by
      rw [extract_take, front_list, takeWhile_none (fun hm => by
        obtain ⟨j, hj⟩ := List.getElem?_of_mem hm
        have hjl : j < s.size := by
          rw [Lib.size_eq]
          rcases Nat.lt_or_ge j s.data.toList.length with h | h
          · exact h
          · rw [List.getElem?_eq_none h] at hj; cases hj
        exact h3 j hjl hj)]
      rw [List.take_of_length_le (by rw [← Lib.size_eq]; exact Nat.le_refl _)])
    rw [e]
    rfl
  · refine ⟨r ++ [s.extract (cutAt s 35 s.size).2 s.size], ?_⟩
    unfold parts
    rw [h1, text_ext (h2.trans (front_list s).symm)]
    rfl

/-- What VerifyChecksum answers. -/
def vAns (s : ByteArray) : Option ByteArray := if s.size ≤ 4000 ∧ sealB (front s) = s then some (front s) else none
theorem vAns_yes {s : ByteArray} (h1 : s.size ≤ 4000) (h2 : sealB (front s) = s) : vAns s = some (front s) := if_pos ⟨h1, h2⟩
theorem vAns_no1 {s : ByteArray} (h : 4000 < s.size) : vAns s = none := if_neg (fun ⟨h1, _⟩ => by omega)
theorem vAns_no2 {s : ByteArray} (h : sealB (front s) ≠ s) : vAns s = none := if_neg (fun ⟨_, h1⟩ => h h1)
theorem toList_ne {t s : ByteArray} (h : t ≠ s) : (t.toList == s.toList) = false := by
  rw [beq_eq_false_iff_ne, Lib.toList_data, Lib.toList_data]
  exact fun e => h (text_ext e)

set_option maxHeartbeats 1000000 in
theorem verify_spec (s : ByteArray) (w : World) (hs : s.size ≤ 1048576) :
    Calls Tryd.prog 20 #[.string s] w (OptB w (vAns s)) := by
  by_cases h1 : s.size ≤ 4000
  · have CE := Lib.hid (fun W => l1Seal_any (front s) W (Nat.le_trans (front_size s) hs))
    have C := l1Split_any s 35 w hs
    obtain ⟨r, hr⟩ := parts_first s
    rw [hr] at C
    have CP := Lib.hid C
    clear C hr
    by_cases h2 : sealB (front s) = s
    · rw [vAns_yes h1 h2]
      have HE := Lib.hid h2
      clear h2
      generalize front s = t at CE CP HE ⊢
      go_enter Tryd.func20, Tryd.ntmps20
      go_wp2_with fail
      refine CP.out.mono ?_
      rintro e w1 ⟨v, rfl, hown, hb⟩
      obtain ⟨g, cap, rfl⟩ := ownsRow_succ hown
      have hc : w1.cell? ⟨g, 0, none⟩ = some (.string t) := by
        have := hown.cellAt 0 (by simp)
        simpa using this
      have hz : 0 < (t :: r).length := by simp
      have HB := Lib.hid hb
      clear hb hown
      go_wp2_with fail
      refine (CE.out w1).mono ?_
      rintro e w2 ⟨rfl, hd⟩
      have HD := Lib.hid (below_trans HB.out (hd.below _))
      clear hd
      rw [HE.out]
      go_wp2_with fail
      go_ret2
      exact ⟨rfl, HD.out⟩
    · rw [vAns_no2 h2]
      have hne := toList_ne h2
      clear h2
      generalize front s = t at CE CP hne ⊢
      generalize sealB t = y at CE hne ⊢
      go_enter Tryd.func20, Tryd.ntmps20
      go_wp2_with fail
      refine CP.out.mono ?_
      rintro e w1 ⟨v, rfl, hown, hb⟩
      obtain ⟨g, cap, rfl⟩ := ownsRow_succ hown
      have hc : w1.cell? ⟨g, 0, none⟩ = some (.string t) := by
        have := hown.cellAt 0 (by simp)
        simpa using this
      have hz : 0 < (t :: r).length := by simp
      have HB := Lib.hid hb
      clear hb hown
      go_wp2_with fail
      refine (CE.out w1).mono ?_
      rintro e w2 ⟨rfl, hd⟩
      have HD := Lib.hid (below_trans HB.out (hd.below _))
      clear hd
      go_wp2_with fail
      go_ret2
      exact ⟨rfl, HD.out⟩
  · rw [vAns_no1 (by omega)]
    go_enter Tryd.func20, Tryd.ntmps20
    go_wp2_with fail
    go_ret2
    exact ⟨rfl, Below.refl _ _⟩

set_option maxHeartbeats 1000000 in
theorem verify_impl (s : ByteArray) (w : World) (hs : s.size ≤ 1048576) (hP : Pow w) (hM : MaxL w) :
    Calls Tryd.prog 18 #[.string s] w (OptB w (vAns s)) := by
  have CA := Lib.hid (fun W (hP : Pow W) (hM : MaxL W) => append_impl (front s) W (Nat.le_trans (front_size s) hs) hP hM)
  have HP := Lib.hid hP
  have HM := Lib.hid hM
  obtain ⟨_, m, hm⟩ := hM
  have C := Tryd.strings_Cut s ⟨#[35]⟩ m w (by omega) hm
  rw [show (⟨#[35]⟩ : ByteArray).data.toList = [35] from rfl, cut_one] at C
  have CC := Lib.hid C
  clear C hP hm
  generalize (Lib.cut s.data.toList [35]).2.1 = z1 at CC
  generalize (Lib.cut s.data.toList [35]).2.2 = z2 at CC
  rw [show (⟨(s.data.toList.takeWhile fun x => !(x == 35)).toArray⟩ : ByteArray) = front s from rfl] at CC
  cases ha : aAns (front s) with
  | none =>
    have hv : vAns s = none := by
      by_cases h2 : sealB (front s) = s
      · by_cases h1 : s.size ≤ 4000
        · rw [aAns_yes (Nat.le_trans (front_size s) h1) (front_has s) (by rw [h2]; exact h1)] at ha
          cases ha
        · exact vAns_no1 (by omega)
      · exact vAns_no2 h2
    rw [hv]
    rw [ha] at CA
    clear ha hv
    generalize front s = t at CC CA
    go_enter Tryd.func18, Tryd.ntmps18
    go_wp2_with fail
    refine CC.out.mono ?_
    rintro e w1 ⟨rfl, q, rfl⟩
    have HB := Lib.hid (below_drewN (Below.refl w.heap.size w) q)
    generalize w.drewN q = w1 at HB ⊢
    go_wp2_with fail
    refine (CA.out w1 (HP.out.below HB.out) (HM.out.below HB.out)).mono ?_
    rintro e w2 ⟨rfl, hb⟩
    have HB2 := Lib.hid (below_trans HB.out hb)
    clear hb
    go_wp2_with fail
    go_ret2
    exact ⟨rfl, HB2.out⟩
  | some y =>
    have hy : y = sealB (front s) ∧ (sealB (front s)).size ≤ 4000 := by
      unfold aAns at ha
      split at ha
      · rename_i h
        injection ha with ha
        exact ⟨ha.symm, h.2.2⟩
      · cases ha
    rw [ha] at CA
    by_cases h2 : sealB (front s) = s
    · rw [vAns_yes (by have := hy.2; rw [h2] at this; exact this) h2]
      obtain rfl : y = s := hy.1.trans h2
      clear ha hy h2
      generalize front y = t at CC CA ⊢
      go_enter Tryd.func18, Tryd.ntmps18
      go_wp2_with fail
      refine CC.out.mono ?_
      rintro e w1 ⟨rfl, q, rfl⟩
      have HB := Lib.hid (below_drewN (Below.refl w.heap.size w) q)
      generalize w.drewN q = w1 at HB ⊢
      go_wp2_with fail
      refine (CA.out w1 (HP.out.below HB.out) (HM.out.below HB.out)).mono ?_
      rintro e w2 ⟨rfl, hb⟩
      have HB2 := Lib.hid (below_trans HB.out hb)
      clear hb
      go_wp2_with fail
      go_ret2
      exact ⟨rfl, HB2.out⟩
    · rw [vAns_no2 h2]
      have hne := toList_ne h2
      rw [← hy.1] at hne
      clear ha hy h2
      generalize front s = t at CC CA ⊢
      go_enter Tryd.func18, Tryd.ntmps18
      go_wp2_with fail
      refine CC.out.mono ?_
      rintro e w1 ⟨rfl, q, rfl⟩
      have HB := Lib.hid (below_drewN (Below.refl w.heap.size w) q)
      generalize w.drewN q = w1 at HB ⊢
      go_wp2_with fail
      refine (CA.out w1 (HP.out.below HB.out) (HM.out.below HB.out)).mono ?_
      rintro e w2 ⟨rfl, hb⟩
      have HB2 := Lib.hid (below_trans HB.out hb)
      clear hb
      go_wp2_with fail
      go_ret2
      exact ⟨rfl, HB2.out⟩
end Go.Proofs.YtdbhmlnojbmepaaDoor
