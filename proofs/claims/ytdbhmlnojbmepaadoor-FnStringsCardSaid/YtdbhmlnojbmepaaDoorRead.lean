/- The model's l1Read: it reads just the numerals. -/
import Derived.Test.YtdbhmlnojbmepaaDoorParse
namespace Go.Proofs.YtdbhmlnojbmepaaDoor
open Go.RowKit
set_option linter.unusedVariables false

/-- t is s without its minus sign, where it has one. -/
def Cutd (s t : ByteArray) (neg : Bool) : Prop :=
  (neg = true ∧ s.data.toList = 45 :: t.data.toList) ∨ (neg = false ∧ t = s ∧ ∀ r, s.data.toList = 45 :: r → r = [])
theorem cutd_reads {s t : ByteArray} {neg : Bool} (h : Cutd s t neg) {v : Int} (hv : pAns s.data.toList = some v) :
    t.data.toList = Lib.decDigits v.natAbs ∧ v = if neg then -(v.natAbs : Int) else (v.natAbs : Int) := by
  obtain ⟨h0, h1, hi⟩ := pAns_some hv
  rcases (show v < 0 ∨ 0 ≤ v from by omega) with hn | hp
  · rw [itoa_neg' hn] at hi
    rcases h with ⟨rfl, h⟩ | ⟨rfl, _, h⟩
    · rw [h] at hi
      injection hi with _ hi
      exact ⟨hi.symm, by simp; omega⟩
    · exact absurd (h _ hi.symm) (dd_ne _)
  · rw [itoa_pos' hp] at hi
    have e : v.toNat = v.natAbs := by omega
    rcases h with ⟨rfl, h⟩ | ⟨rfl, rfl, _⟩
    · rw [h] at hi
      have := dd_digit (u := v.toNat) (c := 45) (by rw [hi]; exact List.mem_cons_self ..)
      simp at this
    · rw [← e]
      exact ⟨hi.symm, by simp; omega⟩
theorem size_list (t : ByteArray) : t.size = t.data.toList.length := Lib.size_eq t
theorem cutd_size {s t : ByteArray} {neg : Bool} (h : Cutd s t neg) (hb : ¬ (1 ≤ t.size ∧ t.size ≤ 6)) : pAns s.data.toList = none := by
  cases hv : pAns s.data.toList with
  | none => rfl
  | some v =>
    exfalso
    obtain ⟨h0, h1, _⟩ := pAns_some hv
    obtain ⟨e, _⟩ := cutd_reads h hv
    apply hb
    rw [size_list, e]
    exact ⟨dd_pos _, dd_len6 (by omega)⟩
theorem cutd_bad {s t : ByteArray} {neg : Bool} (h : Cutd s t neg) {k : Nat} (hk : k < t.size) (hb : t[k].toNat < 48 ∨ 57 < t[k].toNat) : pAns s.data.toList = none := by
  cases hv : pAns s.data.toList with
  | none => rfl
  | some v =>
    exfalso
    obtain ⟨e, _⟩ := cutd_reads h hv
    have hm : t[k] ∈ t.data.toList := List.getElem_mem (l := t.data.toList) (by rw [← size_list]; exact hk)
    rw [e] at hm
    have := dd_digit hm
    omega
/-- A number with its sign. -/
def sgn (neg : Bool) (m : Nat) : Int := if neg = true then -(m : Int) else (m : Int)
theorem sgn_bd {neg : Bool} {m : Nat} (h : m ≤ 999999) : -999999 ≤ sgn neg m ∧ sgn neg m ≤ 999999 := by unfold sgn; split <;> omega
theorem cutd_yes {s t : ByteArray} {neg : Bool} {m : Nat} (h : Cutd s t neg) (hm : Lib.decFrom 0 t.data.toList = some m) (hb : m ≤ 999999) :
    pAns s.data.toList = if Lib.itoa (sgn neg m) = s.data.toList then some (sgn neg m) else none := by
  by_cases hi : Lib.itoa (sgn neg m) = s.data.toList
  · rw [if_pos hi, ← hi]
    exact pAns_itoa (sgn_bd hb).1 (sgn_bd hb).2
  · rw [if_neg hi]
    cases hv : pAns s.data.toList with
    | none => rfl
    | some v =>
      exfalso
      obtain ⟨e, hs⟩ := cutd_reads h hv
      obtain ⟨_, _, hiv⟩ := pAns_some hv
      rw [e, decFrom_dd] at hm
      injection hm with hm
      rw [hm] at hs
      rw [hs] at hiv
      exact hi hiv
theorem text_beq {t s : ByteArray} (h : t.data.toList ≠ s.data.toList) : (t.toList == s.toList) = false := by
  rw [beq_eq_false_iff_ne, Lib.toList_data, Lib.toList_data]
  exact h
theorem take_snocB (s : ByteArray) (k : Nat) (h : k < s.size) : s.data.toList.take (k + 1) = s.data.toList.take k ++ [s[k]] := by
  rw [List.take_succ_eq_append_getElem (by simpa using h)]; rfl
theorem dec_step {t : ByteArray} {k m : Nat} (hk : k < t.size) (h : Lib.decFrom 0 (t.data.toList.take k) = some m) (h1 : 48 ≤ t[k].toNat) (h2 : t[k].toNat ≤ 57) :
    Lib.decFrom 0 (t.data.toList.take (k + 1)) = some (m * 10 + (t[k].toNat - 48)) := by
  rw [take_snocB t k hk]
  exact decFrom_snoc _ _ _ _ _ h (by unfold Lib.digitVal; rw [if_pos ⟨h1, h2⟩])
theorem dec_bd {t : ByteArray} {k m : Nat} (hk : k ≤ t.size) (h6 : t.size ≤ 6) (h : Lib.decFrom 0 (t.data.toList.take k) = some m) : m ≤ 999999 := by
  have h1 := Lib.decFrom_lt _ _ _ h
  rw [List.length_take, ← size_list, Nat.min_eq_left hk] at h1
  have h2 : 10 ^ k ≤ 10 ^ 6 := Nat.pow_le_pow_right (by omega) (by omega)
  have h3 : (10 : Nat) ^ 6 = 1000000 := by decide
  omega
theorem extract_tail (s : ByteArray) (h : 0 < s.size) : s.data.toList = s[0] :: (s.extract 1 s.size).data.toList := by
  have h2 : s.data.toList.length = s.size := (size_list s).symm
  cases hl : s.data.toList with
  | nil => rw [hl] at h2; simp at h2; omega
  | cons c r =>
    have e0 : s[0] = c := by
      have : s.data.toList[0]'(by omega) = s[0] := rfl
      rw [← this]
      simp [hl]
    have e1 : (s.extract 1 s.size).data.toList = r := by
      rw [Lib.extract_data, hl, ← h2, hl]
      simp
    rw [e0, e1]

set_option maxHeartbeats 4000000 in
theorem read_spec (s : ByteArray) (w : World) (hs : s.size ≤ 1048576) :
    Calls Tryd.prog 29 #[.string s] w (OptInt w (pAns s.data.toList)) := by
  generalize ha : pAns s.data.toList = ans
  have HA := Lib.hid ha
  clear ha
  by_cases hm : ∃ h : 1 < s.size, s[0] = 45
  · obtain ⟨h1, h2⟩ := hm
    have hz : 0 < s.size := by omega
    have hlt : (1 : Int) < (s.size : Int) := by omega
    have hb : ((s[0].toNat : Int) == 45) = true := by rw [h2]; rfl
    have HC : Hid (Cutd s (s.extract 1 s.size) true) := .inl ⟨rfl, by rw [← h2]; exact extract_tail s hz⟩
    have hts : (s.extract 1 s.size).size = s.size - 1 := by rw [ByteArray.size_extract]; omega
    have HT := Lib.hid hts
    clear h2 hts
    go_enter Tryd.func29, Tryd.ntmps29
    go_wp2_with fail
    rw [← HT.out]
    have hts2 : (s.extract 1 s.size).size < s.size := by have := HT.out; omega
    generalize s.extract 1 s.size = t at HC hts2 ⊢
    clear HT hlt hb
    have hls : (t.size : Int) < (s.size : Int) := by omega
    have C := l1In_any (t.size : Int) 1 6 w (by omega)
    by_cases hr : (1 : Int) ≤ (t.size : Int) ∧ (t.size : Int) ≤ 6
    · rw [show decide ((1 : Int) ≤ (t.size : Int) ∧ (t.size : Int) ≤ 6) = true from decide_eq_true hr] at C
      refine C.mono ?_
      clear C
      rintro e w1 ⟨rfl, rfl⟩
      have h6 : t.size ≤ 6 := by omega
      clear hr
      go_wp2_with fail
      go_loop [5, 6] (fun n i => ∃ k m : Nat, k ≤ t.size ∧ i = .int .i64 k ∧ n = .int .i64 m ∧ m ≤ 999999 ∧ Hid (Lib.decFrom 0 (t.data.toList.take k) = some m)) (fun _ i => t.size - (intOf i).toNat)
      case atStart => exact ⟨0, 0, Nat.zero_le _, rfl, rfl, by omega, by show _ = _; simp [Lib.decFrom]⟩
      case round =>
        obtain ⟨k, m, hk, rfl, rfl, hm, HD⟩ := hrel
        by_cases hkt : k < t.size
        · by_cases hd : 48 ≤ t[k].toNat ∧ t[k].toNat ≤ 57
          · obtain ⟨hd1, hd2⟩ := hd
            have HD2 := Lib.hid (dec_step hkt HD.out hd1 hd2)
            have hm2 := dec_bd (k := k + 1) (by omega) h6 HD2.out
            have hi1 : (48 : Int) ≤ (t[k].toNat : Int) := by omega
            have hi2 : (t[k].toNat : Int) ≤ 57 := by omega
            clear HD
            go_wp2_with fail
            go_round
            case rel => exact ⟨k + 1, _, by omega, by go_num, by go_num, hm2, HD2⟩
            case measure => simp [intOf]; omega
          · obtain rfl : ans = none := HA.out.symm.trans (cutd_bad HC.out hkt (by omega))
            clear HD
            by_cases hd1 : t[k].toNat < 48
            · have hi1 : (t[k].toNat : Int) < 48 := by omega
              go_wp2_with fail
              go_ret2
              exact ⟨rfl, Below.refl _ _⟩
            · have hi1 : (48 : Int) ≤ (t[k].toNat : Int) := by omega
              have hi2 : (57 : Int) < (t[k].toNat : Int) := by omega
              go_wp2_with fail
              go_ret2
              exact ⟨rfl, Below.refl _ _⟩
        · obtain rfl : k = t.size := by omega
          have hfull : Lib.decFrom 0 t.data.toList = some m := by have := HD.out; rwa [List.take_of_length_le (by rw [← size_list]; omega)] at this
          have HY := HA.out.symm.trans (cutd_yes HC.out hfull hm)
          have CN := Lib.hid (fun W => l1Num_any 1000000 (-(m : Int)) W (by omega) (by omega) (by omega))
          by_cases hi : Lib.itoa (-(m : Int)) = s.data.toList
          · obtain rfl : ans = some (-(m : Int)) := HY.trans (if_pos hi)
            have HI := Lib.hid (same_text hi)
            clear hi HY hfull HD
            go_wp2_with fail
            refine (CN.out w).mono ?_
            rintro e w1 ⟨rfl, hd⟩
            have HB := Lib.hid (hd.below w.heap.size)
            clear hd
            rw [HI.out]
            go_wp2_with fail
            go_ret2
            exact ⟨rfl, HB.out⟩
          · obtain rfl : ans = none := HY.trans (if_neg hi)
            obtain ⟨u, HU⟩ : ∃ u, Hid (u = (⟨(Lib.itoa (-(m : Int))).toArray⟩ : ByteArray)) := ⟨_, rfl⟩
            have hne := text_beq (t := u) (s := s) (by rw [HU.out]; exact hi)
            clear hi HY hfull HD
            go_wp2_with fail
            refine (CN.out w).mono ?_
            rintro e w1 ⟨rfl, hd⟩
            have HB := Lib.hid (hd.below w.heap.size)
            clear hd
            rw [← HU.out]
            go_wp2_with fail
            go_ret2
            exact ⟨rfl, HB.out⟩
    · rw [show decide ((1 : Int) ≤ (t.size : Int) ∧ (t.size : Int) ≤ 6) = false from decide_eq_false hr] at C
      refine C.mono ?_
      clear C
      rintro e w1 ⟨rfl, rfl⟩
      obtain rfl : ans = none := HA.out.symm.trans (cutd_size HC.out (by omega))
      clear hr
      go_wp2_with fail
      go_ret2
      exact ⟨rfl, Below.refl _ _⟩
  · have HC : Hid (Cutd s s false) := .inr ⟨rfl, rfl, fun r hr => by
      have hl := size_list s
      rw [hr] at hl
      cases r with
      | nil => rfl
      | cons c q =>
        exfalso
        apply hm
        refine ⟨by rw [hl]; simp, ?_⟩
        have e : s.data.toList[0]'(by rw [hr]; simp) = s[0]'(by rw [hl]; simp) := rfl
        rw [← e]
        simp [hr]⟩
    by_cases h1 : 1 < s.size
    · have hz : 0 < s.size := by omega
      have hlt : (1 : Int) < (s.size : Int) := by omega
      have hb : ((s[0].toNat : Int) == 45) = false := by
        rw [beq_eq_false_iff_ne]
        intro e
        exact hm ⟨h1, UInt8.toNat_inj.1 (by simpa using (show s[0].toNat = 45 by omega))⟩
      clear hm
      go_enter Tryd.func29, Tryd.ntmps29
      go_wp2_with fail
      clear hb hlt
      have C := l1In_any (s.size : Int) 1 6 w (by omega)
      by_cases hr : (1 : Int) ≤ (s.size : Int) ∧ (s.size : Int) ≤ 6
      · rw [show decide ((1 : Int) ≤ (s.size : Int) ∧ (s.size : Int) ≤ 6) = true from decide_eq_true hr] at C
        refine C.mono ?_
        clear C
        rintro e w1 ⟨rfl, rfl⟩
        have h6 : s.size ≤ 6 := by omega
        clear hr
        go_wp2_with fail
        go_loop [5, 6] (fun n i => ∃ k m : Nat, k ≤ s.size ∧ i = .int .i64 k ∧ n = .int .i64 m ∧ m ≤ 999999 ∧ Hid (Lib.decFrom 0 (s.data.toList.take k) = some m)) (fun _ i => s.size - (intOf i).toNat)
        case atStart => exact ⟨0, 0, Nat.zero_le _, rfl, rfl, by omega, by show _ = _; simp [Lib.decFrom]⟩
        case round =>
          obtain ⟨k, m, hk, rfl, rfl, hm, HD⟩ := hrel
          by_cases hkt : k < s.size
          · by_cases hd : 48 ≤ s[k].toNat ∧ s[k].toNat ≤ 57
            · obtain ⟨hd1, hd2⟩ := hd
              have HD2 := Lib.hid (dec_step hkt HD.out hd1 hd2)
              have hm2 := dec_bd (k := k + 1) (by omega) h6 HD2.out
              have hi1 : (48 : Int) ≤ (s[k].toNat : Int) := by omega
              have hi2 : (s[k].toNat : Int) ≤ 57 := by omega
              clear HD
              go_wp2_with fail
              go_round
              case rel => exact ⟨k + 1, _, by omega, by go_num, by go_num, hm2, HD2⟩
              case measure => simp [intOf]; omega
            · obtain rfl : ans = none := HA.out.symm.trans (cutd_bad HC.out hkt (by omega))
              clear HD
              by_cases hd1 : s[k].toNat < 48
              · have hi1 : (s[k].toNat : Int) < 48 := by omega
                go_wp2_with fail
                go_ret2
                exact ⟨rfl, Below.refl _ _⟩
              · have hi1 : (48 : Int) ≤ (s[k].toNat : Int) := by omega
                have hi2 : (57 : Int) < (s[k].toNat : Int) := by omega
                go_wp2_with fail
                go_ret2
                exact ⟨rfl, Below.refl _ _⟩
          · obtain rfl : k = s.size := by omega
            have hfull : Lib.decFrom 0 s.data.toList = some m := by have := HD.out; rwa [List.take_of_length_le (by rw [← size_list]; omega)] at this
            have HY := HA.out.symm.trans (cutd_yes HC.out hfull hm)
            have CN := Lib.hid (fun W => l1Num_any 1000000 ((m : Int)) W (by omega) (by omega) (by omega))
            by_cases hi : Lib.itoa ((m : Int)) = s.data.toList
            · obtain rfl : ans = some ((m : Int)) := HY.trans (if_pos hi)
              have HI := Lib.hid (same_text hi)
              clear hi HY hfull HD
              go_wp2_with fail
              refine (CN.out w).mono ?_
              rintro e w1 ⟨rfl, hd⟩
              have HB := Lib.hid (hd.below w.heap.size)
              clear hd
              rw [HI.out]
              go_wp2_with fail
              go_ret2
              exact ⟨rfl, HB.out⟩
            · obtain rfl : ans = none := HY.trans (if_neg hi)
              obtain ⟨u, HU⟩ : ∃ u, Hid (u = (⟨(Lib.itoa ((m : Int))).toArray⟩ : ByteArray)) := ⟨_, rfl⟩
              have hne := text_beq (t := u) (s := s) (by rw [HU.out]; exact hi)
              clear hi HY hfull HD
              go_wp2_with fail
              refine (CN.out w).mono ?_
              rintro e w1 ⟨rfl, hd⟩
              have HB := Lib.hid (hd.below w.heap.size)
              clear hd
              rw [← HU.out]
              go_wp2_with fail
              go_ret2
              exact ⟨rfl, HB.out⟩
      · rw [show decide ((1 : Int) ≤ (s.size : Int) ∧ (s.size : Int) ≤ 6) = false from decide_eq_false hr] at C
        refine C.mono ?_
        clear C
        rintro e w1 ⟨rfl, rfl⟩
        obtain rfl : ans = none := HA.out.symm.trans (cutd_size HC.out (by omega))
        clear hr
        go_wp2_with fail
        go_ret2
        exact ⟨rfl, Below.refl _ _⟩
    · have hlt : ¬ (1 : Int) < (s.size : Int) := by omega
      clear hm
      go_enter Tryd.func29, Tryd.ntmps29
      go_wp2_with fail
      clear hlt
      have C := l1In_any (s.size : Int) 1 6 w (by omega)
      by_cases hr : (1 : Int) ≤ (s.size : Int) ∧ (s.size : Int) ≤ 6
      · rw [show decide ((1 : Int) ≤ (s.size : Int) ∧ (s.size : Int) ≤ 6) = true from decide_eq_true hr] at C
        refine C.mono ?_
        clear C
        rintro e w1 ⟨rfl, rfl⟩
        have h6 : s.size ≤ 6 := by omega
        clear hr
        go_wp2_with fail
        go_loop [5, 6] (fun n i => ∃ k m : Nat, k ≤ s.size ∧ i = .int .i64 k ∧ n = .int .i64 m ∧ m ≤ 999999 ∧ Hid (Lib.decFrom 0 (s.data.toList.take k) = some m)) (fun _ i => s.size - (intOf i).toNat)
        case atStart => exact ⟨0, 0, Nat.zero_le _, rfl, rfl, by omega, by show _ = _; simp [Lib.decFrom]⟩
        case round =>
          obtain ⟨k, m, hk, rfl, rfl, hm, HD⟩ := hrel
          by_cases hkt : k < s.size
          · by_cases hd : 48 ≤ s[k].toNat ∧ s[k].toNat ≤ 57
            · obtain ⟨hd1, hd2⟩ := hd
              have HD2 := Lib.hid (dec_step hkt HD.out hd1 hd2)
              have hm2 := dec_bd (k := k + 1) (by omega) h6 HD2.out
              have hi1 : (48 : Int) ≤ (s[k].toNat : Int) := by omega
              have hi2 : (s[k].toNat : Int) ≤ 57 := by omega
              clear HD
              go_wp2_with fail
              go_round
              case rel => exact ⟨k + 1, _, by omega, by go_num, by go_num, hm2, HD2⟩
              case measure => simp [intOf]; omega
            · obtain rfl : ans = none := HA.out.symm.trans (cutd_bad HC.out hkt (by omega))
              clear HD
              by_cases hd1 : s[k].toNat < 48
              · have hi1 : (s[k].toNat : Int) < 48 := by omega
                go_wp2_with fail
                go_ret2
                exact ⟨rfl, Below.refl _ _⟩
              · have hi1 : (48 : Int) ≤ (s[k].toNat : Int) := by omega
                have hi2 : (57 : Int) < (s[k].toNat : Int) := by omega
                go_wp2_with fail
                go_ret2
                exact ⟨rfl, Below.refl _ _⟩
          · obtain rfl : k = s.size := by omega
            have hfull : Lib.decFrom 0 s.data.toList = some m := by have := HD.out; rwa [List.take_of_length_le (by rw [← size_list]; omega)] at this
            have HY := HA.out.symm.trans (cutd_yes HC.out hfull hm)
            have CN := Lib.hid (fun W => l1Num_any 1000000 ((m : Int)) W (by omega) (by omega) (by omega))
            by_cases hi : Lib.itoa ((m : Int)) = s.data.toList
            · obtain rfl : ans = some ((m : Int)) := HY.trans (if_pos hi)
              have HI := Lib.hid (same_text hi)
              clear hi HY hfull HD
              go_wp2_with fail
              refine (CN.out w).mono ?_
              rintro e w1 ⟨rfl, hd⟩
              have HB := Lib.hid (hd.below w.heap.size)
              clear hd
              rw [HI.out]
              go_wp2_with fail
              go_ret2
              exact ⟨rfl, HB.out⟩
            · obtain rfl : ans = none := HY.trans (if_neg hi)
              obtain ⟨u, HU⟩ : ∃ u, Hid (u = (⟨(Lib.itoa ((m : Int))).toArray⟩ : ByteArray)) := ⟨_, rfl⟩
              have hne := text_beq (t := u) (s := s) (by rw [HU.out]; exact hi)
              clear hi HY hfull HD
              go_wp2_with fail
              refine (CN.out w).mono ?_
              rintro e w1 ⟨rfl, hd⟩
              have HB := Lib.hid (hd.below w.heap.size)
              clear hd
              rw [← HU.out]
              go_wp2_with fail
              go_ret2
              exact ⟨rfl, HB.out⟩
      · rw [show decide ((1 : Int) ≤ (s.size : Int) ∧ (s.size : Int) ≤ 6) = false from decide_eq_false hr] at C
        refine C.mono ?_
        clear C
        rintro e w1 ⟨rfl, rfl⟩
        obtain rfl : ans = none := HA.out.symm.trans (cutd_size HC.out (by omega))
        clear hr
        go_wp2_with fail
        go_ret2
        exact ⟨rfl, Below.refl _ _⟩

theorem parse_spec (s : ByteArray) (w : World) (hs : s.size ≤ 1048576) :
    Calls Tryd.prog 14 #[.string s] w (OptInt w (pAns s.data.toList)) := by
  have C := Lib.hid (read_spec s w hs)
  go_enter Tryd.func14, Tryd.ntmps14
  go_wp2_with fail
  refine C.out.mono ?_
  rintro e w1 ⟨rfl, hb⟩
  have HB := Lib.hid hb
  clear hb
  go_wp2_with fail
  go_ret2
  exact ⟨rfl, HB.out⟩
end Go.Proofs.YtdbhmlnojbmepaaDoor
