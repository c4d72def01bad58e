/- Checksummed texts: what the program's and the model's functions compute. -/
import Derived.Test.YtdbhmlnojbmepaaDoorNum
import Derived.Test.YtdbhmlnojbmepaaDoorLaid
import Derived.Test.YtdbhmlnojbmepaaDoorSum
import Derived.Test.YtdbhmlnojbmepaaDoorStands
import Derived.Test.YtdbhmlnojbmepaaDoorSplit
import Derived.Lib.IndexMore
namespace Go.Proofs.YtdbhmlnojbmepaaDoor
open Go.RowKit
set_option linter.unusedVariables false

/-- A text, a sign, and the numeral of its checksum. -/
def sealB (s : ByteArray) : ByteArray := s ++ ⟨#[35]⟩ ++ ⟨(Lib.itoa (cks s.data.toList)).toArray⟩
theorem itoa_cks (s : ByteArray) : (Lib.itoa (cks s.data.toList)).length ≤ 7 := by
  have := cks_bd s.data.toList
  exact itoa_len (by omega) (by omega)
theorem sealB_size (s : ByteArray) : (sealB s).size = s.size + 1 + (Lib.itoa (cks s.data.toList)).length := by
  unfold sealB
  rw [ByteArray.size_append, ByteArray.size_append, mk_size]
  rfl
def RetB (w : World) (s : ByteArray) (e : Ending) (w' : World) : Prop := e = .returned (.string s) ∧ Drawn w w'
def OptB (w : World) (a : Option ByteArray) (e : Ending) (w' : World) : Prop :=
  e = .returned (.tuple #[.string (a.getD ⟨#[]⟩), .bool a.isSome]) ∧ Below w.heap.size w w'

set_option maxHeartbeats 1000000 in
theorem l1Seal_any (s : ByteArray) (w : World) (hs : s.size ≤ 1048576) :
    Calls Tryd.prog 34 #[.string s] w (RetB w (sealB s)) := by
  obtain ⟨x, hx⟩ : ∃ x : ByteArray, x = s ++ ⟨#[35]⟩ := ⟨_, rfl⟩
  have hi := itoa_cks s
  have hxs : x.size = s.size + 1 := by rw [hx, ByteArray.size_append]; rfl
  have hadd1 : ∀ W, (Op.stringOp .add s ⟨#[35]⟩).run Tryd.prog W = .ok (.string x) W := fun W => by
    rw [run_string_add_sum W _ _ (by show s.size + 1 ≤ _; omega), hx]
  have hadd2 : ∀ W, (Op.stringOp .add x ⟨(Lib.itoa (cks s.data.toList)).toArray⟩).run Tryd.prog W = .ok (.string (sealB s)) W := fun W => by
    rw [run_string_add_sum W _ _ (by rw [mk_size (Lib.itoa (cks s.data.toList))]; omega), hx]; rfl
  have hc := cks_bd s.data.toList
  clear hx hxs hi
  have CS := Lib.hid (l1Sum_any s w (by unfold maxLen; omega))
  generalize cks s.data.toList = n at hadd2 hc CS
  generalize sealB s = y at hadd2 ⊢
  obtain ⟨hc0, hc1⟩ := hc
  go_enter Tryd.func34, Tryd.ntmps34
  go_wp2_with fail
  refine CS.out.mono ?_
  rintro e w1 ⟨rfl, rfl⟩
  go_wp2_with fail
  refine (l1Num_any n.natAbs n w (Nat.le_refl _) (by omega) (by omega)).mono ?_
  rintro e w1 ⟨rfl, hd⟩
  have HD := Lib.hid hd
  clear hd
  go_wp2_with fail
  go_ret
  exact ⟨rfl, HD.out⟩

/-- What AppendChecksum answers. -/
def aAns (s : ByteArray) : Option ByteArray := if s.size ≤ 4000 ∧ hasC s 35 = false ∧ (sealB s).size ≤ 4000 then some (sealB s) else none
theorem aAns_no1 {s : ByteArray} (h : 4000 < s.size) : aAns s = none := if_neg (fun ⟨h1, _⟩ => by omega)
theorem aAns_no2 {s : ByteArray} (h : hasC s 35 = true) : aAns s = none := if_neg (fun ⟨_, h1, _⟩ => by rw [h] at h1; cases h1)
theorem aAns_no3 {s : ByteArray} (h : 4000 < (sealB s).size) : aAns s = none := if_neg (fun ⟨_, _, h1⟩ => by omega)
theorem aAns_yes {s : ByteArray} (h1 : s.size ≤ 4000) (h2 : hasC s 35 = false) (h3 : (sealB s).size ≤ 4000) : aAns s = some (sealB s) := if_pos ⟨h1, h2, h3⟩

set_option maxHeartbeats 1000000 in
theorem append_spec (s : ByteArray) (w : World) (hs : s.size ≤ 1048576) :
    Calls Tryd.prog 17 #[.string s] w (OptB w (aAns s)) := by
  by_cases h1 : s.size ≤ 4000
  · have C1 := l1Stands_any s 35 w (by unfold maxLen; omega)
    cases h2 : hasC s 35 with
    | true =>
      rw [aAns_no2 h2]
      rw [h2] at C1
      have CS := Lib.hid C1
      clear C1 h2
      go_enter Tryd.func17, Tryd.ntmps17
      go_wp2_with fail
      refine CS.out.mono ?_
      rintro e w1 ⟨rfl, rfl⟩
      go_wp2_with fail
      go_ret2
      exact ⟨rfl, Below.refl _ _⟩
    | false =>
      rw [h2] at C1
      have CS := Lib.hid C1
      have CE := Lib.hid (fun W => l1Seal_any s W hs)
      by_cases h3 : (sealB s).size ≤ 4000
      · rw [aAns_yes h1 h2 h3]
        clear C1 h2
        generalize sealB s = y at CE h3 ⊢
        go_enter Tryd.func17, Tryd.ntmps17
        go_wp2_with fail
        refine CS.out.mono ?_
        rintro e w1 ⟨rfl, rfl⟩
        go_wp2_with fail
        refine (CE.out w).mono ?_
        rintro e w1 ⟨rfl, hd⟩
        have HD := Lib.hid hd
        clear hd
        go_wp2_with fail
        refine (CE.out w1).mono ?_
        rintro e w2 ⟨rfl, hd⟩
        have HD2 := Lib.hid (HD.out.trans hd)
        clear hd
        go_wp2_with fail
        go_ret2
        exact ⟨rfl, HD2.out.below _⟩
      · rw [aAns_no3 (by omega)]
        clear C1 h2
        generalize sealB s = y at CE h3 ⊢
        go_enter Tryd.func17, Tryd.ntmps17
        go_wp2_with fail
        refine CS.out.mono ?_
        rintro e w1 ⟨rfl, rfl⟩
        go_wp2_with fail
        refine (CE.out w).mono ?_
        rintro e w1 ⟨rfl, hd⟩
        have HD := Lib.hid hd
        clear hd
        go_wp2_with fail
        go_ret2
        exact ⟨rfl, HD.out.below _⟩
  · rw [aAns_no1 (by omega)]
    go_enter Tryd.func17, Tryd.ntmps17
    go_wp2_with fail
    go_ret2
    exact ⟨rfl, Below.refl _ _⟩

theorem index_one (c : UInt8) : ∀ l : List UInt8, (0 ≤ Lib.index l [c] ↔ c ∈ l) ∧ (c ∈ l → (l.take (Lib.index l [c]).toNat) = l.takeWhile (fun x => !(x == c)))
  | [] => by simp [Lib.index]
  | b :: l => by
    obtain ⟨ih, ih2⟩ := index_one c l
    have hge := Lib.index_ge l [c]
    unfold Lib.index
    by_cases hb : c = b
    · subst hb
      simp [List.isPrefixOf]
    · have hp : List.isPrefixOf [c] (b :: l) = false := by simp [List.isPrefixOf, hb]
      rw [if_neg (by rw [hp]; decide)]
      have hbc : (b == c) = false := by rw [beq_eq_false_iff_ne]; exact fun h => hb h.symm
      by_cases hm : c ∈ l
      · have h0 := ih.2 hm
        have hne : (Lib.index l [c] == -1) = false := by rw [beq_eq_false_iff_ne]; omega
        rw [if_neg (by rw [hne]; decide)]
        refine ⟨⟨fun _ => List.mem_cons_of_mem _ hm, fun _ => by omega⟩, fun _ => ?_⟩
        rw [show (Lib.index l [c] + 1).toNat = (Lib.index l [c]).toNat + 1 from by omega, List.take_succ_cons, ih2 hm, List.takeWhile_cons, hbc]
        rfl
      · have h0 : ¬ 0 ≤ Lib.index l [c] := fun h => hm (ih.1 h)
        have hne : (Lib.index l [c] == -1) = true := by rw [beq_iff_eq]; omega
        rw [if_pos hne]
        have hn : c ∉ b :: l := fun h => by
          rcases List.mem_cons.1 h with h | h
          · exact hb h
          · exact hm h
        exact ⟨⟨fun h => absurd h (by omega), fun h => absurd h hn⟩, fun h => absurd h hn⟩
theorem contains_one (s : ByteArray) (c : UInt8) : Lib.contains s.data.toList [c] = hasC s c := by
  unfold Lib.contains hasC
  rw [Bool.eq_iff_iff, decide_eq_true_eq, (index_one c _).1, List.contains_iff_mem]
theorem takeWhile_none {c : UInt8} : ∀ {l : List UInt8}, c ∉ l → l.takeWhile (fun x => !(x == c)) = l
  | [], _ => rfl
  | b :: l, h => by
    have hbc : (b == c) = false := by rw [beq_eq_false_iff_ne]; exact fun e => h (by rw [e]; exact List.mem_cons_self ..)
    rw [List.takeWhile_cons, hbc]
    show b :: _ = _
    rw [takeWhile_none (fun hm => h (List.mem_cons_of_mem _ hm))]
theorem cut_one (l : List UInt8) (c : UInt8) : (Lib.cut l [c]).1 = l.takeWhile (fun x => !(x == c)) := by
  unfold Lib.cut
  by_cases h : 0 ≤ Lib.index l [c]
  · rw [if_pos h]
    exact (index_one c l).2 ((index_one c l).1.1 h)
  · rw [if_neg h]
    exact (takeWhile_none (fun hm => h ((index_one c l).1.2 hm))).symm

set_option maxHeartbeats 2000000 in
theorem append_impl (s : ByteArray) (w : World) (hs : s.size ≤ 1048576) (hP : Pow w) (hM : MaxL w) :
    Calls Tryd.prog 16 #[.string s] w (OptB w (aAns s)) := by
  by_cases h1 : s.size ≤ 4000
  · have CI := Lib.hid (sum_impl s w h1)
    obtain ⟨_, m, hm⟩ := hM
    have C1 := Tryd.strings_Contains s ⟨#[35]⟩ m w (by omega) hm
    rw [show (⟨#[35]⟩ : ByteArray).data.toList = [35] from rfl, contains_one] at C1
    clear hm
    cases h2 : hasC s 35 with
    | true =>
      rw [aAns_no2 h2]
      rw [h2] at C1
      have CS := Lib.hid C1
      clear C1 h2 hP
      go_enter Tryd.func16, Tryd.ntmps16
      go_wp2_with fail
      refine CI.out.mono ?_
      rintro e w1 ⟨rfl, rfl⟩
      go_wp2_with fail
      refine CS.out.mono ?_
      rintro e w1 ⟨rfl, rfl⟩
      go_wp2_with fail
      go_ret2
      exact ⟨rfl, Below.refl _ _⟩
    | false =>
      rw [h2] at C1
      have CS := Lib.hid C1
      have hbd := cks_bd s.data.toList
      have hil := itoa_cks s
      have CF := format_impl (cks s.data.toList) w (WalkArith.wf_i64 (by omega)) hP
      rw [show fAns (cks s.data.toList) = some (Lib.itoa (cks s.data.toList)) from if_pos (by omega)] at CF
      obtain ⟨d, hd⟩ : ∃ d : ByteArray, d = ⟨(Lib.itoa (cks s.data.toList)).toArray⟩ := ⟨_, rfl⟩
      have CF2 : Hid (Calls Tryd.prog 10 #[.int .i64 (cks s.data.toList)] w fun e w' => e = .returned (.tuple #[.string d, .bool true]) ∧ Below w.heap.size w w') := by
        show Calls _ _ _ _ _
        rw [hd]
        exact CF
      have hds : d.size ≤ 7 := by rw [hd, mk_size (Lib.itoa (cks s.data.toList))]; exact hil
      have hss : (sealB s).size = s.size + 1 + d.size := by rw [sealB_size, hd, mk_size (Lib.itoa (cks s.data.toList))]
      clear CF hP C1
      by_cases h3 : s.size + 1 + d.size ≤ 4000
      · rw [aAns_yes h1 h2 (by omega)]
        obtain ⟨x, hx⟩ : ∃ x : ByteArray, x = s ++ ⟨#[35]⟩ := ⟨_, rfl⟩
        have hxs : x.size = s.size + 1 := by rw [hx, ByteArray.size_append]; rfl
        have hadd1 : ∀ W, (Op.stringOp .add s ⟨#[35]⟩).run Tryd.prog W = .ok (.string x) W := fun W => by
          rw [run_string_add_sum W _ _ (by show s.size + 1 ≤ _; omega), hx]
        have hadd2 : ∀ W, (Op.stringOp .add x d).run Tryd.prog W = .ok (.string (sealB s)) W := fun W => by
          rw [run_string_add_sum W _ _ (by omega), hx, hd]; rfl
        clear hx hxs hd hss h2 hil
        generalize cks s.data.toList = n at CI CF2 hbd
        generalize sealB s = y at hadd2 ⊢
        obtain ⟨hb0, hb1⟩ := hbd
        go_enter Tryd.func16, Tryd.ntmps16
        go_wp2_with fail
        refine CI.out.mono ?_
        rintro e w1 ⟨rfl, rfl⟩
        go_wp2_with fail
        refine CS.out.mono ?_
        rintro e w1 ⟨rfl, rfl⟩
        go_wp2_with fail
        refine CF2.out.mono ?_
        rintro e w1 ⟨rfl, hb⟩
        have HB := Lib.hid hb
        clear hb
        go_wp2_with fail
        go_ret2
        exact ⟨rfl, HB.out⟩
      · rw [aAns_no3 (by omega)]
        clear hd hss h2 hil
        generalize cks s.data.toList = n at CI CF2 hbd
        obtain ⟨hb0, hb1⟩ := hbd
        go_enter Tryd.func16, Tryd.ntmps16
        go_wp2_with fail
        refine CI.out.mono ?_
        rintro e w1 ⟨rfl, rfl⟩
        go_wp2_with fail
        refine CS.out.mono ?_
        rintro e w1 ⟨rfl, rfl⟩
        go_wp2_with fail
        refine CF2.out.mono ?_
        rintro e w1 ⟨rfl, hb⟩
        have HB := Lib.hid hb
        clear hb
        go_wp2_with fail
        go_ret2
        exact ⟨rfl, HB.out⟩
  · rw [aAns_no1 (by omega)]
    have CI := Lib.hid (sum_impl_no s w (by omega) (by unfold maxLen; omega))
    clear hP hM
    go_enter Tryd.func16, Tryd.ntmps16
    go_wp2_with fail
    refine CI.out.mono ?_
    rintro e w1 ⟨rfl, rfl⟩
    go_wp2_with fail
    go_ret2
    exact ⟨rfl, Below.refl _ _⟩
end Go.Proofs.YtdbhmlnojbmepaaDoor
