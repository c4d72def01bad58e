/- Checksummed texts: what the program's and the model's functions compute. -/
import Derived.Test.YtpjoljaamakagabDoorNum2
import Derived.Test.YtpjoljaamakagabDoorLaid2
import Derived.Test.YtpjoljaamakagabDoorSum1
import Derived.Test.YtpjoljaamakagabDoorStands
import Derived.Test.YtpjoljaamakagabDoorSplit
import Derived.Test.YtpjoljaamakagabDoorIdx12
namespace Go.Proofs.YtpjoljaamakagabDoor
open Go.RowKit
set_option linter.unusedVariables false

/-- A text, a sign, and the numeral of its checksum. -/
def sealB (s : ByteArray) : ByteArray := s ++ ⟨#[35]⟩ ++ ⟨(Lib.itoa (cks s.data.toList)).toArray⟩
theorem itoa_cks (s : ByteArray) : (Lib.itoa (cks s.data.toList)).length ≤ 7 := by
  have := cks_bd s.data.toList
  exact itoa_len (by omega) (by omega)
theorem sealB_size (s : ByteArray) : (sealB s).size = s.size + 1 + (Lib.itoa (cks s.data.toList)).length := by
  unfold sealB
  rw [ByteArray.size_append, ByteArray.size_append, mk_size]
  rfl
def RetB (w : World) (s : ByteArray) (e : Ending) (w' : World) : Prop := e = .returned (.string s) ∧ Drawn w w'
def OptB (w : World) (a : Option ByteArray) (e : Ending) (w' : World) : Prop :=
  e = .returned (.tuple #[.string (a.getD ⟨#[]⟩), .bool a.isSome]) ∧ Below w.heap.size w w'

set_option maxHeartbeats 1000000 in
theorem l1Seal_any (s : ByteArray) (w : World) (hs : s.size ≤ 1048576) :
    Calls Tryd.prog 69 #[.string s] w (RetB w (sealB s)) := by
  obtain ⟨x, hx⟩ : ∃ x : ByteArray, x = s ++ ⟨#[35]⟩ := ⟨_, rfl⟩
  have hi := itoa_cks s
  have hxs : x.size = s.size + 1 := by rw [hx, ByteArray.size_append]; rfl
  have hadd1 : ∀ W, (Op.stringOp .add s ⟨#[35]⟩).run Tryd.prog W = .ok (.string x) W := fun W => by
    rw [run_string_add_sum W _ _ (by show s.size + 1 ≤ _; omega), hx]
  have hadd2 : ∀ W, (Op.stringOp .add x ⟨(Lib.itoa (cks s.data.toList)).toArray⟩).run Tryd.prog W = .ok (.string (sealB s)) W := fun W => by
    rw [run_string_add_sum W _ _ (by rw [mk_size (Lib.itoa (cks s.data.toList))]; omega), hx]; rfl
  have hc := cks_bd s.data.toList
  clear hx hxs hi
  have CS := Lib.hid (l1Sum_any s w (by unfold maxLen; omega))
  generalize cks s.data.toList = n at hadd2 hc CS
  generalize sealB s = y at hadd2 ⊢
  obtain ⟨hc0, hc1⟩ := hc
  go_enter Tryd.func69, Tryd.ntmps69
  go_wp2_with fail
  refine CS.out.mono ?_
  rintro e w1 ⟨rfl, rfl⟩
  go_wp2_with fail
  refine (l1Num_any n.natAbs n w (Nat.le_refl _) (by omega) (by omega)).mono ?_
  rintro e w1 ⟨rfl, hd⟩
  have HD := Lib.hid hd
  clear hd
  go_wp2_with fail
  go_ret
  exact ⟨rfl, HD.out⟩

/-- What AppendChecksum answers. -/
def aAns (s : ByteArray) : Option ByteArray := if s.size ≤ 4000 ∧ hasC s 35 = false ∧ (sealB s).size ≤ 4000 then some (sealB s) else none
theorem aAns_no1 {s : ByteArray} (h : 4000 < s.size) : aAns s = none := if_neg (fun ⟨h1, _⟩ => by omega)
theorem aAns_no2 {s : ByteArray} (h : hasC s 35 = true) : aAns s = none := if_neg (fun ⟨_, h1, _⟩ => by rw [h] at h1; cases h1)
theorem aAns_no3 {s : ByteArray} (h : 4000 < (sealB s).size) : aAns s = none := if_neg (fun ⟨_, _, h1⟩ => by omega)
theorem aAns_yes {s : ByteArray} (h1 : s.size ≤ 4000) (h2 : hasC s 35 = false) (h3 : (sealB s).size ≤ 4000) : aAns s = some (sealB s) := if_pos ⟨h1, h2, h3⟩

set_option maxHeartbeats 2000000 in
theorem append_impl (s : ByteArray) (w : World) (hs : s.size ≤ 1048576) (hP : Pow w) (hM : MaxL w) :
    Calls Tryd.prog 50 #[.string s] w (OptB w (aAns s)) := by
  by_cases h1 : s.size ≤ 4000
  · have CI := Lib.hid (sum_impl s w h1)
    obtain ⟨_, m, hm⟩ := hM
    have C1 := Tryd.strings_Contains s ⟨#[35]⟩ m w (by omega) hm
    rw [show (⟨#[35]⟩ : ByteArray).data.toList = [35] from rfl, contains_one] at C1
    clear hm
    cases h2 : hasC s 35 with
    | true =>
      rw [aAns_no2 h2]
      rw [h2] at C1
      have CS := Lib.hid C1
      clear C1 h2 hP
      go_enter Tryd.func50, Tryd.ntmps50
      go_wp2_with fail
      refine CI.out.mono ?_
      rintro e w1 ⟨rfl, rfl⟩
      go_wp2_with fail
      refine CS.out.mono ?_
      rintro e w1 ⟨rfl, rfl⟩
      go_wp2_with fail
      go_ret2
      exact ⟨rfl, Below.refl _ _⟩
    | false =>
      rw [h2] at C1
      have CS := Lib.hid C1
      have hbd := cks_bd s.data.toList
      have hil := itoa_cks s
      have CF := format_impl (cks s.data.toList) w (WalkArith.wf_i64 (by omega)) hP
      rw [show fAns (cks s.data.toList) = some (Lib.itoa (cks s.data.toList)) from if_pos (by omega)] at CF
      obtain ⟨d, hd⟩ : ∃ d : ByteArray, d = ⟨(Lib.itoa (cks s.data.toList)).toArray⟩ := ⟨_, rfl⟩
      have CF2 : Hid (Calls Tryd.prog 72 #[.int .i64 (cks s.data.toList)] w fun e w' => e = .returned (.tuple #[.string d, .bool true]) ∧ Below w.heap.size w w') := by
        show Calls _ _ _ _ _
        rw [hd]
        exact CF
      have hds : d.size ≤ 7 := by rw [hd, mk_size (Lib.itoa (cks s.data.toList))]; exact hil
      have hss : (sealB s).size = s.size + 1 + d.size := by rw [sealB_size, hd, mk_size (Lib.itoa (cks s.data.toList))]
      clear CF hP C1
      by_cases h3 : s.size + 1 + d.size ≤ 4000
      · rw [aAns_yes h1 h2 (by omega)]
        obtain ⟨x, hx⟩ : ∃ x : ByteArray, x = s ++ ⟨#[35]⟩ := ⟨_, rfl⟩
        have hxs : x.size = s.size + 1 := by rw [hx, ByteArray.size_append]; rfl
        have hadd1 : ∀ W, (Op.stringOp .add s ⟨#[35]⟩).run Tryd.prog W = .ok (.string x) W := fun W => by
          rw [run_string_add_sum W _ _ (by show s.size + 1 ≤ _; omega), hx]
        have hadd2 : ∀ W, (Op.stringOp .add x d).run Tryd.prog W = .ok (.string (sealB s)) W := fun W => by
          rw [run_string_add_sum W _ _ (by omega), hx, hd]; rfl
        clear hx hxs hd hss h2 hil
        generalize cks s.data.toList = n at CI CF2 hbd
        generalize sealB s = y at hadd2 ⊢
        obtain ⟨hb0, hb1⟩ := hbd
        go_enter Tryd.func50, Tryd.ntmps50
        go_wp2_with fail
        refine CI.out.mono ?_
        rintro e w1 ⟨rfl, rfl⟩
        go_wp2_with fail
        refine CS.out.mono ?_
        rintro e w1 ⟨rfl, rfl⟩
        go_wp2_with fail
        refine CF2.out.mono ?_
        rintro e w1 ⟨rfl, hb⟩
        have HB := Lib.hid hb
        clear hb
        go_wp2_with fail
        go_ret2
        exact ⟨rfl, HB.out⟩
      · rw [aAns_no3 (by omega)]
        clear hd hss h2 hil
        generalize cks s.data.toList = n at CI CF2 hbd
        obtain ⟨hb0, hb1⟩ := hbd
        go_enter Tryd.func50, Tryd.ntmps50
        go_wp2_with fail
        refine CI.out.mono ?_
        rintro e w1 ⟨rfl, rfl⟩
        go_wp2_with fail
        refine CS.out.mono ?_
        rintro e w1 ⟨rfl, rfl⟩
        go_wp2_with fail
        refine CF2.out.mono ?_
        rintro e w1 ⟨rfl, hb⟩
        have HB := Lib.hid hb
        clear hb
        go_wp2_with fail
        go_ret2
        exact ⟨rfl, HB.out⟩
  · rw [aAns_no1 (by omega)]
    have CI := Lib.hid (sum_impl_no s w (by omega) (by unfold maxLen; omega))
    clear hP hM
    go_enter Tryd.func50, Tryd.ntmps50
    go_wp2_with fail
    refine CI.out.mono ?_
    rintro e w1 ⟨rfl, rfl⟩
    go_wp2_with fail
    go_ret2
    exact ⟨rfl, Below.refl _ _⟩
end Go.Proofs.YtpjoljaamakagabDoor
