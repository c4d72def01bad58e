/- ParseInt: what the program's and the model's functions compute. -/
import Derived.Test.YtdolonmjhlhkeabDoorNum2
import Derived.Test.YtdolonmjhlhkeabDoorLaid2
import Derived.Lib.Strings
namespace Go.Proofs.YtdolonmjhlhkeabDoor
open Go.RowKit
set_option linter.unusedVariables false

theorem atoi_bad (s : ByteArray) (hlim : s.size ≤ 281474976710656) (hbad : ∀ v, Lib.atoiAll s.data.toList ≠ .ok v) (w : World) (hE : Errs w) :
    Calls Tryd.prog 21 #[.string s] w fun e w' => ∃ (x : Int) (N : Nat), e = .returned (.tuple #[.int .i64 x, .iface 56 (.pointer (some ⟨N, 0, none⟩))]) ∧ Below w.heap.size w w' := by
  obtain ⟨⟨p, hp⟩, ⟨q, hq⟩⟩ := hE
  rcases hh : Lib.atoiAll s.data.toList with v | _ | _
  · exact absurd hh (hbad v)
  · exact (Any.strconv_Atoi_syntax_var Tryd.laysC172 s hlim hh _ _ w hq).mono fun e w' h => by
      obtain ⟨N, he, _, _, hb⟩ := h
      exact ⟨0, N, he, hb⟩
  · exact (Any.strconv_Atoi_range_var Tryd.laysC172 s hlim hh _ _ w hp).mono fun e w' h => by
      obtain ⟨N, he, _, _, hb⟩ := h
      exact ⟨_, N, he, hb⟩

def OptInt (w : World) (a : Option Int) (e : Ending) (w' : World) : Prop :=
  e = .returned (.tuple #[.int .i64 (a.getD 0), .bool a.isSome]) ∧ Below w.heap.size w w'
theorem same_text {l : List UInt8} {s : ByteArray} (h : l = s.data.toList) : (⟨l.toArray⟩ : ByteArray) = s := by subst h; simp
theorem other_text {l : List UInt8} {s : ByteArray} (h : l ≠ s.data.toList) : (⟨l.toArray⟩ : ByteArray) ≠ s := fun e => h (by rw [← e])
theorem pAns_ok {s : List UInt8} {v : Int} (h : Lib.atoiAll s = .ok v) : pAns s = if -999999 ≤ v ∧ v ≤ 999999 ∧ Lib.itoa v = s then some v else none := by
  unfold pAns; rw [h]
theorem pAns_bad {s : List UInt8} (h : ∀ v, Lib.atoiAll s ≠ .ok v) : pAns s = none := by
  unfold pAns
  split
  · rename_i v hv; exact absurd hv (h v)
  · rfl

set_option maxHeartbeats 1000000 in
theorem parse_impl (s : ByteArray) (w : World) (hs : s.size ≤ 1048576) (hP : Pow w) (hE : Errs w) :
    Calls Tryd.prog 11 #[.string s] w (OptInt w (pAns s.data.toList)) := by
  by_cases hbad : ∀ v, Lib.atoiAll s.data.toList ≠ .ok v
  · rw [pAns_bad hbad]
    have C := Lib.hid (atoi_bad s (by omega) hbad w hE)
    clear hbad hP hE
    go_enter Tryd.func11, Tryd.ntmps11
    go_wp2_with fail
    refine C.out.mono ?_
    rintro e w1 ⟨x, N, rfl, hb⟩
    have HB := Lib.hid hb
    clear hb
    go_wp2_with fail
    go_ret2
    exact ⟨rfl, HB.out⟩
  · obtain ⟨v, hv⟩ : ∃ v, Lib.atoiAll s.data.toList = .ok v := Classical.byContradiction fun h => hbad fun v hv => h ⟨v, hv⟩
    have hbd := Lib.atoiAll_bounds hv
    have C := Tryd.strconv_Atoi_ok s (by omega) v hv w
    have C2 : Hid (Calls Tryd.prog 21 #[.string s] w fun e w' => e = .returned (.tuple #[.int .i64 v, .nilIface]) ∧ Below w.heap.size w w') := C.mono fun e w' h => by
      obtain ⟨he, h⟩ := h
      refine ⟨he, ?_⟩
      rcases h with rfl | ⟨t, rfl⟩
      · exact Below.refl _ _
      · exact Lib.bytesWorld_below _ _ _
    have hwf : (Lit.int .i64 v).wf = true := WalkArith.wf_i64 (by omega)
    have HP := Lib.hid hP
    have HW := Lib.hid hwf
    rw [pAns_ok hv]
    clear C hbad hP hE hwf hv
    by_cases hr : -999999 ≤ v ∧ v ≤ 999999
    · have F : ∀ W, Pow W → Calls Tryd.prog 22 #[.int .i64 v] W (OptStr W (some (Lib.itoa v))) := fun W h => by
        have := format_impl v W HW.out h
        rwa [show fAns v = some (Lib.itoa v) from if_pos hr] at this
      have HF := Lib.hid F
      clear F
      by_cases he : Lib.itoa v = s.data.toList
      · rw [if_pos ⟨hr.1, hr.2, he⟩]
        have ht := same_text he
        have HF2 : Hid (∀ W, Pow W → Calls Tryd.prog 22 #[.int .i64 v] W fun e w' => e = .returned (.tuple #[.string s, .bool true]) ∧ Below W.heap.size W w') := fun W h => by
          have := HF.out W h
          unfold OptStr at this
          simp only [Option.getD_some, Option.isSome_some] at this
          rwa [ht] at this
        clear he ht HF hr
        go_enter Tryd.func11, Tryd.ntmps11
        go_wp2_with fail
        refine C2.out.mono ?_
        rintro e w1 ⟨rfl, hb⟩
        have HB := Lib.hid hb
        clear hb
        go_wp2_with fail
        refine (HF2.out w1 (HP.out.below HB.out)).mono ?_
        rintro e w2 ⟨rfl, hb⟩
        have HB2 := Lib.hid (below_transL HB.out hb)
        clear hb
        go_wp2_with fail
        go_ret2
        exact ⟨rfl, HB2.out⟩
      · rw [if_neg (fun h => he h.2.2)]
        obtain ⟨t, ht⟩ : ∃ t, t = (⟨(Lib.itoa v).toArray⟩ : ByteArray) := ⟨_, rfl⟩
        have hne : t ≠ s := by rw [ht]; exact other_text he
        have hb1 : (t.toList == s.toList) = false := by
          rw [beq_eq_false_iff_ne]
          intro h
          apply hne
          have h2 : t.data.toList = s.data.toList := by rw [← Lib.toList_data, ← Lib.toList_data]; exact h
          rw [← same_text (s := t) rfl, h2]
        have HF2 : Hid (∀ W, Pow W → Calls Tryd.prog 22 #[.int .i64 v] W fun e w' => e = .returned (.tuple #[.string t, .bool true]) ∧ Below W.heap.size W w') := fun W h => by
          have := HF.out W h
          unfold OptStr at this
          simp only [Option.getD_some, Option.isSome_some] at this
          rwa [← ht] at this
        clear he ht HF hr
        go_enter Tryd.func11, Tryd.ntmps11
        go_wp2_with fail
        refine C2.out.mono ?_
        rintro e w1 ⟨rfl, hb⟩
        have HB := Lib.hid hb
        clear hb
        go_wp2_with fail
        refine (HF2.out w1 (HP.out.below HB.out)).mono ?_
        rintro e w2 ⟨rfl, hb⟩
        have HB2 := Lib.hid (below_transL HB.out hb)
        clear hb
        go_wp2_with fail
        go_ret2
        exact ⟨rfl, HB2.out⟩
    · rw [if_neg (fun h => hr ⟨h.1, h.2.1⟩)]
      have HF2 : Hid (∀ W, Pow W → Calls Tryd.prog 22 #[.int .i64 v] W fun e w' => e = .returned (.tuple #[.string ⟨#[]⟩, .bool false]) ∧ Below W.heap.size W w') := fun W h => by
        have := format_impl v W HW.out h
        rw [show fAns v = none from if_neg hr] at this
        exact this
      clear hr
      go_enter Tryd.func11, Tryd.ntmps11
      go_wp2_with fail
      refine C2.out.mono ?_
      rintro e w1 ⟨rfl, hb⟩
      have HB := Lib.hid hb
      clear hb
      go_wp2_with fail
      refine (HF2.out w1 (HP.out.below HB.out)).mono ?_
      rintro e w2 ⟨rfl, hb⟩
      have HB2 := Lib.hid (below_transL HB.out hb)
      clear hb
      go_wp2_with fail
      go_ret2
      exact ⟨rfl, HB2.out⟩
end Go.Proofs.YtdolonmjhlhkeabDoor
