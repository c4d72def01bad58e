/- Where a byte stands in a text: the library's words. -/
import Derived.Test.YtpjoljaamakagabDoorStands
import Derived.Lib.IndexMore
namespace Go.Proofs.YtpjoljaamakagabDoor
open Go.RowKit
set_option linter.unusedVariables false

theorem index_one (c : UInt8) : ∀ l : List UInt8, (0 ≤ Lib.index l [c] ↔ c ∈ l) ∧ (c ∈ l → (l.take (Lib.index l [c]).toNat) = l.takeWhile (fun x => !(x == c)))
  | [] => by simp [Lib.index]
  | b :: l => by
    obtain ⟨ih, ih2⟩ := index_one c l
    have hge := Lib.index_ge l [c]
    unfold Lib.index
    by_cases hb : c = b
    · subst hb
      simp [List.isPrefixOf]
    · have hp : List.isPrefixOf [c] (b :: l) = false := by simp [List.isPrefixOf, hb]
      rw [if_neg (by rw [hp]; decide)]
      have hbc : (b == c) = false := by rw [beq_eq_false_iff_ne]; exact fun h => hb h.symm
      by_cases hm : c ∈ l
      · have h0 := ih.2 hm
        have hne : (Lib.index l [c] == -1) = false := by rw [beq_eq_false_iff_ne]; omega
        rw [if_neg (by rw [hne]; decide)]
        refine ⟨⟨fun _ => List.mem_cons_of_mem _ hm, fun _ => by omega⟩, fun _ => ?_⟩
        rw [show (Lib.index l [c] + 1).toNat = (Lib.index l [c]).toNat + 1 from by omega, List.take_succ_cons, ih2 hm, List.takeWhile_cons, hbc]
        rfl
      · have h0 : ¬ 0 ≤ Lib.index l [c] := fun h => hm (ih.1 h)
        have hne : (Lib.index l [c] == -1) = true := by rw [beq_iff_eq]; omega
        rw [if_pos hne]
        have hn : c ∉ b :: l := fun h => by
          rcases List.mem_cons.1 h with h | h
          · exact hb h
          · exact hm h
        exact ⟨⟨fun h => absurd h (by omega), fun h => absurd h hn⟩, fun h => absurd h hn⟩
theorem contains_one (s : ByteArray) (c : UInt8) : Lib.contains s.data.toList [c] = hasC s c := by
  unfold Lib.contains hasC
  rw [Bool.eq_iff_iff, decide_eq_true_eq, (index_one c _).1, List.contains_iff_mem]
theorem takeWhile_none {c : UInt8} : ∀ {l : List UInt8}, c ∉ l → l.takeWhile (fun x => !(x == c)) = l
  | [], _ => rfl
  | b :: l, h => by
    have hbc : (b == c) = false := by rw [beq_eq_false_iff_ne]; exact fun e => h (by rw [e]; exact List.mem_cons_self ..)
    rw [List.takeWhile_cons, hbc]
    show b :: _ = _
    rw [takeWhile_none (fun hm => h (List.mem_cons_of_mem _ hm))]
theorem cut_one (l : List UInt8) (c : UInt8) : (Lib.cut l [c]).1 = l.takeWhile (fun x => !(x == c)) := by
  unfold Lib.cut
  by_cases h : 0 ≤ Lib.index l [c]
  · rw [if_pos h]
    exact (index_one c l).2 ((index_one c l).1.1 h)
  · rw [if_neg h]
    exact (takeWhile_none (fun hm => h ((index_one c l).1.2 hm))).symm

end Go.Proofs.YtpjoljaamakagabDoor
