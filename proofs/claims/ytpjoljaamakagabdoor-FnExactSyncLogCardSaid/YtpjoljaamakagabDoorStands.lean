/- Does a byte stand in a text: the model's l1Stands. -/
import Derived.Test.YtpjoljaamakagabDoorProg
import Derived.WalkKit
import Derived.WalkLawsBesides
import Derived.LoopTactic
import Derived.Below
import Derived.Lib.Hide
import Derived.Outline
namespace Go.Proofs.YtpjoljaamakagabDoor
open Go.RowKit
set_option linter.unusedVariables false

/-- The byte c stands in x. -/
def hasC (x : ByteArray) (c : UInt8) : Bool := x.data.toList.contains c
theorem hasC_yes {x : ByteArray} {c : UInt8} {k : Nat} (hk : k < x.size) (h : x[k] = c) : hasC x c = true := by
  unfold hasC
  rw [List.contains_iff_mem]
  have hm : x.data.toList[k]'(by simpa using hk) ∈ x.data.toList := List.getElem_mem _
  have e : x.data.toList[k]'(by simpa using hk) = c := h
  rw [e] at hm
  exact hm
theorem hasC_no {x : ByteArray} {c : UInt8} (h : ∀ (j : Nat) (hj : j < x.size), x[j] ≠ c) : hasC x c = false := by
  unfold hasC
  rw [Bool.eq_false_iff]
  intro hc
  rw [List.contains_iff_mem] at hc
  obtain ⟨j, hj, e⟩ := List.getElem_of_mem hc
  exact h j (by simpa using hj) e
theorem ret_bool {a b : Bool} (h : a = b) : Ending.returned (.bool a) = .returned (.bool b) := by rw [h]

set_option maxHeartbeats 1000000 in
theorem l1Stands_any (x : ByteArray) (c : UInt8) (w : World) (hx : x.size ≤ maxLen) :
    Calls Tryd.prog 68 #[.string x, .int .u8 (c.toNat : Int)] w fun e w' => e = .returned (.bool (hasC x c)) ∧ w = w' := by
  unfold maxLen at hx
  go_enter Tryd.func68, Tryd.ntmps68
  go_wp2
  go_loop [5] (fun i => ∃ k : Nat, k ≤ x.size ∧ i = .int .i64 k ∧ Hid (∀ (j : Nat) (hj : j < x.size), j < k → x[j] ≠ c)) (fun i => x.size - (intOf i).toNat)
  case atStart => exact ⟨0, Nat.zero_le _, rfl, fun j _ h => absurd h (by omega)⟩
  case round =>
    obtain ⟨k, hk, rfl, HN⟩ := hrel
    by_cases hlt : k < x.size
    · by_cases he : x[k] = c
      · have ht : ((x[k].toNat : Int) == (c.toNat : Int)) = true := by simp [he]
        have HR := Lib.hid (hasC_yes hlt he)
        clear he HN
        go_wp2
        go_ret
        rw [HR.out]
        exact ⟨rfl, rfl⟩
      · have ht : ((x[k].toNat : Int) == (c.toNat : Int)) = false := by
          rw [beq_eq_false_iff_ne]
          intro e
          exact he (UInt8.toNat_inj.1 (by omega))
        have HN' : Hid (∀ (j : Nat) (hj : j < x.size), j < k + 1 → x[j] ≠ c) := fun j hj hl => by
          rcases Nat.lt_succ_iff_lt_or_eq.1 hl with h | rfl
          · exact HN.out j hj h
          · exact he
        clear he HN
        go_wp2
        go_round
        case rel => exact ⟨k + 1, by omega, by go_num, HN'⟩
        case measure => simp [intOf]; omega
    · have HR := Lib.hid (hasC_no (x := x) (c := c) (fun j hj => HN.out j hj (by omega)))
      clear HN
      go_wp2
      go_ret
      rw [HR.out]
      exact ⟨rfl, rfl⟩

end Go.Proofs.YtpjoljaamakagabDoor
