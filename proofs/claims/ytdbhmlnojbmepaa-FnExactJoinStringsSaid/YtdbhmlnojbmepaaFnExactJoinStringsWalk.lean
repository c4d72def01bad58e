/- The law of JoinStrings: its walk over the two functions' contracts. -/
import Derived.Test.YtdbhmlnojbmepaaJoinSpec
namespace Go.Proofs.Ytdbhmlnojbmepaa
open Go.RowKit
set_option linter.unusedVariables false

theorem below_trans {a b c : World} (h : Below a.heap.size a b) (k : Below b.heap.size b c) : Below a.heap.size a c := h.trans (k.mono h.size)

set_option maxHeartbeats 2000000 in
theorem fnExactJoinStrings_walk (A : Option Addr) (cp : Nat) (ss : List ByteArray) (sep : ByteArray) (W : World) (hS : Strs W A ss) (hcp : ss.length ≤ cp) (hcm : cp ≤ maxLen) (hx : ∀ s ∈ ss, s.size ≤ maxLen) (wb : sep.size ≤ maxLen) (hsh : W.ShapedOpen Try.prog) :
    Calls Try.prog 5 #[.slice A ss.length cp, .string sep] W fun e w' => e = .returned (.bool true) ∧ Below W.heap.size W w' := by
  clear hsh
  unfold maxLen at hcm wb
  by_cases h1 : sep.size ≤ 1048576
  · have C0 := Lib.hid (szStringS_any A cp ss 1048576 W hS (by unfold maxLen; omega) hx (by omega))
    clear hx
    by_cases h2 : ss.length + letters ss ≤ 1048576
    · rw [szAns_yes h2] at C0
      have hn : ss.length ≤ 1048576 := by omega
      have hl : letters ss ≤ 1048576 := by omega
      have HS := Lib.hid hS
      have HCP := Lib.hid hcp
      clear hS hcp
      obtain ⟨m, hm⟩ : ∃ m : Nat, m = 1048576 - (ss.length + letters ss) := ⟨_, rfl⟩
      rw [← hm] at C0
      have hm0 : (0 : Int) ≤ (m : Int) := by omega
      clear hm h2
      go_enter Try.func5, Try.ntmps5
      go_wp2_with (go_at_call 21; refine C0.out.mono ?_; rintro e w' ⟨rfl, rfl⟩)
      refine (toStringS_any A cp ss W HS.out hn).mono ?_
      rintro e w1 ⟨A1, rfl, hs1, hb1⟩
      have HB1 := Lib.hid hb1
      have HS1 := Lib.hid hs1
      have HA1 := Lib.hid (HS.out.below hb1 (Nat.le_refl _))
      clear hs1 hb1 C0
      go_wp2_with fail
      refine (join_spec A1 ss.length ss sep w1 HS1.out hn hl h1).mono ?_
      rintro e w2 ⟨rfl, hb2⟩
      have HB2 := Lib.hid (below_trans HB1.out hb2)
      have HA2 := Lib.hid (HA1.out.below hb2 (Nat.le_refl _))
      clear hb2 HB1 HA1 HS1
      go_wp2_with fail
      refine (toStringS_any A cp ss w2 HA2.out hn).mono ?_
      rintro e w3 ⟨A3, rfl, hs3, hb3⟩
      have HB3 := Lib.hid (below_trans HB2.out hb3)
      have HA3 := Lib.hid (HA2.out.below hb3 (Nat.le_refl _))
      have HS3 := Lib.hid hs3
      clear hb3 hs3 HB2 HA2
      go_wp2_with fail
      refine (join_impl A3 ss.length ss sep w3 HS3.out (Nat.le_refl _) hn hl h1).mono ?_
      rintro e w4 ⟨rfl, hb4⟩
      have HB4 := Lib.hid (below_trans HB3.out hb4)
      have HA4 := Lib.hid (HA3.out.below hb4 (Nat.le_refl _))
      have HS4 := Lib.hid (HS3.out.below hb4 (Nat.le_refl _))
      clear hb4 HB3 HA3 HS3
      go_wp2_with fail
      refine (toStringS_any A cp ss w4 HA4.out hn).mono ?_
      rintro e w5 ⟨A5, rfl, hs5, hb5⟩
      have HB5 := Lib.hid (below_trans HB4.out hb5)
      have HS5 := Lib.hid hs5
      have HX5 := Lib.hid (HS4.out.below hb5 (Nat.le_refl _))
      clear hb5 hs5 HB4 HA4 HS4
      go_wp2_with fail
      refine (eqStringS_same A3 A5 ss.length ss.length ss w5 HX5.out HS5.out hn).mono ?_
      rintro e w6 ⟨rfl, n, rfl⟩
      go_wp2
      go_ret
      exact ⟨rfl, below_drewN HB5.out n⟩
    · rw [szAns_no (by omega)] at C0
      clear hS hcp h2
      go_enter Try.func5, Try.ntmps5
      go_wp2_with (go_at_call 21; refine C0.out.mono ?_; rintro e w' ⟨rfl, rfl⟩)
      go_ret
      exact ⟨rfl, Below.refl _ _⟩
  · clear hS hx
    go_enter Try.func5, Try.ntmps5
    go_wp2
    go_ret
    exact ⟨rfl, Below.refl _ _⟩
end Go.Proofs.Ytdbhmlnojbmepaa
