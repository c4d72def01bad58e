/- JoinStrings of the model. -/
import Derived.Test.YtdbhmlnojbmepaaJoin
namespace Go.Proofs.Ytdbhmlnojbmepaa
open Go.RowKit
set_option linter.unusedVariables false

theorem join_mono {ss : List ByteArray} {sep : ByteArray} {k : Nat} (h1 : sep.size = 1) (h0 : 0 < k) (h : k ≤ ss.length) (hbig : 4000 < (jn ss sep k).size) : fits ss = false := by
  have h2 := jn_size (sep := sep) h1 h0 h
  have h3 := letters_take ss k
  unfold fits
  simp
  omega
theorem jn_full {ss : List ByteArray} {sep : ByteArray} : jn ss sep ss.length = ⟨(Lib.join (lts ss) sep.data.toList).toArray⟩ := by
  unfold jn; rw [List.take_length]
theorem fits_of {ss : List ByteArray} {sep : ByteArray} (h1 : sep.size = 1) (h0 : 0 < ss.length) (h : (jn ss sep ss.length).size ≤ 4000) : fits ss = true := by
  have h2 := jn_size (sep := sep) h1 h0 (Nat.le_refl _)
  rw [List.take_length] at h2
  unfold fits
  simp
  omega

set_option maxHeartbeats 4000000 in
theorem join_spec (A : Option Addr) (cp : Nat) (ss : List ByteArray) (sep : ByteArray) (w : World) (hS : Strs w A ss) (hn : ss.length ≤ 1048576) (hl : letters ss ≤ 1048576) (hs : sep.size ≤ 1048576) :
    Calls Try.prog 13 #[.slice A ss.length cp, .string sep] w (JoinRet w (joinAns ss sep)) := by
  by_cases h1 : sep.size = 1
  · have b1 : ((sep.size : Int) != 1) = false := by simp; omega
    by_cases h0 : ss.length = 0
    · obtain rfl : ss = [] := List.eq_nil_of_length_eq_zero h0
      rw [joinAns_none]
      clear hS
      have HSep := Lib.hid h1
      clear h1
      go_enter Try.func13, Try.ntmps13
      go_wp2
      go_ret2
      exact ⟨rfl, Below.refl _ _⟩
    · have b0 : ((ss.length : Int) == 0) = false := by simp; exact fun h => h0 (by rw [h]; rfl)
      have hlt : 0 < sep.size := by omega
      have hpos : 0 < ss.length := by omega
      have HSep := Lib.hid h1
      have HS := Lib.hid hS
      clear h1 hS h0
      generalize hr : joinAns ss sep = r
      have HR := Lib.hid hr
      clear hr
      have hsz1 : sep.size ≤ 1 := by have := HSep.out; omega
      go_enter Try.func13, Try.ntmps13
      go_wp2
      clear b0 b1
      go_loopw [6, 7] (fun out i wr => ∃ (k : Nat) (o : ByteArray), k ≤ ss.length ∧ i = .int .i64 k ∧ out = .string o ∧ o.size ≤ 4000 ∧ Hid (o = jn ss sep k) ∧ Hid (∀ (j : Nat) (hj : j < ss.length), j < k → hasC ss[j] sep[0] = false) ∧ Hid (Drawn w wr)) (fun _ i _ => ss.length - (intOf i).toNat)
      case atStart => exact ⟨0, ⟨#[]⟩, Nat.zero_le _, rfl, rfl, by decide, rfl, fun j _ h => absurd h (by omega), Drawn.refl _⟩
      case round =>
        obtain ⟨k, o, hk, rfl, rfl, ho, HO, HN, HD⟩ := hrel
        by_cases hlt2 : k < ss.length
        · obtain ⟨b, of, rfl, hb, hc⟩ := (HD.out.strs HS.out).at_ hlt2
          have hxs : ss[k].size ≤ 1048576 := Nat.le_trans (letters_mem ss (List.getElem_mem hlt2)) hl
          have hz : (k : Int) < (ss.length : Int) := by omega
          have C := fun W => l1Stands_any ss[k] sep[0] W (by unfold maxLen; omega)
          cases hh : hasC ss[k] sep[0] with
          | true =>
            have e : r = none := HR.out.symm.trans (joinAns_has HSep.out (anyC_yes hlt2 hh))
            subst e
            rw [hh] at C
            have HC := Lib.hid C
            clear C hh
            generalize ss[k] = x at hc hxs HC
            go_wp2
            go_quiet ((go_at_call 33; exact quiet_left (HC.out _)))
            go_wp2
            go_ret2
            exact ⟨rfl, below_drewN (HD.out.below _) _⟩
          | false =>
            rw [hh] at C
            have HC := Lib.hid C
            have HN' : Hid (∀ (j : Nat) (hj : j < ss.length), j < k + 1 → hasC ss[j] sep[0] = false) := fun j hj hl => by
              rcases Nat.lt_succ_iff_lt_or_eq.1 hl with h | rfl
              · exact HN.out j hj h
              · exact hh
            clear C hh HN
            by_cases hk0 : k = 0
            · subst hk0
              have hadd : ∀ W, (Op.stringOp .add o ss[0]).run Try.prog W = .ok (.string (jn ss sep 1)) W := fun W => by
                have e : o = ⟨#[]⟩ := HO.out.trans (by simp [jn, lts, Lib.join_nil])
                rw [run_string_add_sum W _ _ (by omega), e, jn_one hpos]
              have hjs : (jn ss sep 1).size ≤ 1048576 := by
                have := jn_size (ss := ss) HSep.out (k := 1) (by omega) (by omega)
                have := letters_take ss 1
                omega
              have HL := Lib.hid (join_mono (ss := ss) (sep := sep) (k := 1) HSep.out (by omega) (by omega))
              have hc0 : wr.cell? ⟨b, of, none⟩ = some (.string ss[0]) := by simpa using hc
              have hz0 : (0 : Int) < (ss.length : Int) := by omega
              clear hc hz
              generalize ss[0] = x at hc0 hxs HC hadd
              obtain ⟨o2, HJ⟩ : ∃ o2, Hid (o2 = jn ss sep 1) := ⟨_, rfl⟩
              rw [← HJ.out] at hadd hjs HL
              by_cases hbig : o2.size ≤ 4000
              · go_wp2
                go_quiet ((go_at_call 33; exact quiet_left (HC.out _)))
                go_wp2
                go_roundw
                case rel => exact ⟨1, o2, by omega, by go_num, rfl, hbig, HJ, HN', HD.out.more _⟩
                case measure => simp [intOf]; omega
              · have e : r = none := HR.out.symm.trans (joinAns_long (HL.out (by omega)))
                subst e
                go_wp2
                go_quiet ((go_at_call 33; exact quiet_left (HC.out _)))
                go_wp2
                go_ret2
                exact ⟨rfl, below_drewN (HD.out.below _) _⟩
            · have hkp : (0 : Int) < (k : Int) := by omega
              obtain ⟨o1, ho1⟩ : ∃ o1, o1 = o ++ sep := ⟨_, rfl⟩
              have ho1s : o1.size ≤ 1048576 := by rw [ho1, ByteArray.size_append]; omega
              have hadd1 : ∀ W, (Op.stringOp .add o sep).run Try.prog W = .ok (.string o1) W := fun W => by
                rw [run_string_add_sum W _ _ (by omega), ho1]
              have hadd2 : ∀ W, (Op.stringOp .add o1 ss[k]).run Try.prog W = .ok (.string (jn ss sep (k + 1))) W := fun W => by
                rw [run_string_add_sum W _ _ (by omega), ho1, HO.out, jn_succ (by omega) hlt2]
              have hjs : (jn ss sep (k + 1)).size ≤ 3145728 := by
                have := jn_size (ss := ss) HSep.out (k := k + 1) (by omega) (by omega)
                have := letters_take ss (k + 1)
                omega
              have HL := Lib.hid (join_mono (ss := ss) (sep := sep) (k := k + 1) HSep.out (by omega) (by omega))
              clear ho1
              obtain ⟨o2, HJ⟩ : ∃ o2, Hid (o2 = jn ss sep (k + 1)) := ⟨_, rfl⟩
              rw [← HJ.out] at hadd2 hjs HL
              generalize ss[k] = x at hc hxs HC hadd2
              by_cases hbig : o2.size ≤ 4000
              · go_wp2
                go_quiet ((go_at_call 33; exact quiet_left (HC.out _)))
                go_wp2
                go_roundw
                case rel => exact ⟨k + 1, o2, by omega, by go_num, rfl, hbig, HJ, HN', HD.out.more _⟩
                case measure => simp [intOf]; omega
              · have e : r = none := HR.out.symm.trans (joinAns_long (HL.out (by omega)))
                subst e
                go_wp2
                go_quiet ((go_at_call 33; exact quiet_left (HC.out _)))
                go_wp2
                go_ret2
                exact ⟨rfl, below_drewN (HD.out.below _) _⟩
        · obtain rfl : k = ss.length := by omega
          have e : r = some (Lib.join (lts ss) sep.data.toList) := HR.out.symm.trans (joinAns_yes HSep.out (by intro e; rw [e] at hpos; simp at hpos) (fits_of HSep.out hpos (by rw [← HO.out]; exact ho)) (anyC_no (fun j hj => HN.out j hj hj)))
          have HO2 : Hid (o = ⟨(Lib.join (lts ss) sep.data.toList).toArray⟩) := HO.out.trans jn_full
          subst e
          go_wp2
          go_ret2
          rw [HO2.out]
          exact ⟨rfl, HD.out.below _⟩
  · rw [joinAns_sep h1]
    have b1 : ((sep.size : Int) != 1) = true := by simp; omega
    clear hS
    go_enter Try.func13, Try.ntmps13
    go_wp2
    go_ret2
    exact ⟨rfl, Below.refl _ _⟩
end Go.Proofs.Ytdbhmlnojbmepaa
