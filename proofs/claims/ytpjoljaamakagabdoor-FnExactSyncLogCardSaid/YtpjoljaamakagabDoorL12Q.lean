/- Which records are valid: both sides. -/
import Derived.Test.YtpjoljaamakagabDoorL12B
import Derived.Test.YtpjoljaamakagabDoorMax12
import Derived.Test.YtpjoljaamakagabDoorState
import Derived.Test.YtpjoljaamakagabDoorAfter
namespace Go.Proofs.YtpjoljaamakagabDoor
open Go.RowKit
set_option linter.unusedVariables false
set_option linter.unusedSimpArgs false

def rngB (c : UInt8) : Bool := decide (32 ≤ c.toNat) && decide (c.toNat ≤ 126)
theorem txtOK_split (l : List UInt8) : txtOK l = (l.all rngB && !l.contains 35) := by
  induction l with
  | nil => rfl
  | cons c l ih =>
    unfold txtOK at ih ⊢
    rw [List.all_cons, ih, List.all_cons, List.contains_cons]
    unfold okB rngB
    by_cases e : c = 35
    · subst e; simp
    · have h1 : (c == 35) = false := by rw [beq_eq_false_iff_ne]; exact e
      have h2 : ((35 : UInt8) == c) = false := by rw [beq_eq_false_iff_ne]; exact fun h => e h.symm
      rw [h1, h2]
      generalize l.all _ = x
      generalize l.contains 35 = y
      generalize decide (32 ≤ c.toNat) = z
      generalize decide (c.toNat ≤ 126) = u
      cases x <;> cases y <;> cases z <;> cases u <;> rfl
theorem rng_all {s : ByteArray} {k : Nat} (h : ∀ (j : Nat) (hj : j < s.size), j < k → rngB s[j] = true) (hk : s.size ≤ k) : s.data.toList.all rngB = true := by
  rw [List.all_eq_true]
  intro c hc
  obtain ⟨j, hj, e⟩ := List.getElem_of_mem hc
  have hj' : j < s.size := by simpa using hj
  have := h j hj' (by omega)
  rw [← e]
  exact this
theorem rng_not {s : ByteArray} {k : Nat} (hk : k < s.size) (h : rngB s[k] = false) : s.data.toList.all rngB = false := by
  rw [Bool.eq_false_iff]
  intro e
  have hm : s[k] ∈ s.data.toList := by
    have : s.data.toList[k]'(by simpa using hk) ∈ s.data.toList := List.getElem_mem _
    exact this
  have := List.all_eq_true.1 e _ hm
  rw [h] at this
  cases this
set_option maxRecDepth 100000 in
set_option maxHeartbeats 4000000 in
theorem isRecordText_any (s : ByteArray) (w : World) (hs : s.size ≤ 1048576) (hM : MaxQ w) :
    Calls Tryd.prog 65 #[.string s] w fun e w' => e = .returned (.bool (txtOK s.data.toList)) ∧ w' = w := by
  obtain ⟨m, hm⟩ := hM
  have C1 := Tryd.strings_Contains s ⟨#[35]⟩ m w (by omega) hm
  rw [show (⟨#[35]⟩ : ByteArray).data.toList = [35] from rfl, contains_one] at C1
  have HC := Lib.hid C1
  clear C1 hm
  rw [txtOK_split]
  unfold hasC at HC
  generalize s.data.toList.contains 35 = hb at HC ⊢
  obtain ⟨B, hB⟩ : ∃ B, s.data.toList.all rngB = B := ⟨_, rfl⟩
  rw [hB]
  have HBB := Lib.hid hB
  clear hB
  go_enter Tryd.func65, Tryd.ntmps65
  go_wp2_with fail
  go_loopw [3, 6] (fun u i wr => ∃ k : Nat, k ≤ s.size ∧ i = .int .i64 (k : Int) ∧ wr = w ∧ Hid (∀ (j : Nat) (hj : j < s.size), j < k → rngB s[j] = true)) (fun _ i _ => s.size - (intOf i).toNat)
  case atStart => exact ⟨0, Nat.zero_le _, rfl, rfl, Lib.hid (fun j _ h => absurd h (by omega))⟩
  case round =>
    obtain ⟨k, hk, rfl, rfl, HN⟩ := hrel
    by_cases hlt : k < s.size
    · have hltI : (k : Int) < (s.size : Int) := by omega
      have hb0 : (s[k].toNat : Int) < 256 := by have := s[k].toNat_lt; omega
      cases hr : rngB s[k] with
      | true =>
        have HN2 : Hid (∀ (j : Nat) (hj : j < s.size), j < k + 1 → rngB s[j] = true) := Lib.hid (fun j hj h => by
          rcases Nat.lt_or_ge j k with h3 | h3
          · exact HN.out j hj h3
          · obtain rfl : j = k := by omega
            exact hr)
        have hq : 32 ≤ s[k].toNat ∧ s[k].toNat ≤ 126 := by simpa [rngB] using hr
        have h1 : ¬ (s[k].toNat : Int) < 32 := by omega
        have h2 : ¬ (126 : Int) < (s[k].toNat : Int) := by omega
        clear hr HN
        go_wp2_with fail
        go_roundw
        case rel => exact ⟨k + 1, by omega, by go_num, (by first | rfl | trivial), HN2⟩
        case measure => simp [intOf]; omega
      | false =>
        have HF : Hid (B = false) := Lib.hid (HBB.out.symm.trans (rng_not hlt hr))
        have hq : ¬ (32 ≤ s[k].toNat ∧ s[k].toNat ≤ 126) := by
          intro h
          rw [show rngB s[k] = true by simp [rngB, h.1, h.2]] at hr
          cases hr
        clear hr HN
        by_cases h1 : s[k].toNat < 32
        · have h1I : (s[k].toNat : Int) < 32 := by omega
          go_wp2_with fail
          go_ret
          exact ⟨by first | rfl | (rw [HF.out]; rfl) | (rw [HF.out]; simp; done), rfl⟩
        · have h1I : ¬ (s[k].toNat : Int) < 32 := by omega
          have h2I : (126 : Int) < (s[k].toNat : Int) := by omega
          go_wp2_with fail
          go_ret
          exact ⟨by first | rfl | (rw [HF.out]; rfl) | (rw [HF.out]; simp; done), rfl⟩
    · obtain rfl : k = s.size := by omega
      have HT : Hid (B = true) := Lib.hid (HBB.out.symm.trans (rng_all HN.out (Nat.le_refl _)))
      clear HN
      go_wp2_with fail
      refine HC.out.mono ?_
      rintro e w1 ⟨rfl, hw⟩
      have hw := hw.symm
      subst hw
      go_wp2
      go_ret
      exact ⟨by first | rfl | (rw [HT.out]; rfl) | (rw [HT.out]; simp; done) | (rw [HT.out]; simp [hmm]; done) | (simp [hmm]; done), rfl⟩
set_option maxRecDepth 100000 in
set_option maxHeartbeats 4000000 in
theorem l12Bytes_any (s : ByteArray) (most : Int) (w : World) (hs : s.size ≤ 1048576) :
    Calls Tryd.prog 67 #[.string s, .int .i64 most] w fun e w' => e = .returned (.bool (txtOK s.data.toList && decide ((s.size : Int) ≤ most))) ∧ w' = w := by
  obtain ⟨B, hB⟩ : ∃ B, txtOK s.data.toList = B := ⟨_, rfl⟩
  rw [hB]
  have HBB := Lib.hid hB
  clear hB
  go_enter Tryd.func67, Tryd.ntmps67
  go_wp2_with fail
  go_loopw [5] (fun i wr => ∃ k : Nat, k ≤ s.size ∧ i = .int .i64 (k : Int) ∧ wr = w ∧ Hid (∀ (j : Nat) (hj : j < s.size), j < k → okB s[j] = true)) (fun i _ => s.size - (intOf i).toNat)
  case atStart => exact ⟨0, Nat.zero_le _, rfl, rfl, Lib.hid (fun j _ h => absurd h (by omega))⟩
  case round =>
    obtain ⟨k, hk, rfl, rfl, HN⟩ := hrel
    by_cases hlt : k < s.size
    · have hltI : (k : Int) < (s.size : Int) := by omega
      have hb0 : (s[k].toNat : Int) < 256 := by have := s[k].toNat_lt; omega
      have HI := Lib.hid (fun W => l1In_any (s[k].toNat : Int) 32 126 W)
      cases hr : okB s[k] with
      | true =>
        have HN2 : Hid (∀ (j : Nat) (hj : j < s.size), j < k + 1 → okB s[j] = true) := Lib.hid (fun j hj h => by
          rcases Nat.lt_or_ge j k with h3 | h3
          · exact HN.out j hj h3
          · obtain rfl : j = k := by omega
            exact hr)
        have hq : (32 ≤ s[k].toNat ∧ s[k].toNat ≤ 126) ∧ s[k] ≠ 35 := by simpa [okB] using hr
        rw [inB_t (by omega) (by omega)] at HI
        have h35 : ((s[k].toNat : Int) == 35) = false := by
          rw [beq_eq_false_iff_ne]
          intro e
          exact hq.2 (UInt8.toNat_inj.1 (by show s[k].toNat = 35; omega))
        clear hr HN hq
        go_wp2_with fail
        refine (HI.out _).mono ?_
        rintro e w1 ⟨rfl, hw⟩
        have hw := hw.symm
        subst hw
        go_wp2_with fail
        go_roundw
        case rel => exact ⟨k + 1, by omega, by go_num, (by first | rfl | trivial), HN2⟩
        case measure => simp [intOf]; omega
      | false =>
        have HF : Hid (B = false) := Lib.hid (by
          rw [← HBB.out]
          rw [Bool.eq_false_iff]
          intro e
          have hm : s[k] ∈ s.data.toList := by
            have : s.data.toList[k]'(by simpa using hlt) ∈ s.data.toList := List.getElem_mem _
            exact this
          have := List.all_eq_true.1 e _ hm
          rw [hr] at this
          cases this)
        clear HN
        by_cases hq : 32 ≤ s[k].toNat ∧ s[k].toNat ≤ 126
        · rw [inB_t (by omega) (by omega)] at HI
          have h35 : ((s[k].toNat : Int) == 35) = true := by
            have : s[k] = 35 := by
              unfold okB at hr
              simpa [hq.1, hq.2] using hr
            rw [this]
            rfl
          clear hr
          go_wp2_with fail
          refine (HI.out _).mono ?_
          rintro e w1 ⟨rfl, hw⟩
          have hw := hw.symm
          subst hw
          go_wp2_with fail
          go_ret
          exact ⟨by first | rfl | (rw [HF.out]; rfl) | (rw [HF.out]; simp; done), rfl⟩
        · have hf : inB (s[k].toNat : Int) 32 126 = false := by
            rw [Bool.eq_false_iff]
            intro e
            have := inB_iff.1 e
            exact hq ⟨by omega, by omega⟩
          rw [hf] at HI
          clear hr
          go_wp2_with fail
          refine (HI.out _).mono ?_
          rintro e w1 ⟨rfl, hw⟩
          have hw := hw.symm
          subst hw
          go_wp2_with fail
          go_ret
          exact ⟨by first | rfl | (rw [HF.out]; rfl) | (rw [HF.out]; simp; done), rfl⟩
    · obtain rfl : k = s.size := by omega
      have HT : Hid (B = true) := Lib.hid (by
        rw [← HBB.out]
        unfold txtOK
        rw [List.all_eq_true]
        intro c hc
        obtain ⟨j, hj, e⟩ := List.getElem_of_mem hc
        have hj' : j < s.size := by simpa using hj
        rw [← e]
        exact HN.out j hj' hj')
      clear HN
      by_cases hmm : (s.size : Int) ≤ most
      · have hd := decide_eq_true hmm
        go_wp2_with fail
        go_ret
        exact ⟨by first | rfl | (rw [HT.out]; rfl) | (rw [HT.out]; simp; done) | (rw [HT.out]; simp [hmm]; done) | (simp [hmm]; done), rfl⟩
      · have hd := decide_eq_false hmm
        go_wp2_with fail
        go_ret
        exact ⟨by first | rfl | (rw [HT.out]; rfl) | (rw [HT.out]; simp; done) | (rw [HT.out]; simp [hmm]; done) | (simp [hmm]; done), rfl⟩
end Go.Proofs.YtpjoljaamakagabDoor
