/- Decimal numerals: plain facts about digits and what spells a number. -/
import Derived.Lib.ItoaNum
import Derived.Lib.ItoaMem
import Derived.Lib.AtoiAll
import Derived.Lib.AtoiAllCases
import Derived.Lib.AtoiTie
import Derived.Lib.Atoi
namespace Go.Proofs.YtpjoljaamakagabDoor
open Go.Lib

theorem dd_small {u : Nat} (h : u < 10) : decDigits u = [UInt8.ofNat (48 + u)] := by rw [decDigits, dif_pos h]
theorem dd_big {u : Nat} (h : ¬ u < 10) : decDigits u = decDigits (u / 10) ++ [UInt8.ofNat (48 + u % 10)] := by rw [decDigits, dif_neg h]
theorem dd_len : ∀ (k u : Nat), u < 10 ^ (k + 1) → (decDigits u).length ≤ k + 1
  | 0, u, h => by rw [dd_small (by simpa using h)]; simp
  | k + 1, u, h => by
    by_cases h2 : u < 10
    · rw [dd_small h2]; simp
    · rw [dd_big h2, List.length_append]
      have := dd_len k (u / 10) (by rw [Nat.pow_succ] at h; omega)
      simp; omega
theorem dd_len6 {u : Nat} (h : u < 1000000) : (decDigits u).length ≤ 6 := dd_len 5 u (by simpa using h)
theorem dd_pos (u : Nat) : 1 ≤ (decDigits u).length := by
  by_cases h : u < 10
  · rw [dd_small h]; simp
  · rw [dd_big h]; simp
theorem byte_toNat {d : Nat} (h : d < 10) : (UInt8.ofNat (48 + d)).toNat = 48 + d := by
  rw [UInt8.toNat_ofNat']; omega
theorem decFrom_snoc : ∀ (l : List UInt8) (acc m : Nat) (c : UInt8) (d : Nat), decFrom acc l = some m → digitVal c = some d → decFrom acc (l ++ [c]) = some (m * 10 + d)
  | [], acc, m, c, d, h, hc => by simp only [decFrom, Option.some.injEq] at h; subst h; simp [decFrom, hc]
  | b :: r, acc, m, c, d, h, hc => by
    simp only [List.cons_append, decFrom] at h ⊢
    cases hb : digitVal b with
    | none => simp [hb] at h
    | some e => simp only [hb] at h ⊢; exact decFrom_snoc r _ m c d h hc
theorem digitVal_byte {d : Nat} (h : d < 10) : digitVal (UInt8.ofNat (48 + d)) = some d := by
  unfold digitVal
  rw [byte_toNat h, if_pos (by omega)]
  congr 1
  omega
theorem decFrom_dd (u : Nat) : decFrom 0 (decDigits u) = some u := by
  induction u using Nat.strongRecOn with
  | _ u ih =>
    by_cases h : u < 10
    · rw [dd_small h]
      show (match digitVal (UInt8.ofNat (48 + u)) with | some d => decFrom (0 * 10 + d) [] | none => none) = some u
      rw [digitVal_byte h]
      simp [decFrom]
    · rw [dd_big h, decFrom_snoc _ _ _ _ _ (ih (u / 10) (by omega)) (digitVal_byte (by omega))]
      congr 1
      omega
theorem dd_ne (u : Nat) : decDigits u ≠ [] := fun h => by have := dd_pos u; rw [h] at this; simp at this
theorem dd_digit {u : Nat} {c : UInt8} (h : c ∈ decDigits u) : 48 ≤ c.toNat ∧ c.toNat ≤ 57 := by
  obtain ⟨k, hk⟩ := List.getElem?_of_mem h
  obtain ⟨d, hd⟩ := digit_of_decFrom _ _ _ (decFrom_dd u) k c hk
  have := digitVal_eq hd
  omega
theorem decNat_dd (u : Nat) : decNat (decDigits u) = some u := by
  unfold decNat
  rw [if_neg (by have := dd_ne u; simpa using this), decFrom_dd]
theorem itoa_len {n : Int} (h0 : -999999 ≤ n) (h1 : n ≤ 999999) : (itoa n).length ≤ 7 := by
  unfold itoa
  split
  · have := dd_len 5 n.natAbs (by have : n.natAbs < 1000000 := by omega
                                  simpa using this)
    simp; omega
  · have := dd_len 5 n.toNat (by have : n.toNat < 1000000 := by omega
                                 simpa using this)
    omega
theorem atoi_itoa (n : Int) : atoi (itoa n) = some n := by
  unfold itoa
  split
  · rename_i h
    simp only [atoi, beq_self_eq_true, if_true, decNat_dd, Option.map_some]
    congr 1
    omega
  · rename_i h
    cases hd : decDigits n.toNat with
    | nil => exact absurd hd (dd_ne _)
    | cons c r =>
      have hc := dd_digit (u := n.toNat) (c := c) (by rw [hd]; exact List.mem_cons_self ..)
      have e45 : (c == 45) = false := by rw [beq_eq_false_iff_ne]; rintro rfl; simp at hc
      have e43 : (c == 43) = false := by rw [beq_eq_false_iff_ne]; rintro rfl; simp at hc
      simp only [atoi, e45, e43, Bool.false_eq_true, if_false]
      rw [← hd, decNat_dd]
      simp only [Option.map_some, Option.some.injEq]
      omega
theorem atoiAll_itoa {n : Int} (h0 : -999999 ≤ n) (h1 : n ≤ 999999) : atoiAll (itoa n) = .ok n := by
  rw [atoiAll_short _ (by have := itoa_len h0 h1; omega), atoi_itoa]
  rfl

/-- What ParseInt answers: the number that s is the numeral of, where there is one. -/
def pAns (s : List UInt8) : Option Int := match atoiAll s with
  | .ok v => if -999999 ≤ v ∧ v ≤ 999999 ∧ itoa v = s then some v else none
  | _ => none
theorem pAns_some {s : List UInt8} {v : Int} (h : pAns s = some v) : -999999 ≤ v ∧ v ≤ 999999 ∧ itoa v = s := by
  unfold pAns at h
  split at h
  · split at h
    · rename_i hh
      simp only [Option.some.injEq] at h
      subst h
      exact hh
    · cases h
  · cases h
theorem pAns_itoa {v : Int} (h0 : -999999 ≤ v) (h1 : v ≤ 999999) : pAns (itoa v) = some v := by
  unfold pAns
  rw [atoiAll_itoa h0 h1]
  simp only
  rw [if_pos ⟨h0, h1, trivial⟩]
end Go.Proofs.YtpjoljaamakagabDoor
