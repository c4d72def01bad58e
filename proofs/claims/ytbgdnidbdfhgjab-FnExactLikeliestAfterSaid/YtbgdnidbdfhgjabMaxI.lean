/- The greatest of a list of integers: the library's loop, walked. -/
import Derived.Test.YtbgdnidbdfhgjabInts
namespace Go.Proofs.Ytbgdnidbdfhgjab
open Go.RowKit Go.ChangeShapes Go.WideShapes Go.Maps
set_option linter.unusedVariables false

structure BestI (l : List Int) (k c : Nat) : Prop where
  lt : c < k
  le : k ≤ l.length
  top : ∀ j, j < k → l.getD j 0 ≤ l.getD c 0
  first : ∀ j, j < c → l.getD j 0 < l.getD c 0
theorem BestI.one {l : List Int} (h : 0 < l.length) : BestI l 1 0 := ⟨by omega, by omega, fun j hj => by
  have : j = 0 := by omega
  subst this; exact Int.le_refl _, fun j hj => absurd hj (by omega)⟩
theorem BestI.stay {l : List Int} {k c : Nat} (h : BestI l k c) (hk : k < l.length) (hx : l.getD k 0 ≤ l.getD c 0) : BestI l (k + 1) c :=
  ⟨by have := h.lt; omega, by omega, fun j hj => by
    by_cases e : j = k
    · subst e; exact hx
    · exact h.top j (by omega), h.first⟩
theorem BestI.turn {l : List Int} {k c : Nat} (h : BestI l k c) (hk : k < l.length) (hx : l.getD c 0 < l.getD k 0) : BestI l (k + 1) k :=
  ⟨by omega, by omega, fun j hj => by
    by_cases e : j = k
    · subst e; exact Int.le_refl _
    · have := h.top j (by omega); omega, fun j hj => by have := h.top j (by omega); omega⟩
theorem bestI_is (l : List Int) : ∀ k, 0 < k → k ≤ l.length → ∃ c, BestI l k c
  | 0, h, _ => absurd h (by omega)
  | 1, _, h => ⟨0, BestI.one (by omega)⟩
  | k + 2, _, h => by
    obtain ⟨c, hc⟩ := bestI_is l (k + 1) (by omega) (by omega)
    by_cases hx : l.getD (k + 1) 0 ≤ l.getD c 0
    · exact ⟨c, hc.stay (by omega) hx⟩
    · exact ⟨_, hc.turn (by omega) (by omega)⟩
theorem BestI.unique {l : List Int} {k c d : Nat} (h : BestI l k c) (g : BestI l k d) : c = d := by
  rcases Nat.lt_trichotomy c d with e | e | e
  · have := g.first c e
    have := h.top d g.lt
    omega
  · exact e
  · have := h.first d e
    have := g.top c h.lt
    omega
set_option maxHeartbeats 2000000 in
theorem slicesMaxI_any (A : Option Addr) (c lo hi : Nat) (O : List Int) (d : Nat) (w : World) (hS : Ins w lo hi A O) (hd : BestI O O.length d) (hn : O.length ≤ 256) :
    Calls Try.prog 98 #[.slice A O.length c] w fun e w' => e = .returned (.int .i64 (O.getD d 0)) ∧ w' = w := by
  have HS := Lib.hid hS
  have HD := Lib.hid hd
  have hpos : 0 < O.length := Nat.lt_of_le_of_lt (Nat.zero_le _) hd.lt
  clear hS hd
  obtain ⟨b, o, rfl, _, hb, hc⟩ := HS.out.ints.at_ hpos
  have hpi : ¬ (O.length : Int) < 1 := by omega
  have H0 := Lib.hid (show O.getD 0 0 = O[0] by simp [List.getD, hpos])
  generalize O[0] = x0 at hc H0
  simp only [Nat.add_zero] at hc
  go_enter Try.func98, Try.ntmps98
  go_wp2
  go_loopw [3, 4] (fun x i wr => ∃ (k j : Nat), k + 1 ≤ O.length ∧ i = .int .i64 (((k + 1 : Nat)) : Int) ∧ Hid (BestI O (k + 1) j) ∧ x = .int .i64 (O.getD j 0) ∧ wr = w) (fun _ i _ => O.length - (intOf i).toNat)
  case atStart => exact ⟨0, 0, hpos, rfl, Lib.hid (BestI.one hpos), by rw [H0.out], rfl⟩
  case round =>
    clear hc H0
    obtain ⟨k, j, hk, rfl, HB, rfl, hww⟩ := hrel
    have hww := hww.symm
    subst hww
    by_cases hlt : k + 1 < O.length
    · obtain ⟨b', o', e, _, hb', hc⟩ := HS.out.ints.at_ hlt
      injection e with e
      injection e with e1 e2
      subst e1 e2
      have hki : ((k + 1 : Nat) : Int) < (O.length : Int) := by omega
      have HG := Lib.hid (show O.getD (k + 1) 0 = O[k + 1] by simp [List.getD, hlt])
      generalize O[k + 1] = y at hc HG
      by_cases hy : y ≤ O.getD j 0
      · have HB2 := Lib.hid (HB.out.stay hlt (by rw [HG.out]; exact hy))
        clear HB HG
        generalize hz : O.getD j 0 = z at hy ⊢
        have HZ := Lib.hid hz
        clear hz
        go_wp2
        go_roundw
        case rel => exact ⟨k + 1, j, by omega, by go_num, HB2, by rw [HZ.out], by first | rfl | trivial⟩
        case measure => simp [intOf]; omega
      · have HB2 := Lib.hid (HB.out.turn hlt (by rw [HG.out]; exact Int.not_le.1 hy))
        clear HB
        generalize O.getD j 0 = z at hy ⊢
        have HG2 := Lib.hid HG.out.symm
        clear HG
        go_wp2
        go_roundw
        case rel => exact ⟨k + 1, k + 1, by omega, by go_num, HB2, by rw [← HG2.out], by first | rfl | trivial⟩
        case measure => simp [intOf]; omega
    · have e : k + 1 = O.length := by omega
      have ej : j = d := BestI.unique (by have := HB.out; rw [e] at this; exact this) HD.out
      subst ej
      go_wp2
      go_ret
      exact ⟨rfl, rfl⟩
end Go.Proofs.Ytbgdnidbdfhgjab
