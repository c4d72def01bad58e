/- Splits: of impl, of spec. -/
import Derived.Test.YthpnkeecpaflfaaCnt4
namespace Go.Proofs.Ythpnkeecpaflfaa
open Go.RowKit Go.ChangeShapes Go.WideShapes
set_option linter.unusedVariables false

theorem fitL_len {l m : List Int} (h : fitL l m = true) : l.length = m.length := by
  induction l generalizing m with
  | nil => cases m with
    | nil => rfl
    | cons _ _ => simp [fitL] at h
  | cons x l ih => cases m with
    | nil => simp [fitL] at h
    | cons y m => simp only [fitL, Bool.and_eq_true] at h; simp [ih h.2]
theorem fitL_iff {l m : List Int} (hl : l.length = m.length) : fitL l m = true ↔ ∀ j (h1 : j < l.length) (h2 : j < m.length), 0 ≤ l[j] ∧ l[j] ≤ m[j] := by
  induction l generalizing m with
  | nil => cases m with
    | nil => simp [fitL]
    | cons _ _ => simp at hl
  | cons x l ih => cases m with
    | nil => simp at hl
    | cons y m =>
      simp only [fitL, Bool.and_eq_true, decide_eq_true_eq]
      rw [ih (by simpa using hl)]
      constructor
      · rintro ⟨h0, h1⟩ j hj hj2
        cases j with
        | zero => exact h0
        | succ j => exact h1 j (by simpa using hj) (by simpa using hj2)
      · intro h
        exact ⟨h 0 (by simp) (by simp), fun j h1 h2 => h (j + 1) (by simpa using h1) (by simpa using h2)⟩
/-- The first k of l are in bounds. -/
structure FT (l m : List Int) (k : Nat) : Prop where
  ok : ∀ j (h1 : j < l.length) (h2 : j < m.length), j < k → 0 ≤ l[j] ∧ l[j] ≤ m[j]
theorem FT.zero {l m : List Int} : FT l m 0 := ⟨fun j _ _ h => absurd h (by omega)⟩
theorem FT.step {l m : List Int} {k : Nat} (h : FT l m k) (h1 : k < l.length) (h2 : k < m.length) (hx : 0 ≤ l[k] ∧ l[k] ≤ m[k]) : FT l m (k + 1) := ⟨fun j hj hj2 hl => by
  by_cases e : j = k
  · subst e; exact hx
  · exact h.ok j hj hj2 (by omega)⟩
theorem FT.done {l m : List Int} {k : Nat} (h : FT l m k) (hk : k = l.length) (hl : l.length = m.length) : fitL l m = true := (fitL_iff hl).2 fun j h1 h2 => h.ok j h1 h2 (by omega)
theorem fitL_no {l m : List Int} {k : Nat} (h1 : k < l.length) (h2 : k < m.length) (hx : ¬ (0 ≤ l[k] ∧ l[k] ≤ m[k])) : fitL l m = false := by
  rw [Bool.eq_false_iff]
  intro h
  exact hx ((fitL_iff (fitL_len h)).1 h k h1 h2)
theorem fitL_ne {l m : List Int} (h : l.length ≠ m.length) : fitL l m = false := by
  rw [Bool.eq_false_iff]
  intro hf
  exact h (fitL_len hf)

set_option maxHeartbeats 2000000 in
theorem isSplit_any (A : Option Addr) (c lo hi : Nat) (zs : List Int) (A2 : Option Addr) (c2 lo2 hi2 : Nat) (ss : List Int) (w : World) (hS : Ins w lo hi A zs) (hS2 : Ins w lo2 hi2 A2 ss) (hn : zs.length ≤ 1048576) (hn2 : ss.length ≤ 1048576) :
    Calls Try.prog 53 #[.slice A zs.length c, .slice A2 ss.length c2] w fun e w' => e = .returned (.bool (cOK zs && fitL ss zs)) ∧ w' = w := by
  have HS := Lib.hid hS
  have HS2 := Lib.hid hS2
  have HC := Lib.hid (fun W h => areCounts_impl A c lo hi zs W h hn)
  clear hS hS2
  cases hok : cOK zs with
  | false =>
    rw [hok] at HC
    go_enter Try.func53, Try.ntmps53
    go_wp2_with fail
    refine (HC.out _ HS.out).mono ?_
    rintro e w1 ⟨rfl, rfl⟩
    go_wp2
    go_ret
    exact ⟨rfl, rfl⟩
  | true =>
    rw [hok] at HC
    rw [Bool.true_and]
    by_cases hl : ss.length = zs.length
    · go_enter Try.func53, Try.ntmps53
      go_wp2_with fail
      refine (HC.out _ HS.out).mono ?_
      rintro e w1 ⟨rfl, rfl⟩
      clear HC
      go_wp2_with fail
      go_loopw [19] (fun i wr => ∃ (k : Nat), k ≤ ss.length ∧ i = .int .i64 k ∧ Hid (FT ss zs k) ∧ wr = w1) (fun i _ => ss.length - (intOf i).toNat)
      case atStart => exact ⟨0, Nat.zero_le _, rfl, FT.zero, by first | trivial | rfl⟩
      case round =>
        obtain ⟨k, hk, rfl, HF, rfl⟩ := hrel
        by_cases hlt2 : k < ss.length
        · have hlt : k < zs.length := by omega
          obtain ⟨b, o, rfl, _, hb, hc⟩ := HS.out.ints.at_ hlt
          obtain ⟨b2, o2, rfl, _, hb2, hc2⟩ := HS2.out.ints.at_ hlt2
          have HN := Lib.hid (fun h => @fitL_no ss zs k hlt2 hlt h)
          have HF2 := Lib.hid (fun h => HF.out.step hlt2 hlt h)
          generalize zs[k] = y at hc HN HF2
          generalize ss[k] = x at hc2 HN HF2
          by_cases h0 : 0 ≤ x
          · by_cases h1 : x ≤ y
            · have HF3 := Lib.hid (HF2.out ⟨h0, h1⟩)
              clear HN HF2
              go_wp2
              go_roundw
              case rel => exact ⟨k + 1, by omega, by go_num, HF3, by first | trivial | rfl⟩
              case measure => simp [intOf]; omega
            · have E := Lib.hid (HN.out (fun h => h1 h.2))
              go_wp2
              go_ret
              exact ⟨by rw [E.out]; rfl, rfl⟩
          · have E := Lib.hid (HN.out (fun h => h0 h.1))
            go_wp2
            go_ret
            exact ⟨by rw [E.out]; rfl, rfl⟩
        · have hkz : k = ss.length := by omega
          have E := Lib.hid (HF.out.done (by omega) hl)
          subst hkz
          go_wp2
          go_ret
          exact ⟨by rw [E.out]; rfl, rfl⟩
    · have E := Lib.hid (fitL_ne hl)
      go_enter Try.func53, Try.ntmps53
      go_wp2_with fail
      refine (HC.out _ HS.out).mono ?_
      rintro e w1 ⟨rfl, rfl⟩
      go_wp2
      go_ret
      exact ⟨by rw [E.out]; rfl, rfl⟩
end Go.Proofs.Ythpnkeecpaflfaa
