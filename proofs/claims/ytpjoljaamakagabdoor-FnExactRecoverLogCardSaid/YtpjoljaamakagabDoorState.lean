/- States: the laws' own helpers over them, and which ones are valid. -/
import Derived.Test.YtpjoljaamakagabDoorInts
import Derived.Deep.RegionHeld3
import Derived.Deep.RegionWith
namespace Go.Proofs.YtpjoljaamakagabDoor
open Go.RowKit Go.ChangeShapes Go.WideShapes
set_option linter.unusedVariables false

/-- x in a..b. -/
def inB (x a b : Int) : Bool := decide (a ≤ x) && decide (x ≤ b)
theorem inB_t {x a b : Int} (h1 : a ≤ x) (h2 : x ≤ b) : inB x a b = true := by simp [inB, h1, h2]
theorem inB_f1 {x a b : Int} (h1 : ¬ a ≤ x) : inB x a b = false := by simp [inB, h1]
theorem inB_f2 {x a b : Int} (h1 : ¬ x ≤ b) : inB x a b = false := by simp [inB, h1]
theorem inB_iff {x a b : Int} : inB x a b = true ↔ a ≤ x ∧ x ≤ b := by simp [inB]

theorem l1In_any (x a b : Int) (w : World) :
    Calls Tryd.prog 47 #[.int .i64 x, .int .i64 a, .int .i64 b] w fun e w' => e = .returned (.bool (inB x a b)) ∧ w' = w := by
  by_cases h1 : a ≤ x
  · by_cases h2 : x ≤ b
    · rw [inB_t h1 h2]
      go_enter Tryd.func47, Tryd.ntmps47
      go_wp2
      go_ret
      exact ⟨rfl, rfl⟩
    · rw [inB_f2 h2]
      go_enter Tryd.func47, Tryd.ntmps47
      go_wp2
      go_ret
      exact ⟨rfl, rfl⟩
  · rw [inB_f1 h1]
    go_enter Tryd.func47, Tryd.ntmps47
    go_wp2
    go_ret
    exact ⟨rfl, rfl⟩
theorem l2Numbers_any (n : Int) (w : World) :
    Calls Tryd.prog 77 #[.int .i64 n] w fun e w' => e = .returned (.bool (inB n 1 12)) ∧ w' = w := by
  go_enter Tryd.func77, Tryd.ntmps77
  go_wp2_with fail
  refine (l1In_any n 1 12 w).mono ?_
  rintro e w' ⟨rfl, rfl⟩
  go_wp2
  go_ret
  exact ⟨rfl, rfl⟩
theorem isSize_any (x : Int) (w : World) :
    Calls Tryd.prog 81 #[.int .i64 x] w fun e w' => e = .returned (.bool (inB x 1 12)) ∧ w' = w := by
  by_cases h1 : 1 ≤ x
  · by_cases h2 : x ≤ 12
    · rw [inB_t h1 h2]
      go_enter Tryd.func81, Tryd.ntmps81
      go_wp2
      go_ret
      exact ⟨rfl, rfl⟩
    · rw [inB_f2 h2]
      go_enter Tryd.func81, Tryd.ntmps81
      go_wp2
      go_ret
      exact ⟨rfl, rfl⟩
  · rw [inB_f1 h1]
    go_enter Tryd.func81, Tryd.ntmps81
    go_wp2
    go_ret
    exact ⟨rfl, rfl⟩
theorem isMost_any (x : Int) (w : World) :
    Calls Tryd.prog 95 #[.int .i64 x] w fun e w' => e = .returned (.bool (inB x 0 2)) ∧ w' = w := by
  by_cases h1 : 0 ≤ x
  · by_cases h2 : x ≤ 2
    · rw [inB_t h1 h2]
      go_enter Tryd.func95, Tryd.ntmps95
      go_wp2
      go_ret
      exact ⟨rfl, rfl⟩
    · rw [inB_f2 h2]
      go_enter Tryd.func95, Tryd.ntmps95
      go_wp2
      go_ret
      exact ⟨rfl, rfl⟩
  · rw [inB_f1 h1]
    go_enter Tryd.func95, Tryd.ntmps95
    go_wp2
    go_ret
    exact ⟨rfl, rfl⟩

/-- Which states are valid. -/
def isSt (zs : List Int) (m : Int) : Bool := inB zs.length 1 12 && inB m 0 2 && zs.all fun z => inB z (-1) m
theorem isSt_bad {zs : List Int} {m : Int} {k : Nat} (h : k < zs.length) (hb : inB zs[k] (-1) m = false) : isSt zs m = false := by
  have : (zs.all fun z => inB z (-1) m) = false := by
    rw [Bool.eq_false_iff]
    intro ha
    have := List.all_eq_true.1 ha _ (List.getElem_mem h)
    rw [hb] at this; cases this
  simp [isSt, this]
/-- The first k are all in -1..m. -/
def FitTo (zs : List Int) (m : Int) (k : Nat) : Prop := ∀ j (h : j < zs.length), j < k → inB zs[j] (-1) m = true
theorem FitTo.zero {zs : List Int} {m : Int} : FitTo zs m 0 := fun j _ h => absurd h (by omega)
theorem FitTo.step {zs : List Int} {m : Int} {k : Nat} (h : FitTo zs m k) (hk : k < zs.length) (hb : inB zs[k] (-1) m = true) : FitTo zs m (k + 1) := fun j hj hlt => by
  by_cases e : j = k
  · subst e; exact hb
  · exact h j hj (by omega)
theorem FitTo.isSt {zs : List Int} {m : Int} {k : Nat} (h : FitTo zs m k) (hk : zs.length ≤ k ∨ 13 ≤ k) : isSt zs m = (inB zs.length 1 12 && inB m 0 2) := by
  unfold Go.Proofs.YtpjoljaamakagabDoor.isSt
  by_cases hl : zs.length ≤ 12
  · have : (zs.all fun z => inB z (-1) m) = true := by
      rw [List.all_eq_true]
      intro z hz
      obtain ⟨j, hj, rfl⟩ := List.getElem_of_mem hz
      exact h j hj (by omega)
    rw [this, Bool.and_true]
  · rw [inB_f2 (x := (zs.length : Int)) (a := 1) (b := 12) (by omega)]; rfl

set_option maxHeartbeats 2000000 in
theorem l2State_any (A : Option Addr) (c lo hi : Nat) (zs : List Int) (m : Int) (w : World) (hS : Ins w lo hi A zs) (hn : zs.length ≤ 1048576) :
    Calls Tryd.prog 78 #[.agg #[.slice A zs.length c, .int .i64 m]] w fun e w' => e = .returned (.bool (isSt zs m)) ∧ Below w.heap.size w w' := by
  have HS := Lib.hid hS
  have hh := hS.top
  clear hS
  go_enter Tryd.func78, Tryd.ntmps78
  go_wp2
  go_loopw [3] (fun i wr => ∃ k q : Nat, k ≤ zs.length ∧ k ≤ 13 ∧ i = .int .i64 k ∧ wr = (w.alloc (.cells #[.slice A zs.length c, .int .i64 m] 109)).drewN q ∧ Hid (FitTo zs m k)) (fun i _ => zs.length - (intOf i).toNat)
  case atStart => exact ⟨0, 0, Nat.zero_le _, by omega, rfl, rfl, FitTo.zero⟩
  case round =>
    obtain ⟨k, q, hk, hk13, rfl, rfl, HF⟩ := hrel
    by_cases hlt : k < zs.length
    · by_cases h13 : k ≤ 12
      · obtain ⟨b, o, rfl, _, hb, hc⟩ := HS.out.ints.at_ hlt
        have hbw : b < w.heap.size := by omega
        cases hin : inB zs[k] (-1) m with
        | true =>
          have HF2 := Lib.hid (HF.out.step hlt hin)
          have HC := Lib.hid (fun W => l1In_any zs[k] (-1) m W)
          rw [hin] at HC
          generalize zs[k] = x at hc HC
          clear hin HF
          go_wp2_with fail
          go_region_with ((go_at_call 47; refine (HC.out _).mono ?_; rintro e w1 ⟨rfl, rfl⟩))
          all_goals
            go_wp2
            go_roundw
            case rel => exact ⟨k + 1, _, by omega, by omega, by go_num, rfl, HF2⟩
            case measure => simp [intOf]; omega
        | false =>
          have HR := Lib.hid (isSt_bad hlt hin)
          have HC := Lib.hid (fun W => l1In_any zs[k] (-1) m W)
          rw [hin] at HC
          generalize zs[k] = x at hc HC
          clear hin HF
          go_wp2_with fail
          go_region_with ((go_at_call 47; refine (HC.out _).mono ?_; rintro e w1 ⟨rfl, rfl⟩))
          all_goals
            go_wp2
            go_ret
            rw [HR.out]
            exact ⟨rfl, below_drewN ((Below.refl _ _).alloc (Nat.le_refl _) _) _⟩
      · obtain rfl : k = 13 := by omega
        have HR := Lib.hid (HF.out.isSt (.inr (Nat.le_refl _)))
        rw [inB_f2 (x := (zs.length : Int)) (a := 1) (b := 12) (by omega)] at HR
        have HC := Lib.hid (fun W => l1In_any (zs.length : Int) 1 12 W)
        rw [inB_f2 (x := (zs.length : Int)) (a := 1) (b := 12) (by omega)] at HC
        clear HF
        go_wp2_with (go_at_call 47; refine (HC.out _).mono ?_; rintro e w1 ⟨rfl, rfl⟩)
        go_ret
        rw [HR.out]
        exact ⟨rfl, below_drewN ((Below.refl _ _).alloc (Nat.le_refl _) _) _⟩
    · obtain rfl : k = zs.length := by omega
      have HR := Lib.hid (HF.out.isSt (.inl (Nat.le_refl _)))
      have HC := Lib.hid (fun W => l1In_any (zs.length : Int) 1 12 W)
      have HD := Lib.hid (fun W => l1In_any m 0 2 W)
      clear HF
      generalize inB zs.length 1 12 = p at HR HC
      generalize inB m 0 2 = p2 at HR HD
      cases p with
      | false =>
        go_wp2_with (go_at_call 47; refine (HC.out _).mono ?_; rintro e w1 ⟨rfl, rfl⟩)
        go_ret
        rw [HR.out]
        exact ⟨rfl, below_drewN ((Below.refl _ _).alloc (Nat.le_refl _) _) _⟩
      | true =>
        rw [Bool.true_and] at HR
        go_wp2_with fail
        refine (HC.out _).mono ?_
        rintro e w1 ⟨rfl, rfl⟩
        go_wp2_with fail
        refine (HD.out _).mono ?_
        rintro e w1 ⟨rfl, rfl⟩
        go_wp2
        go_ret
        rw [HR.out]
        exact ⟨rfl, below_drewN ((Below.refl _ _).alloc (Nat.le_refl _) _) _⟩
set_option maxHeartbeats 2000000 in
theorem isState_impl (A : Option Addr) (c lo hi : Nat) (zs : List Int) (m : Int) (w : World) (hS : Ins w lo hi A zs) (hn : zs.length ≤ 1048576) :
    Calls Tryd.prog 83 #[.agg #[.slice A zs.length c, .int .i64 m]] w fun e w' => e = .returned (.bool (isSt zs m)) ∧ Below w.heap.size w w' := by
  have HS := Lib.hid hS
  have hh := hS.top
  clear hS
  by_cases h1 : inB zs.length 1 12 = true
  · by_cases h2 : inB m 0 2 = true
    · have hl := inB_iff.1 h1
      have hm := inB_iff.1 h2
      have HC := Lib.hid (fun W => isSize_any (zs.length : Int) W)
      have HD := Lib.hid (fun W => isMost_any m W)
      have H1 := Lib.hid h1
      have H2 := Lib.hid h2
      rw [h1] at HC
      rw [h2] at HD
      clear h1 h2
      go_enter Tryd.func83, Tryd.ntmps83
      go_wp2_with (first | (go_at_call 81; refine (HC.out _).mono ?_; rintro e w1 ⟨rfl, rfl⟩) | (go_at_call 95; refine (HD.out _).mono ?_; rintro e w1 ⟨rfl, rfl⟩))
      go_loopw [19] (fun i wr => ∃ k q : Nat, k ≤ zs.length ∧ i = .int .i64 k ∧ wr = (w.alloc (.cells #[.slice A zs.length c, .int .i64 m] 109)).drewN q ∧ Hid (FitTo zs m k)) (fun i _ => zs.length - (intOf i).toNat)
      case atStart => exact ⟨0, 0, Nat.zero_le _, rfl, rfl, FitTo.zero⟩
      case round =>
        obtain ⟨k, q, hk, rfl, rfl, HF⟩ := hrel
        by_cases hlt : k < zs.length
        · obtain ⟨b, o, rfl, _, hb, hc⟩ := HS.out.ints.at_ hlt
          have hbw : b < w.heap.size := by omega
          have HN := Lib.hid (fun h => isSt_bad (m := m) hlt h)
          have HY := Lib.hid (fun h => HF.out.step hlt h)
          generalize zs[k] = x at hc HN HY
          clear HF
          by_cases hx1 : -1 ≤ x
          · by_cases hx2 : x ≤ m
            · have HF2 := Lib.hid (HY.out (inB_t hx1 hx2))
              clear HY HN
              go_wp2
              go_roundw
              case rel => exact ⟨k + 1, _, by omega, by go_num, rfl, HF2⟩
              case measure => simp [intOf]; omega
            · have HR := Lib.hid (HN.out (inB_f2 hx2))
              clear HY HN
              go_wp2
              go_ret
              rw [HR.out]
              exact ⟨rfl, below_drewN ((Below.refl _ _).alloc (Nat.le_refl _) _) _⟩
          · have HR := Lib.hid (HN.out (inB_f1 hx1))
            clear HY HN
            go_wp2
            go_ret
            rw [HR.out]
            exact ⟨rfl, below_drewN ((Below.refl _ _).alloc (Nat.le_refl _) _) _⟩
        · have HR := Lib.hid (HF.out.isSt (.inl (by omega)))
          rw [H1.out, H2.out] at HR
          clear HF
          go_wp2
          go_ret
          rw [HR.out]
          exact ⟨rfl, below_drewN ((Below.refl _ _).alloc (Nat.le_refl _) _) _⟩
    · have HR : Hid (isSt zs m = false) := by show _ = _; simp [isSt, h2]
      have HC := Lib.hid (fun W => isSize_any (zs.length : Int) W)
      have HD := Lib.hid (fun W => isMost_any m W)
      rw [h1] at HC
      rw [Bool.not_eq_true] at h2
      rw [h2] at HD
      clear h1 h2
      go_enter Tryd.func83, Tryd.ntmps83
      go_wp2_with (first | (go_at_call 81; refine (HC.out _).mono ?_; rintro e w1 ⟨rfl, rfl⟩) | (go_at_call 95; refine (HD.out _).mono ?_; rintro e w1 ⟨rfl, rfl⟩))
      go_ret
      rw [HR.out]
      exact ⟨rfl, ((Below.refl _ _).alloc (Nat.le_refl _) _)⟩
  · have HR : Hid (isSt zs m = false) := by show _ = _; simp [isSt, h1]
    have HC := Lib.hid (fun W => isSize_any (zs.length : Int) W)
    rw [Bool.not_eq_true] at h1
    rw [h1] at HC
    clear h1
    go_enter Tryd.func83, Tryd.ntmps83
    go_wp2_with (go_at_call 81; refine (HC.out _).mono ?_; rintro e w1 ⟨rfl, rfl⟩)
    go_ret
    rw [HR.out]
    exact ⟨rfl, ((Below.refl _ _).alloc (Nat.le_refl _) _)⟩

/-- A state's value. -/
def stV (A : Option Addr) (n c : Nat) (m : Int) : Value := .agg #[.slice A n c, .int .i64 m]
end Go.Proofs.YtpjoljaamakagabDoor
