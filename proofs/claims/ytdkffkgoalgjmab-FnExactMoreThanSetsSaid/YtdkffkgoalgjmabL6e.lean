/- The need of a comparison, as the specification has it. -/
import Derived.Test.YtdkffkgoalgjmabL6d
import Derived.Test.YtdkffkgoalgjmabRegI
namespace Go.Proofs.Ytdkffkgoalgjmab
open Go.RowKit Go.ChangeShapes Go.WideShapes
set_option linter.unusedVariables false

set_option maxHeartbeats 2000000 in
theorem l1Same6 (A : Option Addr) (c lo hi : Nat) (A2 : Option Addr) (c2 lo2 hi2 : Nat) (zs ys : List Int) (w : World) (hS : Ins w lo hi A zs) (hS2 : Ins w lo2 hi2 A2 ys) (hl : ys.length = zs.length) (h12 : zs.length ≤ 12) :
    Calls Try.prog 109 #[.slice A zs.length c, .slice A2 zs.length c2] w fun e w' => e = .returned (.bool (decide (zs = ys))) ∧ Below w.heap.size w w' := by
  have HS := Lib.hid hS
  have HS2 := Lib.hid hS2
  have HL := Lib.hid hl
  have htop := hS.top
  have htop2 := hS2.top
  clear hS hS2 hl
  go_enter Try.func109, Try.ntmps109
  go_wp2_with fail
  go_loopw [5] (fun i wr => ∃ (k q : Nat), k ≤ zs.length ∧ i = .int .i64 k ∧ Hid (∀ j, j < k → zs[j]? = ys[j]?) ∧ wr = w.drewN q) (fun i _ => zs.length - (intOf i).toNat)
  case atStart => exact ⟨0, 0, Nat.zero_le _, rfl, Lib.hid (fun j h => absurd h (by omega)), rfl⟩
  case round =>
    obtain ⟨k, q, hk, rfl, HF, rfl⟩ := hrel
    by_cases hlt : k < zs.length
    · have hlt2 : k < ys.length := by rw [HL.out]; exact hlt
      obtain ⟨b, o, rfl, _, hb, hc⟩ := HS.out.ints.at_ hlt
      obtain ⟨b2, o2, rfl, _, hb2, hc2⟩ := HS2.out.ints.at_ hlt2
      have HNk : Hid (zs[k] ≠ ys[k] → zs ≠ ys) := Lib.hid (fun h e => by subst e; exact h rfl)
      have HF2 : Hid (zs[k] = ys[k] → ∀ j, j < k + 1 → zs[j]? = ys[j]?) := Lib.hid (fun e j hj => by
        by_cases hjk : j = k
        · subst hjk; rw [List.getElem?_eq_getElem hlt, List.getElem?_eq_getElem hlt2, e]
        · exact HF.out j (by omega))
      have hltI : (k : Int) < (zs.length : Int) := by omega
      have hk0 : (0 : Int) ≤ (k : Int) := by omega
      have hb3 : b < w.heap.size := by omega
      have hb4 : b2 < w.heap.size := by omega
      generalize zs[k] = x at hc HNk HF2
      generalize ys[k]'_ = y at hc2 HNk HF2
      clear hlt2
      by_cases hxy : x = y
      · subst hxy
        have HF3 := Lib.hid (HF2.out rfl)
        clear HNk HF2 HF
        go_wp2_with fail
        go_quiet (fail)
        go_wp2
        go_roundw
        case rel => exact ⟨k + 1, _, by omega, by go_num, HF3, rfl⟩
        case measure => simp [intOf]; omega
      · have E := Lib.hid (decide_eq_false (HNk.out hxy))
        clear HNk HF2 HF
        go_wp2_with fail
        go_quiet (fail)
        go_wp2
        go_ret
        exact ⟨by rw [E.out]; rfl, by first | exact below_drewN (Below.refl _ _) _ | exact below_drewN (below_drewN (Below.refl _ _) _) _⟩
    · obtain rfl : k = zs.length := by omega
      have E : Hid (decide (zs = ys) = true) := Lib.hid (decide_eq_true (List.ext_getElem? (fun j => by
        rcases Nat.lt_or_ge j zs.length with h | h
        · exact HF.out j h
        · rw [List.getElem?_eq_none h, List.getElem?_eq_none (by rw [HL.out]; exact h)])))
      go_wp2
      go_ret
      exact ⟨by rw [E.out]; rfl, below_drewN (Below.refl _ _) _⟩

theorem own_two_ne {w : World} {g b : Nat} {L : List Int} {x y : Value} (h : Own w g (g + 1) (some ⟨g, 0, none⟩) L) (t : Two w b x y 36) : g ≠ b := by
  rcases h with ⟨h, _⟩ | ⟨g', cur, e, _, _, hr, _⟩
  · cases h
  · injection e with e
    injection e with e
    subst e
    rintro rfl
    have := hr.symm.trans t.row
    injection this with this
    injection this with _ h
    exact absurd h (by decide)
theorem Ins.ofB {w w' : World} {lo hi : Nat} {A : Option Addr} {zs : List Int} (h : Ins w lo hi A zs) (hb : Below w.heap.size w w') : Ins w' lo hi A zs := h.step hb
theorem notD {a b : Bool} (h : a = true → b = true) (hb : b = false) : a = false := by
  cases a with
  | false => rfl
  | true => rw [h rfl] at hb; cases hb

def nAct (n len : Nat) (A : Option Addr) (c k M : Nat) (nd v7 v8 v9 v10 v11 v12 v13 v14 : Value) : Act :=
  { tmps := #[.agg #[.slice A len c, .int .i64 (M : Int)], .int .i64 (k : Int), nd, .pointer (some ⟨n, 0, none⟩), undef, undef, .int .i64 0, v7, v8, v9, v10, v11, v12, v13, v14, undef, undef, undef, undef, undef, undef, undef, undef, undef, undef, undef, undef, undef, undef, undef, undef, undef, undef, undef, undef, undef, undef, undef, undef], defers := [] }
structure NInv (w0 : World) (n len : Nat) (A : Option Addr) (c k M : Nat) (L1 L2 : List Int) (D : Nat → Bool) (v7 v8 v9 v10 v11 v12 v13 v14 : Value) (W : World) : Prop where
  st : Two W n (.slice A len c) (.int .i64 (M : Int)) 36
  bl : Below w0.heap.size w0 W
  s9 : D 0 = true → v9 = .agg #[.slice A len c, .int .i64 (M : Int)]
  s10 : D 1 = true → v10 = .int .i64 (k : Int)
  s11 : D 2 = true → ∃ g c', v11 = .agg #[.slice (some ⟨g, 0, none⟩) len c', .int .i64 (M : Int)] ∧ w0.heap.size ≤ g ∧ Own W g (g + 1) (some ⟨g, 0, none⟩) L1
  s12 : D 3 = true → v12 = .agg #[.slice A len c, .int .i64 (M : Int)]
  s13 : D 4 = true → v13 = .int .i64 (k : Int)
  s14 : D 5 = true → ∃ g c', v14 = .agg #[.slice (some ⟨g, 0, none⟩) len c', .int .i64 (M : Int)] ∧ w0.heap.size ≤ g ∧ Own W g (g + 1) (some ⟨g, 0, none⟩) L2
  s7 : D 6 = true → ∃ b x y, v7 = .pointer (some ⟨b, 0, none⟩) ∧ w0.heap.size ≤ b ∧ Two W b x y 36 ∧ (D 8 = true → v11 = .agg #[x, y])
  s8 : D 7 = true → ∃ b x y, v8 = .pointer (some ⟨b, 0, none⟩) ∧ w0.heap.size ≤ b ∧ Two W b x y 36 ∧ (D 9 = true → v14 = .agg #[x, y])
  ne : D 6 = true → D 7 = true → v7 ≠ v8
  o8 : D 8 = true → D 2 = true ∧ D 6 = true
  o9 : D 9 = true → D 5 = true ∧ D 7 = true

end Go.Proofs.Ytdkffkgoalgjmab
