/- The weights of numbers and of States: both sides' loops. -/
import Derived.Test.YtpjoljaamakagaaTab
import Derived.Test.YtpjoljaamakagaaAfter
namespace Go.Proofs.Ytpjoljaamakagaa
open Go.RowKit Go.ChangeShapes Go.WideShapes
set_option linter.unusedVariables false

/-- The weight of a number with z false answers (-1: not open), of M at most, with q questions ahead. -/
def numW (q M : Nat) (z : Int) : Nat := if 0 ≤ z then ball q (min (M - z.toNat) q) else 0
theorem numW_no {q M : Nat} {z : Int} (h : ¬ 0 ≤ z) : numW q M z = 0 := if_neg h
theorem numW_at (q M a : Nat) : ((numW q M (a : Int) : Nat) : Int) = wOf M q a := by
  unfold numW wOf
  rw [if_pos (by omega), Int.toNat_natCast]
theorem numW_bd (q M : Nat) (z : Int) (hq : q ≤ 30) : numW q M z ≤ 1073741824 := by
  by_cases h : 0 ≤ z
  · unfold numW; rw [if_pos h]; exact ball_bd _ _ hq (by omega)
  · rw [numW_no h]; omega
/-- The weights of the first k numbers together. -/
def stWTo (q M : Nat) (zs : List Int) : Nat → Nat
  | 0 => 0
  | k + 1 => stWTo q M zs k + numW q M (zs.getD k (-1))
def stW (q M : Nat) (zs : List Int) : Nat := stWTo q M zs zs.length
theorem stWTo_bd (q M : Nat) (zs : List Int) (hq : q ≤ 30) : ∀ k, stWTo q M zs k ≤ k * 1073741824
  | 0 => by simp [stWTo]
  | k + 1 => by
    have h1 := stWTo_bd q M zs hq k
    have h2 := numW_bd q M (zs.getD k (-1)) hq
    rw [stWTo]
    omega
theorem stW_bd {q M : Nat} {zs : List Int} (hq : q ≤ 30) (hn : zs.length ≤ 12) : stW q M zs ≤ 12884901888 := by
  have := stWTo_bd q M zs hq zs.length
  unfold stW
  omega

set_option maxHeartbeats 2000000 in
theorem weightByLies_any (Aw : Option Addr) (cw lo hi M q : Nat) (z : Int) (w : World) (hT : Ins w lo hi Aw (tabs M q)) (h : -1 ≤ z ∧ z ≤ (M : Int)) :
    Calls Try.prog 134 #[.slice Aw (M + 1) cw, .int .i64 z] w fun e w' => e = .returned (.int .i64 (numW q M z : Int)) ∧ w' = w := by
  by_cases hz : 0 ≤ z
  · obtain ⟨a, rfl⟩ : ∃ a : Nat, z = (a : Int) := ⟨z.toNat, by omega⟩
    have ha : a < M + 1 := by omega
    obtain ⟨b, o, rfl, _, hb, hc⟩ := hT.ints.at_ (k := a) (by rw [tabs_len]; exact ha)
    have htop := hT.top
    have hbw : b < w.heap.size := by omega
    have hg : (tabs M q)[a]'(by rw [tabs_len]; exact ha) = ((numW q M (a : Int) : Nat) : Int) := by
      rw [numW_at]
      simp [tabs]
    rw [hg] at hc
    have hne : ¬ (a : Int) = -1 := by omega
    clear hg hT hz h
    generalize ((numW q M (a : Int) : Nat) : Int) = x at hc ⊢
    go_enter Try.func134, Try.ntmps134
    go_wp2
    go_ret
    exact ⟨rfl, rfl⟩
  · obtain rfl : z = -1 := by omega
    rw [numW_no hz]
    clear hT h hz
    go_enter Try.func134, Try.ntmps134
    go_wp2
    go_ret
    exact ⟨rfl, rfl⟩

end Go.Proofs.Ytpjoljaamakagaa
