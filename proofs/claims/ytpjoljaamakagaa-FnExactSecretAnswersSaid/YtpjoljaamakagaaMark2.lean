/- Marks laid from a later number on. -/
import Derived.Test.YtpjoljaamakagaaStates
namespace Go.Proofs.Ytpjoljaamakagaa
open Go.RowKit Go.ChangeShapes Go.WideShapes
set_option linter.unusedVariables false

set_option maxHeartbeats 1000000 in
theorem markRow2 (g cap n : Nat) (cur : Array Value) (K : Int) (w : World) (h : w.heap[g]? = some (.cells cur 3 (0, 0))) (hn : n ≤ cur.size) (hn2 : n ≤ 1048577) (hK : 0 ≤ K ∧ K ≤ 4194304) :
    Calls Try.prog 37 #[.slice (some ⟨g, 0, none⟩) n cap, .int .i64 K] w fun e w' => e = .returned (.int .i64 (K + (n : Int))) ∧ Within g (g + 1) w w' := by
  have H := Lib.hid h
  clear h
  go_enter Try.func37, Try.ntmps37
  go_wp2
  go_loopw [1, 5] (fun q i wr => ∃ (k : Nat) (x : Int) (c2 : Array Value), k ≤ n ∧ i = .int .i64 k ∧ q = .int .i64 x ∧ x = K + (k : Int) ∧ c2.size = cur.size ∧ Hid (wr.heap[g]? = some (.cells c2 3 (0, 0))) ∧ Hid (Within g (g + 1) w wr)) (fun _ i _ => n - (intOf i).toNat)
  case atStart => exact ⟨0, K, cur, Nat.zero_le _, rfl, rfl, by simp, rfl, H.out, Within.refl _ _ w⟩
  case round =>
    obtain ⟨k, x, c2, hk, rfl, rfl, hx, hc2, HR, HG⟩ := hrel
    by_cases hlt : k < n
    · have hki : (k : Int) < (n : Int) := by omega
      have hf := row_freeI HR.out k
      obtain ⟨u, hu⟩ : ∃ u, wr.cell? ⟨g, k, none⟩ = some u := by
        rw [row_cellI HR.out]
        exact ⟨_, Array.getElem?_eq_getElem (by omega)⟩
      have HR2 := Lib.hid (row_setI HR.out k (.int .i64 x))
      have HG2 := Lib.hid (within_set HG.out (Nat.le_refl g) (Nat.lt_succ_self g) k (.int .i64 x))
      have hx0 : 0 ≤ x ∧ x ≤ 6000000 := by omega
      have hx1 : x + 1 = K + ((k + 1 : Nat) : Int) := by omega
      have HX1 := Lib.hid hx1
      have hs2 : (c2.setIfInBounds k (.int .i64 x)).size = cur.size := by rw [Array.size_setIfInBounds]; exact hc2
      have HS2 := Lib.hid hs2
      clear hx hx1 hs2 hc2
      go_wp2
      go_roundw
      case rel => exact ⟨k + 1, x + 1, _, by omega, by go_num, rfl, HX1.out, HS2.out, HR2, HG2⟩
      case measure => simp [intOf]; omega
    · obtain rfl : k = n := by omega
      have E := Lib.hid hx
      clear hx
      go_wp2
      go_ret
      exact ⟨by rw [← E.out]; rfl, HG.out⟩
theorem markNone2 (cap : Nat) (K : Int) (w : World) :
    Calls Try.prog 37 #[.slice none 0 cap, .int .i64 K] w fun e w' => e = .returned (.int .i64 K) ∧ w' = w := by
  go_enter Try.func37, Try.ntmps37
  go_wp2
  go_loopw [1, 5] (fun q i wr => i = .int .i64 0 ∧ q = .int .i64 K ∧ wr = w) (fun _ i _ => 0)
  case atStart => exact ⟨rfl, rfl, rfl⟩
  case round =>
    obtain ⟨rfl, rfl, rfl⟩ := hrel
    go_wp2
    go_ret
    exact ⟨rfl, rfl⟩
theorem markInts2_any (A : Option Addr) (cap lo hi : Nat) (zs : List Int) (w : World) (h : Res w lo hi A zs) (hn : zs.length ≤ 1048576) (K : Int) (hK : 0 ≤ K ∧ K ≤ 4194304) :
    Calls Try.prog 37 #[.slice A zs.length cap, .int .i64 K] w fun e w' => e = .returned (.int .i64 (K + (zs.length : Int))) ∧ True ∧ Within lo hi w w' := by
  rcases h.own with ⟨rfl, rfl⟩ | ⟨g, cur, rfl, h1, h2, hr, hs, hc⟩
  · refine (markNone2 cap K w).mono ?_
    rintro e w' ⟨rfl, rfl⟩
    exact ⟨by simp, True.intro, Within.refl _ _ _⟩
  · refine (markRow2 g cap zs.length cur K w hr hs (by omega) hK).mono ?_
    rintro e w' ⟨rfl, hw⟩
    exact ⟨rfl, True.intro, ⟨hw.os, hw.tape, hw.output, hw.size, fun i hi hd => hw.block i hi (by omega)⟩⟩
end Go.Proofs.Ytpjoljaamakagaa
