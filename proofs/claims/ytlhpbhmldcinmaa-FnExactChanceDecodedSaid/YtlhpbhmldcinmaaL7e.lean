/- Chances: sums of draws, of the specification. -/
import Derived.Test.YtlhpbhmldcinmaaL7d
namespace Go.Proofs.Ytlhpbhmldcinmaa
open Go.RowKit Go.ChangeShapes Go.WideShapes
set_option linter.unusedVariables false

theorem l3Ways_b (q k : Nat) (hq : q ≤ 30) (hk : k ≤ q) (w : World) :
    Calls Try.prog 53 #[.int .i64 (q : Int), .int .i64 (k : Int)] w fun e w' => e = .returned (.int .i64 (ways q k : Int)) ∧ Below w.heap.size w w' :=
  (l3Ways_any q k hq hk w).mono fun e w' h => ⟨h.1, by rw [h.2]; exact Below.refl _ _⟩
theorem l7Power_b (x k : Nat) (hx : x ≤ 10) (hk : k ≤ 12) (w : World) :
    Calls Try.prog 55 #[.int .i64 (x : Int), .int .i64 (k : Int)] w fun e w' => e = .returned (.int .i64 ((x ^ k : Nat) : Int)) ∧ Below w.heap.size w w' :=
  (l7Power_any x k hx hk w).mono fun e w' h => ⟨h.1, by rw [h.2]; exact Below.refl _ _⟩
theorem wdS_next (a b m k : Nat) : ((sumF (wd a b m) k : Nat) : Int) + ((ways m k : Nat) : Int) * ((dr a b m k : Nat) : Int) = ((sumF (wd a b m) (k + 1) : Nat) : Int) := by
  rw [wd_cast]; exact sumF_next _ _
theorem wdS_bd (a b m k : Nat) (hb : b ≤ 10) (ha : a ≤ b) (hm : m ≤ 12) (hk : k ≤ m + 1) : sumF (wd a b m) k ≤ 1000000000000 := by
  have h1 := sumF_mono (wd a b m) hk
  rw [wd_all a b m hb ha hm] at h1
  exact Nat.le_trans h1 (pow_bd b m hb hm)
set_option maxRecDepth 100000 in
set_option maxHeartbeats 8000000 in
theorem l7Within_any (a b m k : Nat) (hb : b ≤ 10) (ha : a ≤ b) (hm : m ≤ 12) (hk : k ≤ m) (w : World) :
    Calls Try.prog 59 #[.int .i64 (m : Int), .int .i64 (k : Int), .agg #[.int .i64 (a : Int), .int .i64 (b : Int)]] w fun e w' => e = .returned (.int .i64 ((sumF (wd a b m) (k + 1) : Nat) : Int)) ∧ Below w.heap.size w w' := by
  have HT := Lib.hid (Two.new w (.int .i64 (a : Int)) (.int .i64 (b : Int)) 25 (w.heap.size) rfl)
  have HB := Lib.hid ((Below.refl w.heap.size w).alloc (Nat.le_refl _) (.cells #[.int .i64 (a : Int), .int .i64 (b : Int)] 25))
  go_enter Try.func59, Try.ntmps59
  go_wp2_with fail
  generalize w.alloc (.cells #[.int .i64 (a : Int), .int .i64 (b : Int)] 25) = w0 at HT HB ⊢
  go_loopw [7, 8] (fun s i wr => ∃ (j : Nat), j ≤ k + 1 ∧ i = .int .i64 j ∧ s = .int .i64 ((sumF (wd a b m) j : Nat) : Int) ∧ Hid (Two wr w.heap.size (.int .i64 (a : Int)) (.int .i64 (b : Int)) 25) ∧ Hid (Below w.heap.size w wr)) (fun _ i _ => k + 1 - (intOf i).toNat)
  case atStart => exact ⟨0, Nat.zero_le _, rfl, rfl, HT, HB⟩
  case round =>
    clear HT HB
    obtain ⟨j, hj, rfl, rfl, HT, HB⟩ := hrel
    by_cases hlt : j ≤ k
    · have HW := Lib.hid (fun W => l3Ways_b m j (by omega) (by omega) W)
      have HD := Lib.hid (fun W => l7Parts_any a b m j hb ha hm (by omega) W)
      have HS := Lib.hid (wdS_next a b m j)
      have b1 := wdS_bd a b m j hb ha hm (by omega)
      have b2 := wdS_bd a b m (j + 1) hb ha hm (by omega)
      have hx : 0 ≤ ((ways m j : Nat) : Int) * ((dr a b m j : Nat) : Int) ∧ ((sumF (wd a b m) j : Nat) : Int) + ((ways m j : Nat) : Int) * ((dr a b m j : Nat) : Int) ≤ 1000000000000 := ⟨Int.mul_nonneg (Int.natCast_nonneg _) (Int.natCast_nonneg _), by rw [HS.out]; omega⟩
      clear b2
      generalize ((ways m j : Nat) : Int) = x at HW HS hx
      generalize ((dr a b m j : Nat) : Int) = y at HD HS hx
      generalize sumF (wd a b m) j = s at HS hx b1
      go_wp2_with fail
      go_region_held3 (fun w' => w'.cell? ⟨w.heap.size, 0, none⟩ = some (.int .i64 (a : Int)) ∧ w'.cell? ⟨w.heap.size, 1, none⟩ = some (.int .i64 (b : Int)))
        (first
         | exact ⟨(HT.out.step (Below.refl _ wr).drew).c0, (HT.out.step (Below.refl _ wr).drew).c1⟩
         | exact ⟨(HT_1.out).c0, (HT_1.out).c1⟩
         | exact ⟨(HT_2.out).c0, (HT_2.out).c1⟩)
        (first
         | (go_at_call 54; (with_reducible refine (HD.out v1).mono ?_); rintro e v2 ⟨rfl, hb⟩; have HZ2 := Lib.hid (below_trans HZ1.out hb); have HT_2 := Lib.hid (HT.out.step HZ2.out); have HB_2 := Lib.hid (below_trans HB.out HZ2.out); clear hb)
         | (go_at_call 53; (with_reducible refine (HW.out wr.drew).mono ?_); rintro e v1 ⟨rfl, hb⟩; have HZ1 := Lib.hid (below_trans (Below.refl _ wr).drew hb); have HT_1 := Lib.hid (HT.out.step HZ1.out); have HB_1 := Lib.hid (below_trans HB.out HZ1.out); clear hb))
      all_goals
        go_wp2
        go_roundw
        case rel => exact ⟨j + 1, by omega, by go_num, by rw [IntWalk.i64_in (x * y) (by omega), IntWalk.i64_in ((s : Int) + x * y) (by omega), HS.out], HT_2, HB_2⟩
        case measure => simp [intOf]; omega
    · obtain rfl : j = k + 1 := by omega
      go_wp2
      go_ret
      exact ⟨rfl, HB.out⟩
set_option maxRecDepth 100000 in
set_option maxHeartbeats 8000000 in
theorem l7Majority_any (a b m : Nat) (hb : b ≤ 10) (ha : a ≤ b) (hm : m ≤ 12) (hm1 : 1 ≤ m) (w : World) :
    Calls Try.prog 78 #[.int .i64 (m : Int), .agg #[.int .i64 (a : Int), .int .i64 (b : Int)]] w fun e w' => e = .returned (.int .i64 ((sumF (wd a b m) ((m + 1) / 2) : Nat) : Int)) ∧ Below w.heap.size w w' := by
  have HT := Lib.hid (Two.new w (.int .i64 (a : Int)) (.int .i64 (b : Int)) 25 (w.heap.size) rfl)
  have HB := Lib.hid ((Below.refl w.heap.size w).alloc (Nat.le_refl _) (.cells #[.int .i64 (a : Int), .int .i64 (b : Int)] 25))
  have HD := Lib.hid (fun W => l7Within_any a b m ((m - 1) / 2) hb ha hm (by omega) W)
  have HK : Hid ((((m - 1) / 2 : Nat) : Int) = ((m : Int) - 1) / 2) := Lib.hid (by omega)
  rw [HK.out, show (m - 1) / 2 + 1 = (m + 1) / 2 by omega] at HD
  clear HK
  go_enter Try.func78, Try.ntmps78
  go_wp2_with fail
  generalize w.alloc (.cells #[.int .i64 (a : Int), .int .i64 (b : Int)] 25) = w0 at HT HB ⊢
  have h0 := HT.out.c0
  have h1 := HT.out.c1
  go_wp2_with fail
  with_reducible refine (HD.out _).mono ?_
  rintro e w1 ⟨rfl, hb⟩
  replace HT := Lib.hid (HT.out.step hb)
  replace HB := Lib.hid (below_trans HB.out hb)
  replace h0 := HT.out.c0
  replace h1 := HT.out.c1
  clear hb
  go_wp2
  go_ret
  exact ⟨rfl, HB.out⟩
end Go.Proofs.Ytlhpbhmldcinmaa
