/- Chances: doubts, powers, draws, how many answers there can be. -/
import Derived.Test.YtbgdnidbdfhgjabL7N
import Derived.Test.YtbgdnidbdfhgjabAfter
import Derived.Test.YtbgdnidbdfhgjabCopy
import Derived.Test.YtbgdnidbdfhgjabTold
import Derived.Laws.StructEq
namespace Go.Proofs.Ytbgdnidbdfhgjab
open Go.RowKit Go.ChangeShapes Go.WideShapes
set_option linter.unusedVariables false

/-- Whether a doubt is valid. -/
def dOK (a b : Int) : Bool := inB b 1 10 && inB a 0 b
theorem dOK_iff {a b : Int} : dOK a b = true ↔ (1 ≤ b ∧ b ≤ 10) ∧ 0 ≤ a ∧ a ≤ b := by simp [dOK, inB]
theorem dOK_nats {a b : Int} (h : dOK a b = true) : ∃ x y : Nat, a = (x : Int) ∧ b = (y : Int) ∧ 1 ≤ y ∧ y ≤ 10 ∧ x ≤ y := by
  have := dOK_iff.1 h
  exact ⟨a.toNat, b.toNat, by omega, by omega, by omega, by omega, by omega⟩
theorem pow_step (x j : Nat) : ((x ^ j : Nat) : Int) * (x : Int) = ((x ^ (j + 1) : Nat) : Int) := by
  rw [Nat.pow_succ]
  exact (Int.natCast_mul _ _).symm

set_option maxRecDepth 100000 in
theorem powerOf_any (x k : Nat) (hx : x ≤ 10) (hk : k ≤ 12) (w : World) :
    Calls Try.prog 179 #[.int .i64 (x : Int), .int .i64 (k : Int)] w fun e w' => e = .returned (.int .i64 ((x ^ k : Nat) : Int)) ∧ w' = w := by
  go_enter Try.func179, Try.ntmps179
  go_wp2_with fail
  go_loopw [5, 7] (fun out i wr => ∃ (j : Nat), j ≤ k ∧ i = .int .i64 j ∧ out = .int .i64 ((x ^ j : Nat) : Int) ∧ wr = w) (fun _ i _ => k - (intOf i).toNat)
  case atStart => exact ⟨0, Nat.zero_le _, rfl, rfl, rfl⟩
  case round =>
    obtain ⟨j, hj, rfl, rfl, rfl⟩ := hrel
    by_cases hlt : j < k
    · have h1 := pow_bd x j hx (by omega)
      have h2 := pow_bd x (j + 1) hx (by omega)
      have HS := Lib.hid (pow_step x j)
      have hp := HS.out
      have hpb : 0 ≤ ((x ^ j : Nat) : Int) * (x : Int) ∧ ((x ^ j : Nat) : Int) * (x : Int) ≤ 1000000000000 := by rw [hp]; omega
      clear h2 hp
      generalize ((x ^ j : Nat) : Int) = y at HS hpb h1 ⊢
      go_wp2
      go_roundw
      case rel => exact ⟨j + 1, by omega, by go_num, by rw [HS.out], by trivial⟩
      case measure => simp [intOf]; omega
    · obtain rfl : j = k := by omega
      go_wp2
      go_ret
      exact ⟨rfl, rfl⟩
set_option maxRecDepth 100000 in
theorem l7Power_any (x k : Nat) (hx : x ≤ 10) (hk : k ≤ 12) (w : World) :
    Calls Try.prog 176 #[.int .i64 (x : Int), .int .i64 (k : Int)] w fun e w' => e = .returned (.int .i64 ((x ^ k : Nat) : Int)) ∧ w' = w := by
  go_enter Try.func176, Try.ntmps176
  go_wp2_with fail
  go_loopw [5, 6] (fun out i wr => ∃ (j : Nat), j ≤ k ∧ i = .int .i64 j ∧ out = .int .i64 ((x ^ j : Nat) : Int) ∧ wr = w) (fun _ i _ => k - (intOf i).toNat)
  case atStart => exact ⟨0, Nat.zero_le _, rfl, rfl, rfl⟩
  case round =>
    obtain ⟨j, hj, rfl, rfl, rfl⟩ := hrel
    by_cases hlt : j < k
    · have h1 := pow_bd x j hx (by omega)
      have h2 := pow_bd x (j + 1) hx (by omega)
      have HS := Lib.hid (pow_step x j)
      have hp := HS.out
      have hpb : 0 ≤ ((x ^ j : Nat) : Int) * (x : Int) ∧ ((x ^ j : Nat) : Int) * (x : Int) ≤ 1000000000000 := by rw [hp]; omega
      clear h2 hp
      generalize ((x ^ j : Nat) : Int) = y at HS hpb h1 ⊢
      go_wp2
      go_roundw
      case rel => exact ⟨j + 1, by omega, by go_num, by rw [HS.out], by trivial⟩
      case measure => simp [intOf]; omega
    · obtain rfl : j = k := by omega
      go_wp2
      go_ret
      exact ⟨rfl, rfl⟩
theorem dr_cast (a b m k : Nat) : ((a ^ k : Nat) : Int) * (((b - a) ^ (m - k) : Nat) : Int) = ((dr a b m k : Nat) : Int) := (Int.natCast_mul _ _).symm
set_option maxRecDepth 100000 in
set_option maxHeartbeats 4000000 in
theorem draws_any (a b m k : Nat) (hb : b ≤ 10) (ha : a ≤ b) (hm : m ≤ 12) (hk : k ≤ m) (w : World) :
    Calls Try.prog 133 #[.agg #[.int .i64 (a : Int), .int .i64 (b : Int)], .int .i64 (m : Int), .int .i64 (k : Int)] w fun e w' => e = .returned (.int .i64 ((dr a b m k : Nat) : Int)) ∧ Below w.heap.size w w' := by
  have HT := Lib.hid (Two.new w (.int .i64 (a : Int)) (.int .i64 (b : Int)) 31 w.heap.size rfl)
  have HB := Lib.hid ((Below.refl w.heap.size w).alloc (Nat.le_refl _) (.cells #[.int .i64 (a : Int), .int .i64 (b : Int)] 31))
  have H1 := Lib.hid (fun W => powerOf_any a k (by omega) (by omega) W)
  have H2 := Lib.hid (fun (W : World) (u v : Int) (hu : u = ((b - a : Nat) : Int)) (hv : v = ((m - k : Nat) : Int)) => by rw [hu, hv]; exact powerOf_any (b - a) (m - k) (by omega) (by omega) W : ∀ (W : World) (u v : Int), u = ((b - a : Nat) : Int) → v = ((m - k : Nat) : Int) → Calls Try.prog 179 #[.int .i64 u, .int .i64 v] W fun e w' => e = .returned (.int .i64 (((b - a) ^ (m - k) : Nat) : Int)) ∧ w' = W)
  have HS := Lib.hid (dr_cast a b m k)
  have h1 := dr_bd a b m k hb ha hm hk
  have hpb : 0 ≤ ((a ^ k : Nat) : Int) * (((b - a) ^ (m - k) : Nat) : Int) ∧ ((a ^ k : Nat) : Int) * (((b - a) ^ (m - k) : Nat) : Int) ≤ 1000000000000 := by rw [HS.out]; omega
  clear h1
  generalize ((a ^ k : Nat) : Int) = y at H1 HS hpb
  generalize (((b - a) ^ (m - k) : Nat) : Int) = z at H2 HS hpb
  go_enter Try.func133, Try.ntmps133
  go_wp2_with fail
  generalize w.alloc (.cells #[.int .i64 (a : Int), .int .i64 (b : Int)] 31) = wa at HT HB ⊢
  have h0 := HT.out.c0
  have h1 := HT.out.c1
  go_quiet (first | (go_at_call 179; with_reducible refine Calls.quiet_of_same (H1.out _)) | (go_at_call 179; with_reducible refine Calls.quiet_of_same (H2.out _ _ _ (by omega) (by omega))))
  go_wp2
  go_ret
  exact ⟨by rw [HS.out]; rfl, below_drewN HB.out _⟩
set_option maxRecDepth 100000 in
set_option maxHeartbeats 4000000 in
theorem l7Parts_any (a b m k : Nat) (hb : b ≤ 10) (ha : a ≤ b) (hm : m ≤ 12) (hk : k ≤ m) (w : World) :
    Calls Try.prog 128 #[.int .i64 (m : Int), .int .i64 (k : Int), .agg #[.int .i64 (a : Int), .int .i64 (b : Int)]] w fun e w' => e = .returned (.int .i64 ((dr a b m k : Nat) : Int)) ∧ Below w.heap.size w w' := by
  have HT := Lib.hid (Two.new w (.int .i64 (a : Int)) (.int .i64 (b : Int)) 31 w.heap.size rfl)
  have HB := Lib.hid ((Below.refl w.heap.size w).alloc (Nat.le_refl _) (.cells #[.int .i64 (a : Int), .int .i64 (b : Int)] 31))
  have H1 := Lib.hid (fun W => l7Power_any a k (by omega) (by omega) W)
  have H2 := Lib.hid (fun (W : World) (u v : Int) (hu : u = ((b - a : Nat) : Int)) (hv : v = ((m - k : Nat) : Int)) => by rw [hu, hv]; exact l7Power_any (b - a) (m - k) (by omega) (by omega) W : ∀ (W : World) (u v : Int), u = ((b - a : Nat) : Int) → v = ((m - k : Nat) : Int) → Calls Try.prog 176 #[.int .i64 u, .int .i64 v] W fun e w' => e = .returned (.int .i64 (((b - a) ^ (m - k) : Nat) : Int)) ∧ w' = W)
  have HS := Lib.hid (dr_cast a b m k)
  have h1 := dr_bd a b m k hb ha hm hk
  have hpb : 0 ≤ ((a ^ k : Nat) : Int) * (((b - a) ^ (m - k) : Nat) : Int) ∧ ((a ^ k : Nat) : Int) * (((b - a) ^ (m - k) : Nat) : Int) ≤ 1000000000000 := by rw [HS.out]; omega
  clear h1
  generalize ((a ^ k : Nat) : Int) = y at H1 HS hpb
  generalize (((b - a) ^ (m - k) : Nat) : Int) = z at H2 HS hpb
  go_enter Try.func128, Try.ntmps128
  go_wp2_with fail
  generalize w.alloc (.cells #[.int .i64 (a : Int), .int .i64 (b : Int)] 31) = wa at HT HB ⊢
  have h0 := HT.out.c0
  have h1 := HT.out.c1
  go_quiet (first | (go_at_call 176; with_reducible refine Calls.quiet_of_same (H1.out _)) | (go_at_call 176; with_reducible refine Calls.quiet_of_same (H2.out _ _ _ (by omega) (by omega))))
  go_wp2
  go_ret
  exact ⟨by rw [HS.out]; rfl, below_drewN HB.out _⟩
set_option maxRecDepth 100000 in
set_option maxHeartbeats 4000000 in
theorem l7Good_any (a b : Int) (w : World) :
    Calls Try.prog 127 #[.agg #[.int .i64 a, .int .i64 b]] w fun e w' => e = .returned (.bool (dOK a b)) ∧ Below w.heap.size w w' := by
  have HT := Lib.hid (Two.new w (.int .i64 a) (.int .i64 b) 31 w.heap.size rfl)
  have HB := Lib.hid ((Below.refl w.heap.size w).alloc (Nat.le_refl _) (.cells #[.int .i64 a, .int .i64 b] 31))
  have H1 := Lib.hid (fun W => l1In_any b 1 10 W)
  have H2 := Lib.hid (fun W => l1In_any a 0 b W)
  unfold dOK
  generalize inB b 1 10 = x at H1 ⊢
  generalize inB a 0 b = y at H2 ⊢
  cases x
  all_goals
    go_enter Try.func127, Try.ntmps127
    go_wp2_with fail
    generalize w.alloc (.cells #[.int .i64 a, .int .i64 b] 31) = wa at HT HB ⊢
    have h0 := HT.out.c0
    have h1 := HT.out.c1
    go_wp2_with (first | (go_at_call 76; with_reducible refine (H1.out _).mono ?_; rintro e w1 ⟨rfl, hw⟩; have hw := hw.symm; subst hw) | (go_at_call 76; with_reducible refine (H2.out _).mono ?_; rintro e w1 ⟨rfl, hw⟩; have hw := hw.symm; subst hw))
    go_ret
    exact ⟨by simp, HB.out⟩
theorem eq_doubt (a b c d : Int) (w : World) : (Op.equalIn 10000 31 (.agg #[.int .i64 a, .int .i64 b]) (.agg #[.int .i64 c, .int .i64 d])).run Try.prog w = .ok (decide (a = c) && decide (b = d)) w := by
  have u3 := Try.underlying3
  have a3 := Try.isAgg3
  have z3 := Try.sizeOf3
  have hS : Try.prog.underlying 31 = some (.struct (Try.prog.fieldsOf 31)) := by kernel_rfl
  have hp : Try.prog.stoodInHeld 31 = false := by kernel_rfl
  rw [show (10000 : Nat) = 9999 + 1 from rfl, run_equalIn_agg w 9999 31 _ _ hS hp]
  simp only [Program.fieldsOf, Try.underlying31]
  go_simp
  by_cases h1 : a = c <;> by_cases h2 : b = d <;> simp [h1, h2]
set_option maxRecDepth 100000 in
set_option maxHeartbeats 4000000 in
theorem isDoubt_impl (a b : Int) (w : World) :
    Calls Try.prog 130 #[.agg #[.int .i64 a, .int .i64 b]] w fun e w' => e = .returned (.bool (dOK a b)) ∧ Below w.heap.size w w' := by
  have HT := Lib.hid (Two.new w (.int .i64 a) (.int .i64 b) 31 w.heap.size rfl)
  have HB := Lib.hid ((Below.refl w.heap.size w).alloc (Nat.le_refl _) (.cells #[.int .i64 a, .int .i64 b] 31))
  have heq := eq_doubt
  have hcase : ∃ x : Int, 1 ≤ x ∧ x ≤ 10 ∧ ((b < 1 ∧ x = 1) ∨ (b = x) ∨ (10 < b ∧ x = 10)) := by
    by_cases h1 : b < 1
    · exact ⟨1, by omega, by omega, .inl ⟨h1, rfl⟩⟩
    · by_cases h2 : b ≤ 10
      · exact ⟨b, by omega, by omega, .inr (.inl rfl)⟩
      · exact ⟨10, by omega, by omega, .inr (.inr ⟨by omega, rfl⟩)⟩
  obtain ⟨x, hx1, hx2, hx⟩ := hcase
  have hcase : ∃ y : Int, 0 ≤ y ∧ y ≤ x ∧ ((a < 0 ∧ y = 0) ∨ (0 ≤ a ∧ a ≤ x ∧ y = a) ∨ (x < a ∧ y = x)) := by
    by_cases h1 : a < 0
    · exact ⟨0, by omega, by omega, .inl ⟨h1, rfl⟩⟩
    · by_cases h2 : a ≤ x
      · exact ⟨a, by omega, by omega, .inr (.inl ⟨by omega, h2, rfl⟩)⟩
      · exact ⟨x, by omega, by omega, .inr (.inr ⟨by omega, rfl⟩)⟩
  obtain ⟨y, hy1, hy2, hy⟩ := hcase
  have hans : (decide (a = y) && decide (b = x)) = dOK a b := by
    rw [Bool.eq_iff_iff, dOK_iff]
    simp only [Bool.and_eq_true, decide_eq_true_eq]
    omega
  rw [← hans]
  clear hans
  rcases hx with ⟨hx, rfl⟩ | rfl | ⟨hx, rfl⟩
  all_goals
    rcases hy with ⟨hy, rfl⟩ | ⟨hy, hy3, rfl⟩ | ⟨hy, rfl⟩
  all_goals
    go_enter Try.func130, Try.ntmps130
    go_wp2_with fail
    generalize w.alloc _ = wa at HT HB ⊢
    have h0 := HT.out.c0
    have h1 := HT.out.c1
    go_wp2
    go_ret
    refine ⟨?_, HB.out⟩
    first
    | rfl
    | (congr 2; simp; try omega)
theorem isDrawn_any (m : Int) (w : World) :
    Calls Try.prog 178 #[.int .i64 m] w fun e w' => e = .returned (.bool (inB m 0 12)) ∧ w' = w := by
  by_cases h1 : 0 ≤ m
  · by_cases h2 : m ≤ 12
    · rw [inB_t h1 h2]
      go_enter Try.func178, Try.ntmps178
      go_wp2
      go_ret
      exact ⟨rfl, rfl⟩
    · rw [inB_f2 h2]
      go_enter Try.func178, Try.ntmps178
      go_wp2
      go_ret
      exact ⟨rfl, rfl⟩
  · rw [inB_f1 h1]
    go_enter Try.func178, Try.ntmps178
    go_wp2
    go_ret
    exact ⟨rfl, rfl⟩
/-- Whether k is a number of m answers, which can be drawn. -/
def mkOK (m k : Int) : Bool := inB m 0 12 && inB k 0 m
theorem mkOK_iff {m k : Int} : mkOK m k = true ↔ (0 ≤ m ∧ m ≤ 12) ∧ 0 ≤ k ∧ k ≤ m := by simp [mkOK, inB]
end Go.Proofs.Ytbgdnidbdfhgjab
