/- GapOf and IsSafe: both. -/
import Derived.Test.YtlhpbhmldcinmaaGap
import Derived.Test.YtlhpbhmldcinmaaQOf
namespace Go.Proofs.Ytlhpbhmldcinmaa
open Go.RowKit Go.ChangeShapes Go.WideShapes
set_option linter.unusedVariables false

set_option maxRecDepth 100000 in
set_option maxHeartbeats 2000000 in
theorem l5Apart_any (a b : Nat) (w : World) (ha : a < 2 ^ 14) (hb : b < 2 ^ 14) :
    Calls Try.prog 103 #[.int .i64 (a : Int), .int .i64 (b : Int)] w fun e w' => e = .returned (.int .i64 (apartN a b : Int)) ∧ w' = w := by
  have hx : bits .xor .i64 (a : Int) (b : Int) = ((a ^^^ b : Nat) : Int) := i64_xor a b (by omega) (by omega)
  have hX : a ^^^ b < 2 ^ 14 := Nat.xor_lt_two_pow ha hb
  have hR : apartN a b = cntB (a ^^^ b).testBit 14 := apartN_xor a b
  rw [hR]
  clear hR
  have HX := Lib.hid hx
  generalize a ^^^ b = X at *
  have hX2 : X < 16384 := hX
  clear HX ha hb hX
  go_enter Try.func103, Try.ntmps103
  go_wp2_with fail
  clear hx
  go_loopw [5, 6] (fun m x wr => ∃ (j : Nat), j ≤ 14 ∧ x = .int .i64 ((X / 2 ^ j : Nat) : Int) ∧ m = .int .i64 (cntB X.testBit j : Int) ∧ wr = w) (fun _ x _ => (intOf x).toNat)
  case atStart => exact ⟨0, Nat.zero_le _, by simp, rfl, rfl⟩
  case round =>
    obtain ⟨j, hj, rfl, rfl, rfl⟩ := hrel
    have hcl := cntB_le X.testBit j
    have hdl := Nat.div_le_self X (2 ^ j)
    by_cases hz : X / 2 ^ j = 0
    · have HE := Lib.hid (cnt_end hz hj)
      rw [hz]
      clear hz hdl
      go_wp2
      go_ret
      rw [HE.out]
      exact ⟨rfl, rfl⟩
    · have hj14 : j < 14 := by
        rcases Nat.lt_or_ge j 14 with h | h
        · exact h
        · exact absurd (Nat.div_eq_of_lt (Nat.lt_of_lt_of_le hX2 (show (16384 : Nat) ≤ 2 ^ j from Nat.pow_le_pow_right (n := 2) (i := 14) (by omega) h))) hz
      have HS := Lib.hid (cnt_step X j)
      have HD := Lib.hid (div_step X j)
      have hand := i64_and1 (X / 2 ^ j) (by omega)
      generalize cntB X.testBit j = m at HS hcl ⊢
      generalize X / 2 ^ j = y at HS HD hand hz hdl ⊢
      have h2 := Nat.mod_two_eq_zero_or_one y
      generalize y % 2 = z at HS hand h2
      go_wp2
      go_roundw
      case rel => exact ⟨j + 1, by omega, by rw [← HD.out]; norm_cast, by rw [HS.out]; push_cast; rfl, by first | trivial | rfl⟩
      case measure => simp [intOf]; omega

/-- The gap on the way: none ahead of the first pair. -/
def gV (L : List Nat) (k j : Nat) : Nat := if k = 0 ∨ (k = 1 ∧ j = 0) then 0 else gIn L k j (gTo L k)
theorem gV_le (L : List Nat) (k j : Nat) : gV L k j ≤ 14 := by
  unfold gV
  split
  · omega
  · exact gIn_le14 L k j
theorem gV_first (L : List Nat) : gV L 1 1 = apartN (L.getD 1 0) (L.getD 0 0) := by
  have := apartN_le (L.getD 1 0) (L.getD 0 0)
  show (if (1 = 0 ∨ (1 = 1 ∧ 1 = 0)) then 0 else min 14 (apartN (L.getD 1 0) (L.getD 0 0))) = _
  rw [if_neg (by omega)]
  omega
theorem gV_next {L : List Nat} {k j : Nat} (h : 2 ≤ k) : gV L k (j + 1) = min (gV L k j) (apartN (L.getD k 0) (L.getD j 0)) := by
  unfold gV
  rw [if_neg (by omega), if_neg (by omega)]
  rfl
theorem gV_out (L : List Nat) (k : Nat) : gV L (k + 1) 0 = gV L k k := by
  unfold gV
  by_cases h0 : k = 0
  · subst h0; simp
  · rw [if_neg (by omega), if_neg (by omega)]
    rfl
theorem gV_end {L : List Nat} (h : 1 ≤ L.length) : gV L L.length 0 = gapN L := by
  unfold gV gapN
  by_cases h1 : L.length = 1
  · simp [h1]
  · rw [if_neg (by omega), if_neg (by omega)]
    rfl

set_option maxRecDepth 100000 in
set_option maxHeartbeats 4000000 in
theorem l5Gap_any (A : Option Addr) (c lo hi : Nat) (qs : List Int) (n : Nat) (w : World) (hS : Ins w lo hi A (twI qs n)) (hl : qs.length ≤ 14) (hn : 1 ≤ n ∧ n ≤ 12) :
    Calls Try.prog 87 #[.slice A n c] w fun e w' => e = .returned (.int .i64 (gapN (twL qs n) : Int)) ∧ Below w.heap.size w w' := by
  have HI := Lib.hid hS
  have htop := hS.top
  have HG : Hid (gV (twL qs n) n 0 = gapN (twL qs n)) := Lib.hid (by
    have := gV_end (L := twL qs n) (by rw [twL_len]; exact hn.1)
    rwa [twL_len] at this)
  have HA := Lib.hid (fun k j W => l5Apart_any (twN qs k) (twN qs j) W (twN_14 hl k) (twN_14 hl j))
  have HL := Lib.hid (twI_len qs n)
  clear hS
  go_enter Try.func87, Try.ntmps87
  go_wp2_with fail
  go_loopw [3, 4] (fun x i wr => ∃ (k q : Nat), k ≤ n ∧ i = .int .i64 k ∧ x = .int .i64 (gV (twL qs n) k 0 : Int) ∧ wr = w.drewN q) (fun _ i _ => n - (intOf i).toNat)
  case atStart => exact ⟨0, 0, Nat.zero_le _, rfl, rfl, rfl⟩
  case round =>
    obtain ⟨k, q, hk, rfl, rfl, rfl⟩ := hrel
    by_cases hlt : k < n
    · go_wp2_with fail
      go_loopw [3, 5] (fun x i wr => ∃ (j q : Nat), j ≤ k ∧ i = .int .i64 j ∧ x = .int .i64 (gV (twL qs n) k j : Int) ∧ wr = w.drewN q) (fun _ i _ => k - (intOf i).toNat)
      case atStart => exact ⟨0, q, Nat.zero_le _, rfl, rfl, rfl⟩
      case round =>
        obtain ⟨j, q2, hj, rfl, rfl, rfl⟩ := hrel
        by_cases hlj : j < k
        · obtain ⟨b, o, rfl, _, _, hcs⟩ := HI.out.ints (by rw [HL.out]; omega)
          have hck := hcs k _ (List.getElem?_eq_getElem (by rw [HL.out]; exact hlt))
          have hcj := hcs j _ (List.getElem?_eq_getElem (by rw [HL.out]; omega))
          rw [twI_at] at hck hcj
          have HAk := Lib.hid (HA.out k j)
          have hap := apartN_le (twN qs k) (twN qs j)
          have hgv := gV_le (twL qs n) k j
          have hk1 := twN_14 hl k
          have hk2 := twN_14 hl j
          have hk3 : twN qs k < 16384 := hk1
          have hk4 : twN qs j < 16384 := hk2
          clear hcs hk1 hk2
          by_cases h1 : k = 1
          · have hj0 : j = 0 := by omega
            have HS : Hid (gV (twL qs n) k (j + 1) = apartN (twN qs k) (twN qs j)) := Lib.hid (by subst h1 hj0; rw [gV_first, twL_at hlt, twL_at (by omega)])
            have e1 : ((k : Int) == 1) = true := by simp [h1]
            have e2 : ((j : Int) == 0) = true := by simp [hj0]
            clear h1 hj0
            generalize apartN (twN qs k) (twN qs j) = a at HAk HS hap
            generalize gV (twL qs n) k j = x at hgv ⊢
            generalize twN qs k = u at hck HAk hk3
            generalize twN qs j = v at hcj HAk hk4
            go_wp2_with fail
            go_region_with ((go_at_call 103; refine (HAk.out _).mono ?_; rintro e w1 ⟨rfl, rfl⟩))
            all_goals
              go_wp2
              go_roundw
              case rel => exact ⟨j + 1, _, by omega, by go_num, by rw [HS.out], rfl⟩
              case measure => simp [intOf]; omega
          · have HS : Hid (gV (twL qs n) k (j + 1) = min (gV (twL qs n) k j) (apartN (twN qs k) (twN qs j))) := Lib.hid (by rw [gV_next (by omega), twL_at hlt, twL_at (by omega)])
            generalize apartN (twN qs k) (twN qs j) = a at HAk HS hap
            generalize gV (twL qs n) k j = x at hgv HS ⊢
            generalize twN qs k = u at hck HAk hk3
            generalize twN qs j = v at hcj HAk hk4
            by_cases hmin : (a : Int) < (x : Int)
            all_goals
              first
              | (rw [show min x a = a by omega] at HS)
              | (rw [show min x a = x by omega] at HS)
              go_wp2_with fail
              go_region_with ((go_at_call 103; refine (HAk.out _).mono ?_; rintro e w1 ⟨rfl, rfl⟩))
              all_goals
                go_wp2
                go_roundw
                case rel => exact ⟨j + 1, _, by omega, by go_num, by rw [HS.out], rfl⟩
                case measure => simp [intOf]; omega
        · obtain rfl : j = k := by omega
          have HO := Lib.hid (gV_out (twL qs n) j)
          go_wp2
          go_roundw
          case rel => exact ⟨j + 1, q2, by omega, by go_num, by rw [HO.out], rfl⟩
          case measure => simp [intOf]; omega
    · obtain rfl : k = n := by omega
      go_wp2
      go_ret
      rw [HG.out]
      exact ⟨rfl, below_drewN (Below.refl _ _) _⟩

/-- What is said of a scheme that is valid. -/
def gAns (n : Int) (qs : List Int) : Nat := if isSch n qs then gapN (twL qs n.toNat) else 0
set_option maxRecDepth 100000 in
set_option maxHeartbeats 2000000 in
theorem gapOf_impl (A : Option Addr) (c lo hi : Nat) (n : Int) (qs : List Int) (w : World) (hS : Ins w lo hi A qs) (hl : qs.length ≤ 1048576) :
    Calls Try.prog 88 #[.int .i64 n, .slice A qs.length c] w fun e w' => e = .returned (.tuple #[.int .i64 (gAns n qs : Int), .bool (isSch n qs)]) ∧ Below w.heap.size w w' := by
  have HI := Lib.hid hS
  have HC := Lib.hid (fun W h => isScheme_impl A c lo hi n qs W h hl)
  clear hS
  unfold gAns
  cases hs : isSch n qs with
  | false =>
    rw [hs] at HC
    clear hs
    go_enter Try.func88, Try.ntmps88
    go_wp2_with fail
    refine (HC.out w HI.out).mono ?_
    rintro e w1 ⟨rfl, rfl⟩
    go_wp2
    go_ret2
    exact ⟨rfl, Below.refl _ _⟩
  | true =>
    obtain ⟨hn, hl14, _⟩ := isSch_iff.1 hs
    obtain ⟨k, rfl⟩ : ∃ k : Nat, n = (k : Int) := ⟨n.toNat, by omega⟩
    rw [hs] at HC
    have HT := Lib.hid (fun W h => allTrue_any A c lo hi qs k W h hl14 (by omega))
    have HG := Lib.hid (fun b W h => gapOf_any b k qs k W h (by omega))
    clear hs
    go_enter Try.func88, Try.ntmps88
    go_wp2_with fail
    refine (HC.out w HI.out).mono ?_
    rintro e w1 ⟨rfl, rfl⟩
    go_wp2_with fail
    refine (HT.out _ HI.out).mono ?_
    rintro e w2 ⟨rfl, hW, hb⟩
    have HW := Lib.hid hW
    have HB := Lib.hid hb
    clear hW hb
    go_wp2_with fail
    refine (HG.out _ _ HW.out).mono ?_
    rintro e w3 ⟨rfl, hb⟩
    have HB2 := Lib.hid (below_trans HB.out hb)
    clear hb HB HW
    go_wp2
    go_ret2
    exact ⟨rfl, HB2.out⟩
end Go.Proofs.Ytlhpbhmldcinmaa
