/- True words: as arrays and as numbers; how many places differ. -/
import Derived.Test.YtlhpbhmldcinmaaArr14
namespace Go.Proofs.Ytlhpbhmldcinmaa
open Go.RowKit Go.ChangeShapes Go.WideShapes
set_option linter.unusedVariables false

/-- What trueAnswers fills, place by place. -/
def tbit (qs : List Int) (k : Nat) (i : Nat) : Bool := inQ (qs.getD i 0) k
theorem twN_bit (qs : List Int) (k i : Nat) : (twN qs k).testBit i = (decide (i < qs.length) && tbit qs k i) := by
  unfold twN tbit
  rw [ofB_bit]
theorem getD0 {zs : List Int} {k : Nat} (h : k < zs.length) : zs.getD k 0 = zs[k] := by simp [List.getD, h]

set_option maxRecDepth 100000 in
set_option maxHeartbeats 2000000 in
theorem trueAnswers_any (A : Option Addr) (c lo hi : Nat) (qs : List Int) (n : Nat) (w : World) (hS : Ins w lo hi A qs) (hl : qs.length ≤ 14) (hn : n ≤ 12) :
    Calls Try.prog 118 #[.slice A qs.length c, .int .i64 (n : Int)] w fun e w' => e = .returned (.agg (bwv (twN qs n).testBit)) ∧ Below w.heap.size w w' := by
  have B0 := (Below.refl w.heap.size w).alloc (Nat.le_refl _) (.cells (bwv (fun _ => false)) 102)
  have HT1 := Lib.hid ((W14.new w (fun _ => false) w.heap.size rfl).step ((Below.refl _ _).alloc (Nat.le_refl _) (.cells (bwv (fun _ => false)) 102)))
  have HT2 := Lib.hid (W14.new (w.alloc (.cells (bwv (fun _ => false)) 102)) (fun _ => false) (w.heap.size + 1) (by simp))
  have HB := Lib.hid (B0.alloc (by simp) (.cells (bwv (fun _ => false)) 102))
  have HI := Lib.hid hS
  have htop := hS.top
  have HQ := Lib.hid (fun q W => inQuestion_any q n W hn)
  clear hS B0
  rw [bwv_zero] at HT1 HT2 HB
  go_enter Try.func118, Try.ntmps118
  go_wp2_with fail
  generalize (w.alloc (.cells #[.bool false, .bool false, .bool false, .bool false, .bool false, .bool false, .bool false, .bool false, .bool false, .bool false, .bool false, .bool false, .bool false, .bool false] 102)).alloc (.cells #[.bool false, .bool false, .bool false, .bool false, .bool false, .bool false, .bool false, .bool false, .bool false, .bool false, .bool false, .bool false, .bool false, .bool false] 102) = wa at HT1 HT2 HB ⊢
  go_loopw [10] (fun i wr => ∃ (k : Nat), k ≤ qs.length ∧ i = .int .i64 k ∧ Hid (W14 wr w.heap.size (fun _ => false)) ∧ Hid (W14 wr (w.heap.size + 1) (fun i => decide (i < k) && tbit qs n i)) ∧ Hid (Below w.heap.size w wr)) (fun i _ => qs.length - (intOf i).toNat)
  case atStart => exact ⟨0, Nat.zero_le _, rfl, HT1, Lib.hid (HT2.out.ext fun i _ => by simp), HB⟩
  case round =>
    clear HT1 HT2 HB
    obtain ⟨k, hk, rfl, HT1, HT2, HB⟩ := hrel
    by_cases hlt : k < qs.length
    · have hk14 : k < 14 := by omega
      obtain ⟨b, o, rfl, _, hb, hcq⟩ := (HI.out.ints.below HB.out htop).at_ hlt
      have hc := HT2.out.cell hk14
      have hf := HT2.out.free k
      have HS := Lib.hid ((HT2.out.set (inQ qs[k] n) hk14).ext (q := fun i => decide (i < k + 1) && tbit qs n i) (fun i hi => by
        by_cases e : i = k
        · subst e; simp [tbit, List.getD, hlt]
        · simp [e, show (i < k + 1) = (i < k) by rw [eq_iff_iff]; omega]))
      have HT1' := Lib.hid (HT1.out.far (g := w.heap.size + 1) (by omega) k (.bool (inQ qs[k] n)))
      have HB' := Lib.hid (below_setC HB.out (g := w.heap.size + 1) (by omega) k (.bool (inQ qs[k] n)))
      have HQk := Lib.hid (HQ.out qs[k])
      simp only [show (decide (k < k) && tbit qs n k) = false by simp] at hc
      generalize inQ qs[k] n = bq at HS HT1' HB' HQk
      generalize qs[k] = q at hcq HQk
      go_wp2_with fail
      refine (HQk.out _).mono ?_
      rintro e w1 ⟨rfl, rfl⟩
      go_wp2
      go_roundw
      case rel => exact ⟨k + 1, by omega, by go_num, HT1', HS, HB'⟩
      case measure => simp [intOf]; omega
    · obtain rfl : k = qs.length := by omega
      have HS := Lib.hid (HT2.out.ext (q := (twN qs n).testBit) (fun i hi => by rw [twN_bit]))
      have HR := Lib.hid (HT1.out.put (twN qs n).testBit)
      have HB' := Lib.hid (below_setRow HB.out (g := w.heap.size) (Nat.le_refl _) (bwv (twN qs n).testBit))
      clear HT2 HB
      go_wp2_with (first | (with_reducible refine wpList_load14 rfl (.tmp 5) rfl (w.heap.size + 1) (twN qs n).testBit rfl HS.out ?_) | (with_reducible refine wpList_store14 rfl (.tmp 4) (.tmp 21) rfl w.heap.size (fun _ => false) (twN qs n).testBit rfl rfl HT1.out ?_))
      refine bodyPost_ret (v := .agg (bwv (twN qs n).testBit)) (results_cell_row rfl _ _ w.heap.size _ _ _ _ rfl HR.out.row under_word rfl (info_word' _)) rfl ?_
      exact ⟨rfl, HB'.out⟩

set_option maxRecDepth 100000 in
set_option maxHeartbeats 2000000 in
theorem apart_any (p q : Nat → Bool) (w : World) :
    Calls Try.prog 117 #[.agg (bwv p), .agg (bwv q)] w fun e w' => e = .returned (.int .i64 (cntB (fun i => p i != q i) 14 : Int)) ∧ Below w.heap.size w w' := by
  have B0 := (Below.refl w.heap.size w).alloc (Nat.le_refl _) (.cells (bwv p) 102)
  have HT1 := Lib.hid ((W14.new w p w.heap.size rfl).step ((Below.refl _ _).alloc (Nat.le_refl _) (.cells (bwv q) 102)))
  have HT2 := Lib.hid (W14.new (w.alloc (.cells (bwv p) 102)) q (w.heap.size + 1) (by simp))
  have HB := Lib.hid (B0.alloc (by simp) (.cells (bwv q) 102))
  clear B0
  go_enter Try.func117, Try.ntmps117
  go_wp2_with fail
  generalize (w.alloc (.cells (bwv p) 102)).alloc (.cells (bwv q) 102) = wa at HT1 HT2 HB ⊢
  go_loopw [5, 7] (fun x i wr => ∃ (k n : Nat), k ≤ 14 ∧ i = .int .i64 k ∧ x = .int .i64 (cntB (fun i => p i != q i) k : Int) ∧ wr = wa.drewN n) (fun _ i _ => 14 - (intOf i).toNat)
  case atStart => exact ⟨0, 0, Nat.zero_le _, rfl, rfl, rfl⟩
  case round =>
    obtain ⟨k, n, hk, rfl, rfl, rfl⟩ := hrel
    have hcl := cntB_le (fun i => p i != q i) k
    by_cases hlt : k < 14
    · have h1 := HT1.out.cell hlt
      have h2 := HT2.out.cell hlt
      have HC : Hid (cntB (fun i => p i != q i) (k + 1) = cntB (fun i => p i != q i) k + (if (p k != q k) then 1 else 0)) := rfl
      generalize cntB (fun i => p i != q i) k = m at *
      generalize p k = x at h1 HC
      generalize q k = y at h2 HC
      cases x <;> cases y
      all_goals
        go_wp2_with fail
        go_region_with (fail)
        all_goals
          go_wp2
          go_roundw
          case rel => exact ⟨k + 1, _, by omega, by go_num, by rw [HC.out]; simp, rfl⟩
          case measure => simp [intOf]; omega
    · obtain rfl : k = 14 := by omega
      go_wp2
      go_ret
      exact ⟨rfl, below_drewN HB.out n⟩

theorem or_zero (v : Nat) (h : v < 16384) : bits .or .i64 (v : Int) 0 = (v : Int) := or_nil (by omega)
set_option maxRecDepth 100000 in
set_option maxHeartbeats 2000000 in
theorem l5True_any (A : Option Addr) (c lo hi : Nat) (qs : List Int) (n : Nat) (w : World) (hS : Ins w lo hi A qs) (hl : qs.length ≤ 14) (hn : n ≤ 12) :
    Calls Try.prog 102 #[.slice A qs.length c, .int .i64 (n : Int)] w fun e w' => e = .returned (.int .i64 (twN qs n : Int)) ∧ w' = w := by
  have HI := Lib.hid hS
  have htop := hS.top
  clear hS
  go_enter Try.func102, Try.ntmps102
  go_wp2_with fail
  go_loopw [5, 6] (fun x i wr => ∃ (k : Nat), k ≤ qs.length ∧ i = .int .i64 k ∧ x = .int .i64 (ofB (tbit qs n) k : Int) ∧ wr = w) (fun _ i _ => qs.length - (intOf i).toNat)
  case atStart => exact ⟨0, Nat.zero_le _, rfl, rfl, rfl⟩
  case round =>
    obtain ⟨k, hk, rfl, rfl, rfl⟩ := hrel
    have hlb := ofB_lt (tbit qs n) k
    have hl2 := Nat.lt_of_lt_of_le hlb (pow_mono14 (by omega))
    have hl3 : ofB (tbit qs n) k < 16384 := hl2
    by_cases hlt : k < qs.length
    · obtain ⟨b, o, rfl, _, hb, hcq⟩ := HI.out.ints.at_ hlt
      have hp := pow_le14 k (by omega)
      cases hq : inQ qs[k] n with
      | true =>
        have HO : Hid (bits .or .i64 (ofB (tbit qs n) k : Int) (2 ^ k) = (ofB (tbit qs n) (k + 1) : Int)) := by
          show _ = _
          rw [ofB_yes (p := tbit qs n) (by unfold tbit; rw [getD0 hlt]; exact hq)]
          exact or_pow hlb (by omega)
        have hbit := bit_yes hq
        generalize ofB (tbit qs n) k = v at *
        generalize qs[k] = q at hcq hbit
        clear hlb hq hl2
        go_wp2
        go_roundw
        case rel => exact ⟨k + 1, by omega, by go_num, by rw [← HO.out], by first | trivial | rfl⟩
        case measure => simp [intOf]; omega
      | false =>
        have HO : Hid (bits .or .i64 (ofB (tbit qs n) k : Int) 0 = (ofB (tbit qs n) (k + 1) : Int)) := by
          show _ = _
          rw [ofB_no (p := tbit qs n) (by unfold tbit; rw [getD0 hlt]; exact hq)]
          exact or_zero _ hl2
        have hbit := bit_no hq
        generalize ofB (tbit qs n) k = v at *
        generalize qs[k] = q at hcq hbit
        clear hlb hq hl2
        go_wp2
        go_roundw
        case rel => exact ⟨k + 1, by omega, by go_num, by rw [← HO.out], by first | trivial | rfl⟩
        case measure => simp [intOf]; omega
    · obtain rfl : k = qs.length := by omega
      go_wp2
      go_ret
      exact ⟨rfl, rfl⟩
end Go.Proofs.Ytlhpbhmldcinmaa
