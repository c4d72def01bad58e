/- True words: as arrays and as numbers; how many places differ. -/
import Derived.Test.YtpjoljaamakagaaArr14
namespace Go.Proofs.Ytpjoljaamakagaa
open Go.RowKit Go.ChangeShapes Go.WideShapes
set_option linter.unusedVariables false

/-- What trueAnswers fills, place by place. -/
def tbit (qs : List Int) (k : Nat) (i : Nat) : Bool := inQ (qs.getD i 0) k
theorem twN_bit (qs : List Int) (k i : Nat) : (twN qs k).testBit i = (decide (i < qs.length) && tbit qs k i) := by
  unfold twN tbit
  rw [ofB_bit]
theorem getD0 {zs : List Int} {k : Nat} (h : k < zs.length) : zs.getD k 0 = zs[k] := by simp [List.getD, h]

set_option maxRecDepth 100000 in
set_option maxHeartbeats 2000000 in
theorem trueAnswers_any (A : Option Addr) (c lo hi : Nat) (qs : List Int) (n : Nat) (w : World) (hS : Ins w lo hi A qs) (hl : qs.length ≤ 14) (hn : n ≤ 12) :
    Calls Try.prog 92 #[.slice A qs.length c, .int .i64 (n : Int)] w fun e w' => e = .returned (.agg (bwv (twN qs n).testBit)) ∧ Below w.heap.size w w' := by
  have B0 := (Below.refl w.heap.size w).alloc (Nat.le_refl _) (.cells (bwv (fun _ => false)) 120)
  have HT1 := Lib.hid ((W14.new w (fun _ => false) w.heap.size rfl).step ((Below.refl _ _).alloc (Nat.le_refl _) (.cells (bwv (fun _ => false)) 120)))
  have HT2 := Lib.hid (W14.new (w.alloc (.cells (bwv (fun _ => false)) 120)) (fun _ => false) (w.heap.size + 1) (by simp))
  have HB := Lib.hid (B0.alloc (by simp) (.cells (bwv (fun _ => false)) 120))
  have HI := Lib.hid hS
  have htop := hS.top
  have HQ := Lib.hid (fun q W => inQuestion_any q n W hn)
  clear hS B0
  rw [bwv_zero] at HT1 HT2 HB
  go_enter Try.func92, Try.ntmps92
  go_wp2_with fail
  generalize (w.alloc (.cells #[.bool false, .bool false, .bool false, .bool false, .bool false, .bool false, .bool false, .bool false, .bool false, .bool false, .bool false, .bool false, .bool false, .bool false] 120)).alloc (.cells #[.bool false, .bool false, .bool false, .bool false, .bool false, .bool false, .bool false, .bool false, .bool false, .bool false, .bool false, .bool false, .bool false, .bool false] 120) = wa at HT1 HT2 HB ⊢
  go_loopw [10] (fun i wr => ∃ (k : Nat), k ≤ qs.length ∧ i = .int .i64 k ∧ Hid (W14 wr w.heap.size (fun _ => false)) ∧ Hid (W14 wr (w.heap.size + 1) (fun i => decide (i < k) && tbit qs n i)) ∧ Hid (Below w.heap.size w wr)) (fun i _ => qs.length - (intOf i).toNat)
  case atStart => exact ⟨0, Nat.zero_le _, rfl, HT1, Lib.hid (HT2.out.ext fun i _ => by simp), HB⟩
  case round =>
    clear HT1 HT2 HB
    obtain ⟨k, hk, rfl, HT1, HT2, HB⟩ := hrel
    by_cases hlt : k < qs.length
    · have hk14 : k < 14 := by omega
      obtain ⟨b, o, rfl, _, hb, hcq⟩ := (HI.out.ints.below HB.out htop).at_ hlt
      have hc := HT2.out.cell hk14
      have hf := HT2.out.free k
      have HS := Lib.hid ((HT2.out.set (inQ qs[k] n) hk14).ext (q := fun i => decide (i < k + 1) && tbit qs n i) (fun i hi => by
        by_cases e : i = k
        · subst e; simp [tbit, List.getD, hlt]
        · simp [e, show (i < k + 1) = (i < k) by rw [eq_iff_iff]; omega]))
      have HT1' := Lib.hid (HT1.out.far (g := w.heap.size + 1) (by omega) k (.bool (inQ qs[k] n)))
      have HB' := Lib.hid (below_setC HB.out (g := w.heap.size + 1) (by omega) k (.bool (inQ qs[k] n)))
      have HQk := Lib.hid (HQ.out qs[k])
      simp only [show (decide (k < k) && tbit qs n k) = false by simp] at hc
      generalize inQ qs[k] n = bq at HS HT1' HB' HQk
      generalize qs[k] = q at hcq HQk
      go_wp2_with fail
      refine (HQk.out _).mono ?_
      rintro e w1 ⟨rfl, rfl⟩
      go_wp2
      go_roundw
      case rel => exact ⟨k + 1, by omega, by go_num, HT1', HS, HB'⟩
      case measure => simp [intOf]; omega
    · obtain rfl : k = qs.length := by omega
      have HS := Lib.hid (HT2.out.ext (q := (twN qs n).testBit) (fun i hi => by rw [twN_bit]))
      have HR := Lib.hid (HT1.out.put (twN qs n).testBit)
      have HB' := Lib.hid (below_setRow HB.out (g := w.heap.size) (Nat.le_refl _) (bwv (twN qs n).testBit))
      clear HT2 HB
      go_wp2_with (first | (with_reducible refine wpList_load14 rfl (.tmp 5) rfl (w.heap.size + 1) (twN qs n).testBit rfl HS.out ?_) | (with_reducible refine wpList_store14 rfl (.tmp 4) (.tmp 21) rfl w.heap.size (fun _ => false) (twN qs n).testBit rfl rfl HT1.out ?_))
      refine bodyPost_ret (v := .agg (bwv (twN qs n).testBit)) (results_cell_row rfl _ _ w.heap.size _ _ _ _ rfl HR.out.row under_word rfl (info_word' _)) rfl ?_
      exact ⟨rfl, HB'.out⟩

theorem or_zero (v : Nat) (h : v < 16384) : bits .or .i64 (v : Int) 0 = (v : Int) := or_nil (by omega)
end Go.Proofs.Ytpjoljaamakagaa
