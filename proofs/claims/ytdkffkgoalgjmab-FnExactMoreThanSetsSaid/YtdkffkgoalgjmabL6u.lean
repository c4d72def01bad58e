/- UsefulLess, OpenSpan, LessQuestion: both answers. -/
import Derived.Test.YtdkffkgoalgjmabL6f
namespace Go.Proofs.Ytdkffkgoalgjmab
open Go.RowKit Go.ChangeShapes Go.WideShapes
set_option linter.unusedVariables false

/-- The first i comparisons that part the open numbers. -/
def uTo (zs : List Int) : Nat → List Int
  | 0 => []
  | i + 1 => uTo zs i ++ [((lowN zs + 1 + i : Nat) : Int)]
theorem uTo_len (zs : List Int) : ∀ i, (uTo zs i).length = i
  | 0 => rfl
  | i + 1 => by rw [uTo, List.length_append, uTo_len zs i]; rfl
/-- Those of 1..k that are not vain. -/
def vTo (zs : List Int) : Nat → List Int
  | 0 => []
  | k + 1 => vTo zs k ++ (if vain ((2 : Int) ^ (k + 1) - 1) (opens zs) = true then [] else [((k + 1 : Nat) : Int)])
theorem vTo_len (zs : List Int) : ∀ k, (vTo zs k).length ≤ k
  | 0 => Nat.le_refl _
  | k + 1 => by
    have := vTo_len zs k
    rw [vTo, List.length_append]
    split <;> simp <;> omega
theorem vTo_all {M : Nat} {zs : List Int} (h : Short M zs) : vTo zs (zs.length - 1) = uTo zs (usesL zs) := by
  have : allS6 (fun M zs => decide (vTo zs (zs.length - 1) = uTo zs (usesL zs))) = true := by decide +kernel
  exact of_decide_eq_true (allS6_at this h)
theorem span_none {zs : List Int} (h : (opens zs).length = 0) : lowN zs = 0 ∧ highN zs = 0 := by
  have : opens zs = [] := List.eq_nil_of_length_eq_zero h
  simp [lowN, highN, this]
/-- What OpenSpan answers for a short state. -/
theorem openSpan_impl_short (A : Option Addr) (c lo hi : Nat) (zs : List Int) (M : Nat) (w : World) (hS : Ins w lo hi A zs) (hs : Short M zs) :
    Calls Try.prog 145 #[.agg #[.slice A zs.length c, .int .i64 (M : Int)]] w fun e w' => e = .returned (.tuple #[.int .i64 (lowN zs : Int), .int .i64 (highN zs : Int), .bool (decide (0 < (opens zs).length))]) ∧ Below w.heap.size w w' := by
  by_cases h : 0 < (opens zs).length
  · rw [decide_eq_true h]
    exact openSpan_impl_yes A c lo hi zs M w hS hs.valid (shortB_iff.2 ⟨M, rfl, hs⟩) h
  · have h2 := span_none (zs := zs) (by omega)
    rw [decide_eq_false h, h2.1, h2.2]
    exact openSpan_impl_none A c lo hi zs M w hS hs.valid (shortB_iff.2 ⟨M, rfl, hs⟩) (by omega)
theorem openSpan_impl_not (A : Option Addr) (c lo hi : Nat) (zs : List Int) (m : Int) (w : World) (hS : Ins w lo hi A zs) (hn : zs.length ≤ 1048576) (hsh : shortB zs m = false) :
    Calls Try.prog 145 #[.agg #[.slice A zs.length c, .int .i64 m]] w fun e w' => e = .returned (.tuple #[.int .i64 0, .int .i64 0, .bool false]) ∧ Below w.heap.size w w' := by
  cases hst : isSt zs m with
  | true => exact openSpan_impl_long A c lo hi zs m w hS hst hsh
  | false => exact openSpan_impl_bad A c lo hi zs m w hS hn hst
set_option maxRecDepth 100000 in
set_option maxHeartbeats 4000000 in
theorem usefulLess_impl (A : Option Addr) (c lo hi : Nat) (zs : List Int) (M : Nat) (w : World) (hS : Ins w lo hi A zs) (hs : Short M zs) :
    Calls Try.prog 136 #[.agg #[.slice A zs.length c, .int .i64 (M : Int)]] w fun e w' => ∃ v, e = .returned (.tuple #[v, .bool true]) ∧ w'.ownsRow (w.heap.size + 1) 3 1 v (uTo zs (usesL zs)).length ((uTo zs (usesL zs)).map (Value.int .i64)) ∧ Below w.heap.size w w' := by
  obtain ⟨i0, hi0, hz0, hz1, hz2⟩ := info_parts infoI3
  have hl5 := hs.len
  have HX := Lib.hid (Arg.next (Below.refl w.heap.size w) (.slice A zs.length c) (.int .i64 (M : Int)) 36 w.heap.size rfl)
  have HI := Lib.hid (hS.step HX.out.below)
  have HH := Lib.hid (fun W h => isShort_any A c lo hi zs (M : Int) W h (by omega))
  rw [shortB_iff.2 ⟨M, rfl, hs⟩] at HH
  have HP := Lib.hid (fun W h => openSpan_impl_short A c lo hi zs M W h hs)
  have hsp := span_bd hs
  have HU : Hid (usesL zs = highN zs - lowN zs) := Lib.hid rfl
  clear hS hs
  go_enter Try.func136, Try.ntmps136
  go_wp2_with fail
  generalize w.alloc (.cells #[.slice A zs.length c, .int .i64 (M : Int)] 36) = w0 at HX HI ⊢
  have h0 := HX.out.c0
  have h1 := HX.out.c1
  refine (HH.out w0 HI.out).mono ?_
  rintro e w1 ⟨rfl, hb⟩
  replace HX := Lib.hid (HX.out.step hb)
  replace HI := Lib.hid (HI.out.step hb)
  replace h0 := HX.out.c0
  replace h1 := HX.out.c1
  clear hb
  have O0 := Lib.hid (O0_any w1 (w.heap.size + 1) HX.out.hi)
  have hba := (Below.refl w1.heap.size w1).alloc (Nat.le_refl _) (.cells #[] 3)
  replace HX := Lib.hid (HX.out.step hba)
  replace HI := Lib.hid (HI.out.step hba)
  replace h0 := HX.out.c0
  replace h1 := HX.out.c1
  clear hba
  go_wp2_with fail
  generalize w1.alloc (.cells #[] 3) = w2 at HX HI h0 h1 O0 ⊢
  generalize (Value.slice (some ⟨w1.heap.size, 0, none⟩) 0 0) = v0 at O0 ⊢
  refine (HP.out w2 HI.out).mono ?_
  rintro e w3 ⟨rfl, hb⟩
  replace HX := Lib.hid (HX.out.step hb)
  replace O0 := Lib.hid (ownsRow_past6 O0.out (Past.of_below hb))
  have hsz3 := HX.out.hi
  clear hb h0 h1 HI HP HH
  have HZ : Hid (uTo zs 0 = []) := Lib.hid rfl
  generalize hlo : lowN zs = low at hsp HU ⊢
  generalize highN zs = high at hsp HU ⊢
  have HLo := Lib.hid hlo
  clear hlo
  have hl12 : low ≤ 12 ∧ high ≤ 12 := by omega
  go_wp2_with fail
  go_loopw [4, 8] (fun v i wr => ∃ (j : Nat), j ≤ high - low ∧ i = .int .i64 ((low : Int) + 1 + (j : Int)) ∧ Hid (wr.ownsRow (w.heap.size + 1) 3 1 v (uTo zs j).length ((uTo zs j).map (Value.int .i64))) ∧ Hid (Past (w.heap.size + 1) w3 wr)) (fun _ i _ => high + 1 - (intOf i).toNat)
  case atStart => exact ⟨0, Nat.zero_le _, by simp, Lib.hid (by rw [HZ.out]; exact O0.out), Lib.hid (Past.refl _ _)⟩
  case round =>
    clear O0
    obtain ⟨j, hj, rfl, HO, HPs⟩ := hrel
    rename World => wr
    have hsz := HPs.out.size
    have hul := uTo_len zs j
    by_cases hlt : j < high - low
    · have HF : Hid (uTo zs (j + 1) = uTo zs j ++ [(low : Int) + 1 + (j : Int)]) := Lib.hid (by rw [uTo, HLo.out]; simp)
      generalize uTo zs j = F at HO HF hul
      have hown := HO.out
      have hll : (low : Int) + 1 + (j : Int) ≤ (high : Int) := by omega
      go_wp2_with (at_builtin; refine wpList_append_own _ rfl (.tmp 27) (.tmp 29) 22 rfl (w.heap.size + 1) 3 i0 (.int .i64 0) 1 8 Try.underlying22 hi0 hz0 hz1 hz2 rfl (by decide) _ _ _ rfl (hown.alloc _) ⟨wr.heap.size, 0, none⟩ 1 1 [.int .i64 ((low : Int) + 1 + (j : Int))] rfl rfl (cell_one_new _ _ _) (by simp [Value.oneCell']) (by unfold maxLen; omega) (by omega) (by simp; omega) ?_; intro v' w9 hown' hgrow _)
      have HO2 := Lib.hid (own_snocI hown' rfl)
      have HP2 := Lib.hid (HPs.out.trans (Past.grown hown hgrow))
      clear hown' hgrow hown HO
      go_wp2
      go_roundw
      case rel => exact ⟨j + 1, by omega, by first | rfl | (simp; omega) | simp, Lib.hid (by rw [HF.out]; exact HO2.out), HP2⟩
      case measure => simp [intOf]; omega
    · obtain rfl : j = high - low := by omega
      rw [← HU.out] at HO
      have hll : ¬ ((low : Int) + 1 + ((high - low : Nat) : Int) ≤ (high : Int)) := by omega
      go_wp2
      go_ret2
      exact ⟨_, rfl, HO.out, HX.out.below.trans (HPs.out.below (by omega) (Nat.le_of_lt (by omega)))⟩
set_option maxRecDepth 100000 in
set_option maxHeartbeats 4000000 in
theorem usefulLess_no (A : Option Addr) (c lo hi : Nat) (zs : List Int) (m : Int) (w : World) (hS : Ins w lo hi A zs) (hn : zs.length ≤ 1048576) (hsh : shortB zs m = false) :
    Calls Try.prog 136 #[.agg #[.slice A zs.length c, .int .i64 m]] w fun e w' => ∃ B, e = .returned (.tuple #[.slice B 0 0, .bool false]) ∧ Res w' w.heap.size w'.heap.size B [] ∧ Below w.heap.size w w' := by
  have HX := Lib.hid (Arg.next (Below.refl w.heap.size w) (.slice A zs.length c) (.int .i64 m) 36 w.heap.size rfl)
  have HI := Lib.hid (hS.step HX.out.below)
  have HH := Lib.hid (fun W h => isShort_any A c lo hi zs m W h hn)
  rw [hsh] at HH
  clear hS
  go_enter Try.func136, Try.ntmps136
  go_wp2_with fail
  generalize w.alloc (.cells #[.slice A zs.length c, .int .i64 m] 36) = w0 at HX HI ⊢
  have h0 := HX.out.c0
  have h1 := HX.out.c1
  refine (HH.out w0 HI.out).mono ?_
  rintro e w1 ⟨rfl, hb⟩
  replace HX := Lib.hid (HX.out.step hb)
  replace HI := Lib.hid (HI.out.step hb)
  replace h0 := HX.out.c0
  replace h1 := HX.out.c1
  clear hb
  go_wp2
  go_ret2
  exact ⟨_, rfl, empty_res w1 w.heap.size HX.out.below.size, HX.out.below.alloc HX.out.below.size _⟩
end Go.Proofs.Ytdkffkgoalgjmab
