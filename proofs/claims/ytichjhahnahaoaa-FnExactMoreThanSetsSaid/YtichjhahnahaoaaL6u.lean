/- UsefulLess, OpenSpan, LessQuestion: both answers. -/
import Derived.Test.YtichjhahnahaoaaL6f
namespace Go.Proofs.Ytichjhahnahaoaa
open Go.RowKit Go.ChangeShapes Go.WideShapes
set_option linter.unusedVariables false

/-- The first i comparisons that part the open numbers. -/
def uTo (zs : List Int) : Nat → List Int
  | 0 => []
  | i + 1 => uTo zs i ++ [((lowN zs + 1 + i : Nat) : Int)]
theorem uTo_len (zs : List Int) : ∀ i, (uTo zs i).length = i
  | 0 => rfl
  | i + 1 => by rw [uTo, List.length_append, uTo_len zs i]; rfl
/-- Those of 1..k that are not vain. -/
def vTo (zs : List Int) : Nat → List Int
  | 0 => []
  | k + 1 => vTo zs k ++ (if vain ((2 : Int) ^ (k + 1) - 1) (opens zs) = true then [] else [((k + 1 : Nat) : Int)])
theorem vTo_len (zs : List Int) : ∀ k, (vTo zs k).length ≤ k
  | 0 => Nat.le_refl _
  | k + 1 => by
    have := vTo_len zs k
    rw [vTo, List.length_append]
    split <;> simp <;> omega
theorem vTo_all {M : Nat} {zs : List Int} (h : Short M zs) : vTo zs (zs.length - 1) = uTo zs (usesL zs) := by
  have : allS6 (fun M zs => decide (vTo zs (zs.length - 1) = uTo zs (usesL zs))) = true := by decide +kernel
  exact of_decide_eq_true (allS6_at this h)
theorem span_none {zs : List Int} (h : (opens zs).length = 0) : lowN zs = 0 ∧ highN zs = 0 := by
  have : opens zs = [] := List.eq_nil_of_length_eq_zero h
  simp [lowN, highN, this]
/-- What OpenSpan answers for a short state. -/
theorem openSpan_impl_short (A : Option Addr) (c lo hi : Nat) (zs : List Int) (M : Nat) (w : World) (hS : Ins w lo hi A zs) (hs : Short M zs) :
    Calls Try.prog 46 #[.agg #[.slice A zs.length c, .int .i64 (M : Int)]] w fun e w' => e = .returned (.tuple #[.int .i64 (lowN zs : Int), .int .i64 (highN zs : Int), .bool (decide (0 < (opens zs).length))]) ∧ Below w.heap.size w w' := by
  by_cases h : 0 < (opens zs).length
  · rw [decide_eq_true h]
    exact openSpan_impl_yes A c lo hi zs M w hS hs.valid (shortB_iff.2 ⟨M, rfl, hs⟩) h
  · have h2 := span_none (zs := zs) (by omega)
    rw [decide_eq_false h, h2.1, h2.2]
    exact openSpan_impl_none A c lo hi zs M w hS hs.valid (shortB_iff.2 ⟨M, rfl, hs⟩) (by omega)
theorem openSpan_spec_short (A : Option Addr) (c lo hi : Nat) (zs : List Int) (M : Nat) (w : World) (hS : Ins w lo hi A zs) (hs : Short M zs) :
    Calls Try.prog 45 #[.agg #[.slice A zs.length c, .int .i64 (M : Int)]] w fun e w' => e = .returned (.tuple #[.int .i64 (lowN zs : Int), .int .i64 (highN zs : Int), .bool (decide (0 < (opens zs).length))]) ∧ Below w.heap.size w w' := by
  by_cases h : 0 < (opens zs).length
  · rw [decide_eq_true h]
    exact openSpan_spec_yes A c lo hi zs M w hS hs.valid (shortB_iff.2 ⟨M, rfl, hs⟩) h
  · have h2 := span_none (zs := zs) (by omega)
    rw [decide_eq_false h, h2.1, h2.2]
    exact openSpan_spec_none A c lo hi zs M w hS hs.valid (shortB_iff.2 ⟨M, rfl, hs⟩) (by omega)
theorem openSpan_impl_not (A : Option Addr) (c lo hi : Nat) (zs : List Int) (m : Int) (w : World) (hS : Ins w lo hi A zs) (hn : zs.length ≤ 1048576) (hsh : shortB zs m = false) :
    Calls Try.prog 46 #[.agg #[.slice A zs.length c, .int .i64 m]] w fun e w' => e = .returned (.tuple #[.int .i64 0, .int .i64 0, .bool false]) ∧ Below w.heap.size w w' := by
  cases hst : isSt zs m with
  | true => exact openSpan_impl_long A c lo hi zs m w hS hst hsh
  | false => exact openSpan_impl_bad A c lo hi zs m w hS hn hst
theorem openSpan_both (zs : List Int) (m : Int) (h : zs.length ≤ 1048576) : ∃ (r0 r1 : Int) (r2 : Bool),
    (∀ (w : World) (B : Option Addr) (c lo hi : Nat), Ins w lo hi B zs → Calls Try.prog 46 #[.agg #[.slice B zs.length c, .int .i64 m]] w fun e w' => e = .returned (.tuple #[.int .i64 r0, .int .i64 r1, .bool r2]) ∧ Below w.heap.size w w') ∧
    (∀ (w : World) (B : Option Addr) (c lo hi : Nat), Ins w lo hi B zs → Calls Try.prog 45 #[.agg #[.slice B zs.length c, .int .i64 m]] w fun e w' => e = .returned (.tuple #[.int .i64 r0, .int .i64 r1, .bool r2]) ∧ Below w.heap.size w w') := by
  cases hsh : shortB zs m with
  | true =>
    obtain ⟨M, rfl, hs⟩ := shortB_iff.1 hsh
    exact ⟨_, _, _, fun w B c lo hi hS => openSpan_impl_short B c lo hi zs M w hS hs, fun w B c lo hi hS => openSpan_spec_short B c lo hi zs M w hS hs⟩
  | false => exact ⟨0, 0, false, fun w B c lo hi hS => openSpan_impl_not B c lo hi zs m w hS h hsh, fun w B c lo hi hS => openSpan_spec_not B c lo hi zs m w hS h hsh⟩

set_option maxRecDepth 100000 in
set_option maxHeartbeats 4000000 in
theorem usefulLess_impl (A : Option Addr) (c lo hi : Nat) (zs : List Int) (M : Nat) (w : World) (hS : Ins w lo hi A zs) (hs : Short M zs) :
    Calls Try.prog 44 #[.agg #[.slice A zs.length c, .int .i64 (M : Int)]] w fun e w' => ∃ v, e = .returned (.tuple #[v, .bool true]) ∧ w'.ownsRow (w.heap.size + 1) 3 1 v (uTo zs (usesL zs)).length ((uTo zs (usesL zs)).map (Value.int .i64)) ∧ Below w.heap.size w w' := by
  obtain ⟨i0, hi0, hz0, hz1, hz2⟩ := info_parts infoI3
  have hl5 := hs.len
  have HX := Lib.hid (Arg.next (Below.refl w.heap.size w) (.slice A zs.length c) (.int .i64 (M : Int)) 30 w.heap.size rfl)
  have HI := Lib.hid (hS.step HX.out.below)
  have HH := Lib.hid (fun W h => isShort_any A c lo hi zs (M : Int) W h (by omega))
  rw [shortB_iff.2 ⟨M, rfl, hs⟩] at HH
  have HP := Lib.hid (fun W h => openSpan_impl_short A c lo hi zs M W h hs)
  have hsp := span_bd hs
  have HU : Hid (usesL zs = highN zs - lowN zs) := Lib.hid rfl
  clear hS hs
  go_enter Try.func44, Try.ntmps44
  go_wp2_with fail
  generalize w.alloc (.cells #[.slice A zs.length c, .int .i64 (M : Int)] 30) = w0 at HX HI ⊢
  have h0 := HX.out.c0
  have h1 := HX.out.c1
  refine (HH.out w0 HI.out).mono ?_
  rintro e w1 ⟨rfl, hb⟩
  replace HX := Lib.hid (HX.out.step hb)
  replace HI := Lib.hid (HI.out.step hb)
  replace h0 := HX.out.c0
  replace h1 := HX.out.c1
  clear hb
  have O0 := Lib.hid (O0_any w1 (w.heap.size + 1) HX.out.hi)
  have hba := (Below.refl w1.heap.size w1).alloc (Nat.le_refl _) (.cells #[] 3)
  replace HX := Lib.hid (HX.out.step hba)
  replace HI := Lib.hid (HI.out.step hba)
  replace h0 := HX.out.c0
  replace h1 := HX.out.c1
  clear hba
  go_wp2_with fail
  generalize w1.alloc (.cells #[] 3) = w2 at HX HI h0 h1 O0 ⊢
  generalize (Value.slice (some ⟨w1.heap.size, 0, none⟩) 0 0) = v0 at O0 ⊢
  refine (HP.out w2 HI.out).mono ?_
  rintro e w3 ⟨rfl, hb⟩
  replace HX := Lib.hid (HX.out.step hb)
  replace O0 := Lib.hid (ownsRow_past6 O0.out (Past.of_below hb))
  have hsz3 := HX.out.hi
  clear hb h0 h1 HI HP HH
  have HZ : Hid (uTo zs 0 = []) := Lib.hid rfl
  generalize hlo : lowN zs = low at hsp HU ⊢
  generalize highN zs = high at hsp HU ⊢
  have HLo := Lib.hid hlo
  clear hlo
  have hl12 : low ≤ 12 ∧ high ≤ 12 := by omega
  go_wp2_with fail
  go_loopw [4, 8] (fun v i wr => ∃ (j : Nat), j ≤ high - low ∧ i = .int .i64 ((low : Int) + 1 + (j : Int)) ∧ Hid (wr.ownsRow (w.heap.size + 1) 3 1 v (uTo zs j).length ((uTo zs j).map (Value.int .i64))) ∧ Hid (Past (w.heap.size + 1) w3 wr)) (fun _ i _ => high + 1 - (intOf i).toNat)
  case atStart => exact ⟨0, Nat.zero_le _, by simp, Lib.hid (by rw [HZ.out]; exact O0.out), Lib.hid (Past.refl _ _)⟩
  case round =>
    clear O0
    obtain ⟨j, hj, rfl, HO, HPs⟩ := hrel
    rename World => wr
    have hsz := HPs.out.size
    have hul := uTo_len zs j
    by_cases hlt : j < high - low
    · have HF : Hid (uTo zs (j + 1) = uTo zs j ++ [(low : Int) + 1 + (j : Int)]) := Lib.hid (by rw [uTo, HLo.out]; simp)
      generalize uTo zs j = F at HO HF hul
      have hown := HO.out
      have hll : (low : Int) + 1 + (j : Int) ≤ (high : Int) := by omega
      go_wp2_with (at_builtin; refine wpList_append_own _ rfl (.tmp 27) (.tmp 29) 25 rfl (w.heap.size + 1) 3 i0 (.int .i64 0) 1 8 Try.underlying25 hi0 hz0 hz1 hz2 rfl (by decide) _ _ _ rfl (hown.alloc _) ⟨wr.heap.size, 0, none⟩ 1 1 [.int .i64 ((low : Int) + 1 + (j : Int))] rfl rfl (cell_one_new _ _ _) (by simp [Value.oneCell']) (by unfold maxLen; omega) (by omega) (by simp; omega) ?_; intro v' w9 hown' hgrow _)
      have HO2 := Lib.hid (own_snocI hown' rfl)
      have HP2 := Lib.hid (HPs.out.trans (Past.grown hown hgrow))
      clear hown' hgrow hown HO
      go_wp2
      go_roundw
      case rel => exact ⟨j + 1, by omega, by first | rfl | (simp; omega) | simp, Lib.hid (by rw [HF.out]; exact HO2.out), HP2⟩
      case measure => simp [intOf]; omega
    · obtain rfl : j = high - low := by omega
      rw [← HU.out] at HO
      have hll : ¬ ((low : Int) + 1 + ((high - low : Nat) : Int) ≤ (high : Int)) := by omega
      go_wp2
      go_ret2
      exact ⟨_, rfl, HO.out, HX.out.below.trans (HPs.out.below (by omega) (Nat.le_of_lt (by omega)))⟩
set_option maxRecDepth 100000 in
set_option maxHeartbeats 4000000 in
theorem usefulLess_no (A : Option Addr) (c lo hi : Nat) (zs : List Int) (m : Int) (w : World) (hS : Ins w lo hi A zs) (hn : zs.length ≤ 1048576) (hsh : shortB zs m = false) :
    Calls Try.prog 44 #[.agg #[.slice A zs.length c, .int .i64 m]] w fun e w' => ∃ B, e = .returned (.tuple #[.slice B 0 0, .bool false]) ∧ Res w' w.heap.size w'.heap.size B [] ∧ Below w.heap.size w w' := by
  have HX := Lib.hid (Arg.next (Below.refl w.heap.size w) (.slice A zs.length c) (.int .i64 m) 30 w.heap.size rfl)
  have HI := Lib.hid (hS.step HX.out.below)
  have HH := Lib.hid (fun W h => isShort_any A c lo hi zs m W h hn)
  rw [hsh] at HH
  clear hS
  go_enter Try.func44, Try.ntmps44
  go_wp2_with fail
  generalize w.alloc (.cells #[.slice A zs.length c, .int .i64 m] 30) = w0 at HX HI ⊢
  have h0 := HX.out.c0
  have h1 := HX.out.c1
  refine (HH.out w0 HI.out).mono ?_
  rintro e w1 ⟨rfl, hb⟩
  replace HX := Lib.hid (HX.out.step hb)
  replace HI := Lib.hid (HI.out.step hb)
  replace h0 := HX.out.c0
  replace h1 := HX.out.c1
  clear hb
  go_wp2
  go_ret2
  exact ⟨_, rfl, empty_res w1 w.heap.size HX.out.below.size, HX.out.below.alloc HX.out.below.size _⟩
set_option maxRecDepth 100000 in
set_option maxHeartbeats 4000000 in
theorem usefulLess_sno (A : Option Addr) (c lo hi : Nat) (zs : List Int) (m : Int) (w : World) (hS : Ins w lo hi A zs) (hn : zs.length ≤ 1048576) (hsh : shortB zs m = false) :
    Calls Try.prog 43 #[.agg #[.slice A zs.length c, .int .i64 m]] w fun e w' => ∃ B, e = .returned (.tuple #[.slice B 0 0, .bool false]) ∧ Res w' w.heap.size w'.heap.size B [] ∧ Below w.heap.size w w' := by
  have HX1 := Lib.hid (Arg.next (Below.refl w.heap.size w) (.slice A zs.length c) (.int .i64 m) 30 w.heap.size rfl)
  have HE0 := Lib.hid (empty_res (w.alloc (.cells #[.slice A zs.length c, .int .i64 m] 30)) w.heap.size (by simp))
  have hba := (Below.refl _ (w.alloc (.cells #[.slice A zs.length c, .int .i64 m] 30))).alloc (Nat.le_refl _) (.cells #[] 3)
  have HX := Lib.hid (HX1.out.step hba)
  have HI := Lib.hid (hS.step HX.out.below)
  clear hba HX1
  have HH := Lib.hid (fun W h => l6Short_any A c lo hi zs m W h hn)
  rw [hsh] at HH
  clear hS
  go_enter Try.func43, Try.ntmps43
  go_wp2_with fail
  generalize (w.alloc (.cells #[.slice A zs.length c, .int .i64 m] 30)).alloc (.cells #[] 3) = w0 at HX HI HE0 ⊢
  refine (HH.out w0 HI.out).mono ?_
  rintro e w1 ⟨rfl, hb⟩
  replace HX := Lib.hid (HX.out.step hb)
  have HE1 := Lib.hid ((HE0.out.step hb).own.wide (Nat.le_refl _) hb.size)
  clear hb HE0
  go_wp2
  go_ret2
  exact ⟨_, rfl, ⟨by simpa using HE1.out, Nat.le_refl _⟩, HX.out.below⟩
set_option maxRecDepth 100000 in
set_option maxHeartbeats 4000000 in
theorem usefulLess_spec (A : Option Addr) (c lo hi : Nat) (zs : List Int) (M : Nat) (w : World) (hS : Ins w lo hi A zs) (hs : Short M zs) :
    Calls Try.prog 43 #[.agg #[.slice A zs.length c, .int .i64 (M : Int)]] w fun e w' => ∃ v, e = .returned (.tuple #[v, .bool true]) ∧ w'.ownsRow (w.heap.size + 1) 3 1 v (uTo zs (usesL zs)).length ((uTo zs (usesL zs)).map (Value.int .i64)) ∧ Below w.heap.size w w' := by
  obtain ⟨i0, hi0, hz0, hz1, hz2⟩ := info_parts infoI3
  have hl5 := hs.len
  have hl1 := hs.pos
  have HX1 := Lib.hid (Arg.next (Below.refl w.heap.size w) (.slice A zs.length c) (.int .i64 (M : Int)) 30 w.heap.size rfl)
  have O0 := Lib.hid (O0_any (w.alloc (.cells #[.slice A zs.length c, .int .i64 (M : Int)] 30)) (w.heap.size + 1) (by simp))
  have hba := (Below.refl _ (w.alloc (.cells #[.slice A zs.length c, .int .i64 (M : Int)] 30))).alloc (Nat.le_refl _) (.cells #[] 3)
  have HX := Lib.hid (HX1.out.step hba)
  have HI0t := Lib.hid hS.top
  have HI := Lib.hid (hS.step HX.out.below)
  have hs1 : Hid ((w.alloc (.cells #[.slice A zs.length c, .int .i64 (M : Int)] 30)).heap.size = w.heap.size + 1) := Lib.hid (by simp)
  rw [hs1.out] at O0
  clear hba HX1 hs1
  have HH := Lib.hid (fun W h => l6Short_any A c lo hi zs (M : Int) W h (by omega))
  rw [shortB_iff.2 ⟨M, rfl, hs⟩] at HH
  have HV := Lib.hid (fun q W h => l2Vain_any A c lo hi zs (M : Int) q W h (by omega))
  have HA := Lib.hid (vTo_all hs)
  clear hS hs
  go_enter Try.func43, Try.ntmps43
  go_wp2_with fail
  generalize (w.alloc (.cells #[.slice A zs.length c, .int .i64 (M : Int)] 30)).alloc (.cells #[] 3) = w0 at HX HI O0 ⊢
  generalize (Value.slice (some ⟨w.heap.size + 1, 0, none⟩) 0 0) = v0 at O0 ⊢
  refine (HH.out w0 HI.out).mono ?_
  rintro e w1 ⟨rfl, hb⟩
  replace HX := Lib.hid (HX.out.step hb)
  replace HI := Lib.hid (HI.out.step hb)
  replace O0 := Lib.hid (ownsRow_past6 O0.out (Past.of_below hb))
  have hsz1 := HX.out.hi
  clear hb HH
  go_wp2_with fail
  go_loopw [4, 5] (fun v i wr => ∃ (j : Nat), j + 1 ≤ zs.length ∧ i = .int .i64 ((j : Int) + 1) ∧ Hid (wr.ownsRow (w.heap.size + 1) 3 1 v (vTo zs j).length ((vTo zs j).map (Value.int .i64))) ∧ Hid (Past (w.heap.size + 1) w1 wr)) (fun _ i _ => zs.length + 1 - (intOf i).toNat)
  case atStart => exact ⟨0, by omega, rfl, Lib.hid O0.out, Lib.hid (Past.refl _ _)⟩
  case round =>
    clear O0
    obtain ⟨j, hj, rfl, HO, HPs⟩ := hrel
    rename World => wr
    have hsz := HPs.out.size
    have hvl := vTo_len zs j
    have h0 := cell_past HPs.out HX.out.c0 (Nat.lt_succ_self _)
    have h1 := cell_past HPs.out HX.out.c1 (Nat.lt_succ_self _)
    have HIr := Lib.hid (HI.out.past HPs.out (Nat.le_trans HI0t.out (Nat.le_succ _)))
    by_cases hlt : j + 1 < zs.length
    · have hltI : (j : Int) + 1 < (zs.length : Int) := by omega
      have hp := pow_le (j + 1) (by omega)
      have HVj := Lib.hid (HV.out ((2 : Int) ^ (j + 1) - 1))
      have HFy : Hid (vain ((2 : Int) ^ (j + 1) - 1) (opens zs) = true → vTo zs (j + 1) = vTo zs j) := Lib.hid (fun h => by rw [vTo, if_pos h, List.append_nil])
      have HFn : Hid (vain ((2 : Int) ^ (j + 1) - 1) (opens zs) = false → vTo zs (j + 1) = vTo zs j ++ [(j : Int) + 1]) := Lib.hid (fun h => by rw [vTo, if_neg (by rw [h]; simp)]; simp)
      generalize vain ((2 : Int) ^ (j + 1) - 1) (opens zs) = vn at HVj HFy HFn
      have W1 : ((j : Int) + 1).toNat = j + 1 := by omega
      have W0 : 0 ≤ (j : Int) + 1 := by omega
      have W2 : IntKind.i64.wrap ((2 : Int) ^ (j + 1)) = (2 : Int) ^ (j + 1) := IntWalk.i64_in _ (by omega)
      have W3 : IntKind.i64.wrap ((2 : Int) ^ (j + 1) - 1) = (2 : Int) ^ (j + 1) - 1 := IntWalk.i64_in _ (by omega)
      go_wp2_with fail
      go_region_held3 (fun w' => w'.cell? ⟨w.heap.size, 0, none⟩ = some (.slice A zs.length c) ∧ w'.cell? ⟨w.heap.size, 1, none⟩ = some (.int .i64 (M : Int)))
        (first
         | exact ⟨cell_past (HPs.out.trans (Past.of_below (Below.refl _ wr).drew)) HX.out.c0 (Nat.lt_succ_self _), cell_past (HPs.out.trans (Past.of_below (Below.refl _ wr).drew)) HX.out.c1 (Nat.lt_succ_self _)⟩
         | exact ⟨cell_past HZ1.out HX.out.c0 (Nat.lt_succ_self _), cell_past HZ1.out HX.out.c1 (Nat.lt_succ_self _)⟩)
        ((go_at_call 82; refine (HVj.out _ (HIr.out.step (Below.refl _ wr).drew)).mono ?_; rintro e w5 ⟨rfl, hb⟩; have HBr := Lib.hid (below_trans (Below.refl _ wr).drew hb); have HZ1 := Lib.hid (HPs.out.trans (past_base6 (Past.of_below HBr.out) (Nat.le_trans hsz1 hsz))); clear hb))
      all_goals
        clear W1 W0 W2 W3 h0 h1
        replace HO := Lib.hid (ownsRow_past6 HO.out (Past.of_below HBr.out))
        have hsz5 := HZ1.out.size
        cases vn with
        | true =>
          have HF := Lib.hid (HFy.out rfl)
          go_wp2
          go_roundw
          case rel => exact ⟨j + 1, by omega, by simp, Lib.hid (by rw [HF.out]; exact HO.out), HZ1⟩
          case measure => simp [intOf]; omega
        | false =>
          have HF := Lib.hid (HFn.out rfl)
          generalize vTo zs j = F at HO HF hvl
          have hown := HO.out
          go_wp2_with (at_builtin; refine wpList_append_own _ rfl (.tmp 24) (.tmp 26) 25 rfl (w.heap.size + 1) 3 i0 (.int .i64 0) 1 8 Try.underlying25 hi0 hz0 hz1 hz2 rfl (by decide) _ _ _ rfl (hown.alloc _) ⟨w5.heap.size, 0, none⟩ 1 1 [.int .i64 ((j : Int) + 1)] rfl rfl (cell_one_new _ _ _) (by simp [Value.oneCell']) (by unfold maxLen; omega) (by omega) (by simp; omega) ?_; intro v' w9 hown' hgrow _)
          have HO2 := Lib.hid (own_snocI hown' rfl)
          have HP2 := Lib.hid (HZ1.out.trans (Past.grown hown hgrow))
          clear hown' hgrow hown HO
          go_wp2
          go_roundw
          case rel => exact ⟨j + 1, by omega, by simp, Lib.hid (by rw [HF.out]; exact HO2.out), HP2⟩
          case measure => simp [intOf]; omega
    · obtain rfl : j = zs.length - 1 := by omega
      rw [HA.out] at HO
      have hll : ¬ (((zs.length - 1 : Nat) : Int) + 1 < (zs.length : Int)) := by omega
      go_wp2
      go_ret2
      exact ⟨_, rfl, HO.out, HX.out.below.trans (HPs.out.below (by omega) (Nat.le_of_lt (by omega)))⟩
theorem usefulLess_both (zs : List Int) (m : Int) (h : zs.length ≤ 1048576) : ∃ (r0 : List Int) (r1 : Bool), r0.length ≤ 1048576 ∧
    (∀ (w : World) (B : Option Addr) (c lo hi : Nat), Ins w lo hi B zs → Calls Try.prog 44 #[.agg #[.slice B zs.length c, .int .i64 m]] w fun e w' => ∃ B c', e = .returned (.tuple #[.slice B r0.length c', .bool r1]) ∧ Res w' w.heap.size w'.heap.size B r0 ∧ Below w.heap.size w w') ∧
    (∀ (w : World) (B : Option Addr) (c lo hi : Nat), Ins w lo hi B zs → Calls Try.prog 43 #[.agg #[.slice B zs.length c, .int .i64 m]] w fun e w' => ∃ B c', e = .returned (.tuple #[.slice B r0.length c', .bool r1]) ∧ Res w' w.heap.size w'.heap.size B r0 ∧ Below w.heap.size w w') := by
  cases hsh : shortB zs m with
  | true =>
    obtain ⟨M, rfl, hs⟩ := shortB_iff.1 hsh
    refine ⟨uTo zs (usesL zs), true, by rw [uTo_len]; have := span_bd hs; have := hs.len; unfold usesL; omega, fun w B c lo hi hS => ?_, fun w B c lo hi hS => ?_⟩
    · refine (usefulLess_impl B c lo hi zs M w hS hs).mono ?_
      rintro e w' ⟨v, he, ho, hb⟩
      exact own_ans he ho hb
    · refine (usefulLess_spec B c lo hi zs M w hS hs).mono ?_
      rintro e w' ⟨v, he, ho, hb⟩
      exact own_ans he ho hb
  | false =>
    refine ⟨[], false, by simp, fun w B c lo hi hS => ?_, fun w B c lo hi hS => ?_⟩
    · refine (usefulLess_no B c lo hi zs m w hS h hsh).mono ?_
      rintro e w' ⟨B, he, hr, hb⟩
      exact ⟨B, 0, he, hr, hb⟩
    · refine (usefulLess_sno B c lo hi zs m w hS h hsh).mono ?_
      rintro e w' ⟨B, he, hr, hb⟩
      exact ⟨B, 0, he, hr, hb⟩
end Go.Proofs.Ytichjhahnahaoaa
