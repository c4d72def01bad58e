/- Which records are valid: both sides, whole. -/
import Derived.Test.YtpjoljaamakagabDoorL12Q
import Derived.Lib.Strings
import Derived.Test.YtpjoljaamakagabDoorL12R
import Derived.Deep.CutRange
namespace Go.Proofs.YtpjoljaamakagabDoor
open Go.RowKit Go.ChangeShapes Go.WideShapes
set_option linter.unusedVariables false
set_option linter.unusedSimpArgs false


theorem ne_empty {a : ByteArray} (h : a.size ≠ 0) : a.toList.isEmpty = false := by
  rw [ByteArray.toList_eq]
  cases hl : a.data.toList with
  | nil => exact absurd (show a.size = 0 by rw [Lib.size_eq, hl]; rfl) h
  | cons x l => rfl
theorem recOK_ord (a b : ByteArray) : recOK (a, b) = (decide (1 ≤ a.size) && ((txtOK a.data.toList && decide (a.size ≤ 160)) && (!hasC a 64 && (txtOK b.data.toList && decide (b.size ≤ 250))))) := by
  unfold recOK
  dsimp only
  generalize txtOK a.data.toList = ta
  generalize txtOK b.data.toList = tb
  generalize hasC a 64 = hc
  generalize decide (a.size ≤ 160) = da
  generalize decide (b.size ≤ 250) = db
  generalize decide (1 ≤ a.size) = dc
  cases ta <;> cases tb <;> cases hc <;> cases da <;> cases db <;> cases dc <;> rfl

set_option maxRecDepth 100000 in
set_option maxHeartbeats 8000000 in
theorem isValidRecord_impl (a b : ByteArray) (W : World) (hM : MaxQ W) (ha : a.size ≤ 1048576) (hb : b.size ≤ 1048576) :
    Calls Tryd.prog 44 #[.agg #[.string a, .string b]] W fun e w' => e = .returned (.bool (recOK (a, b))) ∧ Below W.heap.size W w' := by
  unfold recOK
  have HTa := Lib.hid (fun w h => isRecordText_any a w ha h)
  have HTb := Lib.hid (fun w h => isRecordText_any b w hb h)
  have HC : Hid (∀ w, MaxQ w → Calls Tryd.prog 66 #[.string a, .string ⟨#[64]⟩] w fun e w' => e = .returned (.bool (hasC a 64)) ∧ w' = w) := Lib.hid (fun w h => by
    obtain ⟨m, hm⟩ := h
    have C1 := Tryd.strings_Contains a ⟨#[64]⟩ m w (by omega) hm
    rwa [show (⟨#[64]⟩ : ByteArray).data.toList = [64] from rfl, contains_one] at C1)
  have HM := Lib.hid hM
  clear hM
  generalize txtOK a.data.toList = ta at HTa ⊢
  generalize txtOK b.data.toList = tb at HTb ⊢
  generalize hasC a 64 = hc at HC ⊢
  dsimp only
  by_cases h1 : a.size = 0
  · have h1I : (a.size : Int) = 0 := by omega
    have HX := Lib.hid (Rw.new W #[.string a, .string b] 27 (W.heap.size) rfl)
    have HB := Lib.hid ((Below.refl W.heap.size W).alloc (Nat.le_refl _) (.cells #[.string a, .string b] 27))
    replace HM := Lib.hid (HM.out.step HB.out)
    go_enter Tryd.func44, Tryd.ntmps44
    go_upto_region 1 with fail
    generalize W.alloc (.cells #[.string a, .string b] 27) = w0 at HB HM HX ⊢
    have hx_0 := HX.out.cell (i := 0) (v := .string a) rfl
    have hx_1 := HX.out.cell (i := 1) (v := .string b) rfl
    go_wp2
    go_ret
    exact ⟨by simp [h1], HB.out⟩
  have h1I : ¬ (a.size : Int) = 0 := by omega
  by_cases h2 : a.size ≤ 160
  case neg =>
    have h2I : (160 : Int) < (a.size : Int) := by omega
    have HX := Lib.hid (Rw.new W #[.string a, .string b] 27 (W.heap.size) rfl)
    have HB := Lib.hid ((Below.refl W.heap.size W).alloc (Nat.le_refl _) (.cells #[.string a, .string b] 27))
    replace HM := Lib.hid (HM.out.step HB.out)
    go_enter Tryd.func44, Tryd.ntmps44
    go_upto_region 1 with fail
    generalize W.alloc (.cells #[.string a, .string b] 27) = w0 at HB HM HX ⊢
    have hx_0 := HX.out.cell (i := 0) (v := .string a) rfl
    have hx_1 := HX.out.cell (i := 1) (v := .string b) rfl
    go_wp2
    go_ret
    exact ⟨by simp [h2], HB.out⟩
  have h2I : ¬ (160 : Int) < (a.size : Int) := by omega
  by_cases h3 : b.size ≤ 250
  case neg =>
    have h3I : (250 : Int) < (b.size : Int) := by omega
    have HX := Lib.hid (Rw.new W #[.string a, .string b] 27 (W.heap.size) rfl)
    have HB := Lib.hid ((Below.refl W.heap.size W).alloc (Nat.le_refl _) (.cells #[.string a, .string b] 27))
    replace HM := Lib.hid (HM.out.step HB.out)
    go_enter Tryd.func44, Tryd.ntmps44
    go_upto_region 1 with fail
    generalize W.alloc (.cells #[.string a, .string b] 27) = w0 at HB HM HX ⊢
    have hx_0 := HX.out.cell (i := 0) (v := .string a) rfl
    have hx_1 := HX.out.cell (i := 1) (v := .string b) rfl
    go_wp2
    go_ret
    exact ⟨by simp [h3], HB.out⟩
  have h3I : ¬ (250 : Int) < (b.size : Int) := by omega
  have h4 : 1 ≤ a.size := by omega
  cases ta with
  | false =>
    have HX := Lib.hid (Rw.new W #[.string a, .string b] 27 (W.heap.size) rfl)
    have HB := Lib.hid ((Below.refl W.heap.size W).alloc (Nat.le_refl _) (.cells #[.string a, .string b] 27))
    replace HM := Lib.hid (HM.out.step HB.out)
    go_enter Tryd.func44, Tryd.ntmps44
    go_upto_region 1 with fail
    generalize W.alloc (.cells #[.string a, .string b] 27) = w0 at HB HM HX ⊢
    have hx_0 := HX.out.cell (i := 0) (v := .string a) rfl
    have hx_1 := HX.out.cell (i := 1) (v := .string b) rfl
    go_wp2_with (first | (go_at_call 65; (first | (with_reducible refine (HTa.out _ HM.out).mono ?_) | (with_reducible refine (HTb.out _ HM.out).mono ?_)); rintro e w1 ⟨rfl, hw⟩; have hw := hw.symm; subst hw) | (go_at_call 66; refine (HC.out _ HM.out).mono ?_; rintro e w1 ⟨rfl, hw⟩; have hw := hw.symm; subst hw))
    go_ret
    exact ⟨by simp, HB.out⟩
  | true =>
    cases tb with
    | false =>
      have HX := Lib.hid (Rw.new W #[.string a, .string b] 27 (W.heap.size) rfl)
      have HB := Lib.hid ((Below.refl W.heap.size W).alloc (Nat.le_refl _) (.cells #[.string a, .string b] 27))
      replace HM := Lib.hid (HM.out.step HB.out)
      go_enter Tryd.func44, Tryd.ntmps44
      go_upto_region 1 with fail
      generalize W.alloc (.cells #[.string a, .string b] 27) = w0 at HB HM HX ⊢
      have hx_0 := HX.out.cell (i := 0) (v := .string a) rfl
      have hx_1 := HX.out.cell (i := 1) (v := .string b) rfl
      go_wp2_with (first | (go_at_call 65; (first | (with_reducible refine (HTa.out _ HM.out).mono ?_) | (with_reducible refine (HTb.out _ HM.out).mono ?_)); rintro e w1 ⟨rfl, hw⟩; have hw := hw.symm; subst hw) | (go_at_call 66; refine (HC.out _ HM.out).mono ?_; rintro e w1 ⟨rfl, hw⟩; have hw := hw.symm; subst hw))
      go_ret
      exact ⟨by simp, HB.out⟩
    | true =>
      have HX := Lib.hid (Rw.new W #[.string a, .string b] 27 (W.heap.size) rfl)
      have HB := Lib.hid ((Below.refl W.heap.size W).alloc (Nat.le_refl _) (.cells #[.string a, .string b] 27))
      replace HM := Lib.hid (HM.out.step HB.out)
      go_enter Tryd.func44, Tryd.ntmps44
      go_upto_region 1 with fail
      generalize W.alloc (.cells #[.string a, .string b] 27) = w0 at HB HM HX ⊢
      have hx_0 := HX.out.cell (i := 0) (v := .string a) rfl
      have hx_1 := HX.out.cell (i := 1) (v := .string b) rfl
      go_wp2_with (first | (go_at_call 65; (first | (with_reducible refine (HTa.out _ HM.out).mono ?_) | (with_reducible refine (HTb.out _ HM.out).mono ?_)); rintro e w1 ⟨rfl, hw⟩; have hw := hw.symm; subst hw) | (go_at_call 66; refine (HC.out _ HM.out).mono ?_; rintro e w1 ⟨rfl, hw⟩; have hw := hw.symm; subst hw))
      go_ret
      exact ⟨by simp [h2, h3, h4], HB.out⟩

set_option maxRecDepth 100000 in
set_option maxHeartbeats 8000000 in
theorem l12Record_any (a b : ByteArray) (W : World) (ha : a.size ≤ 1048576) (hb : b.size ≤ 1048576) :
    Calls Tryd.prog 48 #[.agg #[.string a, .string b]] W fun e w' => e = .returned (.bool (recOK (a, b))) ∧ Below W.heap.size W w' := by
  rw [recOK_ord]
  have HTa := Lib.hid (fun w => l12Bytes_any a 160 w ha)
  have HTb := Lib.hid (fun w => l12Bytes_any b 250 w hb)
  have HC := Lib.hid (fun w => l1Stands_any a 64 w (by unfold maxLen; omega))
  rw [show (((64 : UInt8).toNat : Nat) : Int) = 64 from rfl] at HC
  have e1 : decide ((a.size : Int) ≤ 160) = decide (a.size ≤ 160) := by rw [decide_eq_decide]; omega
  have e2 : decide ((b.size : Int) ≤ 250) = decide (b.size ≤ 250) := by rw [decide_eq_decide]; omega
  rw [e1] at HTa
  rw [e2] at HTb
  clear e1 e2
  try dsimp only
  have HA0 : Hid (a.size = 0 → a = ⟨#[]⟩) := Lib.hid (fun h => by
    obtain ⟨⟨l⟩⟩ := a
    cases l with
    | nil => rfl
    | cons x l => simp [ByteArray.size] at h)
  generalize (txtOK a.data.toList && decide (a.size ≤ 160)) = x at HTa ⊢
  generalize (txtOK b.data.toList && decide (b.size ≤ 250)) = y at HTb ⊢
  generalize hasC a 64 = hc at HC ⊢
  by_cases h1 : a.size = 0
  · obtain rfl := HA0.out h1
    clear HTa HTb HC HA0
    have HX := Lib.hid (Rw.new W #[.string ⟨#[]⟩, .string b] 27 (W.heap.size) rfl)
    have HB := Lib.hid ((Below.refl W.heap.size W).alloc (Nat.le_refl _) (.cells #[.string ⟨#[]⟩, .string b] 27))
    go_enter Tryd.func48, Tryd.ntmps48
    go_upto_region 1 with fail
    generalize W.alloc (.cells #[.string ⟨#[]⟩, .string b] 27) = w0 at HB HX ⊢
    have hx_0 := HX.out.cell (i := 0) (v := .string ⟨#[]⟩) rfl
    have hx_1 := HX.out.cell (i := 1) (v := .string b) rfl
    go_wp2
    go_ret
    exact ⟨by simp [h1], HB.out⟩
  have h4 : 1 ≤ a.size := by omega
  have hne := ne_empty h1
  clear HA0
  cases x with
  | false =>
    have HX := Lib.hid (Rw.new W #[.string a, .string b] 27 (W.heap.size) rfl)
    have HB := Lib.hid ((Below.refl W.heap.size W).alloc (Nat.le_refl _) (.cells #[.string a, .string b] 27))
    go_enter Tryd.func48, Tryd.ntmps48
    go_upto_region 1 with fail
    generalize W.alloc (.cells #[.string a, .string b] 27) = w0 at HB HX ⊢
    have hx_0 := HX.out.cell (i := 0) (v := .string a) rfl
    have hx_1 := HX.out.cell (i := 1) (v := .string b) rfl
    go_wp2_with (first | (go_at_call 67; (first | (with_reducible refine (HTa.out _).mono ?_) | (with_reducible refine (HTb.out _).mono ?_)); rintro e w1 ⟨rfl, hw⟩; have hw := hw.symm; subst hw) | (go_at_call 68; refine (HC.out _).mono ?_; rintro e w1 ⟨rfl, hw⟩; have hw := hw.symm; subst hw))
    go_ret
    exact ⟨by simp [h4], HB.out⟩
  | true =>
    cases hc with
    | true =>
      have HX := Lib.hid (Rw.new W #[.string a, .string b] 27 (W.heap.size) rfl)
      have HB := Lib.hid ((Below.refl W.heap.size W).alloc (Nat.le_refl _) (.cells #[.string a, .string b] 27))
      go_enter Tryd.func48, Tryd.ntmps48
      go_upto_region 1 with fail
      generalize W.alloc (.cells #[.string a, .string b] 27) = w0 at HB HX ⊢
      have hx_0 := HX.out.cell (i := 0) (v := .string a) rfl
      have hx_1 := HX.out.cell (i := 1) (v := .string b) rfl
      go_wp2_with (first | (go_at_call 67; (first | (with_reducible refine (HTa.out _).mono ?_) | (with_reducible refine (HTb.out _).mono ?_)); rintro e w1 ⟨rfl, hw⟩; have hw := hw.symm; subst hw) | (go_at_call 68; refine (HC.out _).mono ?_; rintro e w1 ⟨rfl, hw⟩; have hw := hw.symm; subst hw))
      go_ret
      exact ⟨by simp [h4], HB.out⟩
    | false =>
      have HX := Lib.hid (Rw.new W #[.string a, .string b] 27 (W.heap.size) rfl)
      have HB := Lib.hid ((Below.refl W.heap.size W).alloc (Nat.le_refl _) (.cells #[.string a, .string b] 27))
      go_enter Tryd.func48, Tryd.ntmps48
      go_upto_region 1 with fail
      generalize W.alloc (.cells #[.string a, .string b] 27) = w0 at HB HX ⊢
      have hx_0 := HX.out.cell (i := 0) (v := .string a) rfl
      have hx_1 := HX.out.cell (i := 1) (v := .string b) rfl
      go_wp2_with (first | (go_at_call 67; (first | (with_reducible refine (HTa.out _).mono ?_) | (with_reducible refine (HTb.out _).mono ?_)); rintro e w1 ⟨rfl, hw⟩; have hw := hw.symm; subst hw) | (go_at_call 68; refine (HC.out _).mono ?_; rintro e w1 ⟨rfl, hw⟩; have hw := hw.symm; subst hw))
      go_ret
      exact ⟨by simp [h4], HB.out⟩
end Go.Proofs.YtpjoljaamakagabDoor
