/- What a record is written as: both sides. -/
import Derived.Test.YtpjoljaamakagabDoorL12M
import Derived.Test.YtpjoljaamakagabDoorL12QQ
import Derived.Deep.RegionHeld3
namespace Go.Proofs.YtpjoljaamakagabDoor
open Go.RowKit Go.ChangeShapes Go.WideShapes
set_option linter.unusedVariables false
set_option linter.unusedSimpArgs false


theorem txt12_size {k : Nat} {e : Rec} (hk : k < 60) (h : recOK e = true) : (txt12 k e).size ≤ 414 := by
  obtain ⟨_, h1, _, _, h2, _⟩ := recOK_iff.1 h
  have hd : (Lib.decDigits k).length ≤ 2 := dd_len 1 k (by omega)
  rw [← data_size, txt12_list]
  simp only [List.length_append, List.length_cons, data_size]
  omega
theorem txt12_no35 {k : Nat} {e : Rec} (h : recOK e = true) : hasC (txt12 k e) 35 = false := by
  obtain ⟨_, _, h1, _, _, h2⟩ := recOK_iff.1 h
  have d0 := dig_no (k := k) (c := 35) (.inl (by decide))
  have a := txt_no35 h1
  have b := txt_no35 h2
  unfold hasC
  rw [Bool.eq_false_iff]
  intro hc
  rw [List.contains_iff_mem, txt12_list] at hc
  simp only [List.mem_append, List.mem_cons] at hc
  rcases hc with hc | hc | hc | hc | hc
  · exact d0 hc
  · exact absurd hc (by decide)
  · exact a hc
  · exact absurd hc (by decide)
  · exact b hc
theorem aAns_txt {k : Nat} {e : Rec} (hk : k < 60) (h : recOK e = true) : aAns (txt12 k e) = some (sealB (txt12 k e)) := by
  have h1 := txt12_size hk h
  have h2 := sealB_size (txt12 k e)
  have h3 := itoa_cks (txt12 k e)
  exact aAns_yes (by omega) (txt12_no35 h) (by omega)
set_option maxRecDepth 100000 in
set_option maxHeartbeats 8000000 in
theorem l12Line_any (k : Nat) (a b : ByteArray) (W : World) (hk : k < 60) (h : recOK (a, b) = true) :
    Calls Tryd.prog 49 #[.int .i64 (k : Int), .agg #[.string a, .string b]] W fun e w' => e = .returned (.string (enc12 k (a, b))) ∧ Below W.heap.size W w' := by
  obtain ⟨n1, hn1⟩ : ∃ n : ByteArray, n = ⟨(Lib.itoa (k : Int)).toArray⟩ := ⟨_, rfl⟩
  obtain ⟨x1, hx1⟩ : ∃ x : ByteArray, x = n1 ++ ⟨#[32]⟩ := ⟨_, rfl⟩
  obtain ⟨x2, hx2⟩ : ∃ x : ByteArray, x = x1 ++ a := ⟨_, rfl⟩
  obtain ⟨x3, hx3⟩ : ∃ x : ByteArray, x = x2 ++ ⟨#[64]⟩ := ⟨_, rfl⟩
  obtain ⟨x4, hx4⟩ : ∃ x : ByteArray, x = x3 ++ b := ⟨_, rfl⟩
  obtain ⟨hr1, hr2, hr3, hr4, hr5, hr6⟩ := recOK_iff.1 h
  have hsn : n1.size ≤ 2 := by rw [hn1, mk_size, itoa_nat]; exact dd_len 1 k (by omega)
  have hs1 : x1.size = n1.size + 1 := by rw [hx1, ByteArray.size_append]; rfl
  have hs2 : x2.size = x1.size + a.size := by rw [hx2, ByteArray.size_append]
  have hs3 : x3.size = x2.size + 1 := by rw [hx3, ByteArray.size_append]; rfl
  have hs4 : x4.size = x3.size + b.size := by rw [hx4, ByteArray.size_append]
  have ha' : a.size ≤ 160 := hr2
  have hb' : b.size ≤ 250 := hr5
  have e4 : x4 = txt12 k (a, b) := by rw [hx4, hx3, hx2, hx1, hn1]; rfl
  have hsl := sealB_size x4
  have hil := itoa_cks x4
  have hadd1 : ∀ W, (Op.stringOp .add n1 ⟨#[32]⟩).run Tryd.prog W = .ok (.string x1) W := fun W => by
    rw [run_string_add_sum W _ _ (by show n1.size + 1 ≤ _; omega), hx1]
  have hadd2 : ∀ W, (Op.stringOp .add x1 a).run Tryd.prog W = .ok (.string x2) W := fun W => by
    rw [run_string_add_sum W _ _ (by omega), hx2]
  have hadd3 : ∀ W, (Op.stringOp .add x2 ⟨#[64]⟩).run Tryd.prog W = .ok (.string x3) W := fun W => by
    rw [run_string_add_sum W _ _ (by show x2.size + 1 ≤ _; omega), hx3]
  have hadd4 : ∀ W, (Op.stringOp .add x3 b).run Tryd.prog W = .ok (.string x4) W := fun W => by
    rw [run_string_add_sum W _ _ (by omega), hx4]
  obtain ⟨x5, hx5⟩ : ∃ x : ByteArray, x = sealB x4 := ⟨_, rfl⟩
  have hadd5 : ∀ W, (Op.stringOp .add x5 ⟨#[10]⟩).run Tryd.prog W = .ok (.string (enc12 k (a, b))) W := fun W => by
    rw [run_string_add_sum W _ _ (by show x5.size + 1 ≤ _; rw [hx5]; omega), hx5, e4]; rfl
  have HN : Hid (∀ w, Calls Tryd.prog 70 #[.int .i64 (k : Int)] w (fun e w' => e = .returned (.string n1) ∧ ∃ q, w' = w.drewN q)) := Lib.hid (fun w => by rw [hn1]; exact l1Num_any k (k : Int) w (by omega) (by omega) (by omega))
  have HS : Hid (∀ w, Calls Tryd.prog 69 #[.string x4] w (fun e w' => e = .returned (.string x5) ∧ ∃ q, w' = w.drewN q)) := Lib.hid (fun w => by rw [hx5]; exact l1Seal_any x4 w (by omega))
  clear hr1 hr2 hr3 hr4 hr5 hr6 hs1 hs2 hs3 hs4 hsn ha' hb' hsl hil e4 h hk hn1 hx1 hx2 hx3 hx4 hx5
  generalize enc12 k (a, b) = x6 at hadd5 ⊢
  have HX := Lib.hid (Rw.new W #[.string a, .string b] 27 (W.heap.size) rfl)
  have HB := Lib.hid ((Below.refl W.heap.size W).alloc (Nat.le_refl _) (.cells #[.string a, .string b] 27))
  go_enter Tryd.func49, Tryd.ntmps49
  go_upto_region 1 with fail
  generalize W.alloc (.cells #[.string a, .string b] 27) = w0 at HB HX ⊢
  have hx_0 := HX.out.cell (i := 0) (v := .string a) rfl
  have hx_1 := HX.out.cell (i := 1) (v := .string b) rfl
  go_wp2_with fail
  go_quiet (first | (go_at_call 70; exact Calls.quiet_of (HN.out _)) | (go_at_call 69; exact Calls.quiet_of (HS.out _)))
  go_wp2
  go_ret
  exact ⟨rfl, below_drewN HB.out _⟩

set_option maxRecDepth 100000 in
set_option maxHeartbeats 8000000 in
theorem encodeRecord_impl_yes (k : Nat) (a b : ByteArray) (W : World) (hk : k < 60) (h : recOK (a, b) = true) (hP : Pow W) (hM : MaxL W) (hM2 : MaxQ W) :
    Calls Tryd.prog 15 #[.int .i64 (k : Int), .agg #[.string a, .string b]] W fun e w' => e = .returned (.tuple #[.string (enc12 k (a, b)), .bool true]) ∧ Below W.heap.size W w' := by
  have HV := Lib.hid (fun w hm => isValidRecord_impl a b w hm (by have := (recOK_iff.1 h).2.1; have h9 : a.size ≤ 160 := this; omega) (by have := (recOK_iff.1 h).2.2.2.2.1; have h9 : b.size ≤ 250 := this; omega))
  rw [h] at HV
  have hans := aAns_txt hk h
  obtain ⟨n1, hn1⟩ : ∃ n : ByteArray, n = ⟨(Lib.itoa (k : Int)).toArray⟩ := ⟨_, rfl⟩
  obtain ⟨x1, hx1⟩ : ∃ x : ByteArray, x = n1 ++ ⟨#[32]⟩ := ⟨_, rfl⟩
  obtain ⟨x2, hx2⟩ : ∃ x : ByteArray, x = x1 ++ a := ⟨_, rfl⟩
  obtain ⟨x3, hx3⟩ : ∃ x : ByteArray, x = x2 ++ ⟨#[64]⟩ := ⟨_, rfl⟩
  obtain ⟨x4, hx4⟩ : ∃ x : ByteArray, x = x3 ++ b := ⟨_, rfl⟩
  obtain ⟨hr1, hr2, hr3, hr4, hr5, hr6⟩ := recOK_iff.1 h
  have hsn : n1.size ≤ 2 := by rw [hn1, mk_size, itoa_nat]; exact dd_len 1 k (by omega)
  have hs1 : x1.size = n1.size + 1 := by rw [hx1, ByteArray.size_append]; rfl
  have hs2 : x2.size = x1.size + a.size := by rw [hx2, ByteArray.size_append]
  have hs3 : x3.size = x2.size + 1 := by rw [hx3, ByteArray.size_append]; rfl
  have hs4 : x4.size = x3.size + b.size := by rw [hx4, ByteArray.size_append]
  have ha' : a.size ≤ 160 := hr2
  have hb' : b.size ≤ 250 := hr5
  have e4 : x4 = txt12 k (a, b) := by rw [hx4, hx3, hx2, hx1, hn1]; rfl
  have hsl := sealB_size x4
  have hil := itoa_cks x4
  have hadd1 : ∀ W, (Op.stringOp .add n1 ⟨#[32]⟩).run Tryd.prog W = .ok (.string x1) W := fun W => by
    rw [run_string_add_sum W _ _ (by show n1.size + 1 ≤ _; omega), hx1]
  have hadd2 : ∀ W, (Op.stringOp .add x1 a).run Tryd.prog W = .ok (.string x2) W := fun W => by
    rw [run_string_add_sum W _ _ (by omega), hx2]
  have hadd3 : ∀ W, (Op.stringOp .add x2 ⟨#[64]⟩).run Tryd.prog W = .ok (.string x3) W := fun W => by
    rw [run_string_add_sum W _ _ (by show x2.size + 1 ≤ _; omega), hx3]
  have hadd4 : ∀ W, (Op.stringOp .add x3 b).run Tryd.prog W = .ok (.string x4) W := fun W => by
    rw [run_string_add_sum W _ _ (by omega), hx4]
  obtain ⟨x5, hx5⟩ : ∃ x : ByteArray, x = sealB x4 := ⟨_, rfl⟩
  have hadd5 : ∀ W, (Op.stringOp .add x5 ⟨#[10]⟩).run Tryd.prog W = .ok (.string (enc12 k (a, b))) W := fun W => by
    rw [run_string_add_sum W _ _ (by show x5.size + 1 ≤ _; rw [hx5]; omega), hx5, e4]; rfl
  rw [← e4] at hans
  have HN : Hid (∀ w, Pow w → Calls Tryd.prog 51 #[.int .i64 (k : Int)] w (fun e w' => e = .returned (.string n1) ∧ Below w.heap.size w w')) := Lib.hid (fun w hp => (Tryd.strconv_Itoa (k : Int) (by omega) (by omega) w hp).mono (by
    rintro e w' ⟨rfl, q, os, rfl⟩
    exact ⟨by rw [hn1], Lib.below_grow w.heap.size w (Nat.le_refl _) q os⟩))
  have HS : Hid (∀ w, Pow w → MaxL w → Calls Tryd.prog 50 #[.string x4] w (fun e w' => e = .returned (.tuple #[.string x5, .bool true]) ∧ Below w.heap.size w w')) := Lib.hid (fun w hp hm => (append_impl x4 w (by omega) hp hm).mono (by
    rintro e w' ⟨rfl, hb⟩
    exact ⟨by rw [hans, hx5]; rfl, hb⟩))
  have HP := Lib.hid hP
  have HM := Lib.hid hM
  have HQ := Lib.hid hM2
  have hk0 : (0 : Int) ≤ (k : Int) := by omega
  have hk60 : (k : Int) < 60 := by omega
  clear hans hr1 hr2 hr3 hr4 hr5 hr6 hs1 hs2 hs3 hs4 hsn ha' hb' hsl hil e4 h hk hn1 hx1 hx2 hx3 hx4 hx5 hP hM hM2
  generalize enc12 k (a, b) = x6 at hadd5 ⊢
  have HX := Lib.hid (Rw.new W #[.string a, .string b] 27 (W.heap.size) rfl)
  have HB := Lib.hid ((Below.refl W.heap.size W).alloc (Nat.le_refl _) (.cells #[.string a, .string b] 27))
  replace HP := Lib.hid (HP.out.below HB.out)
  replace HM := Lib.hid (HM.out.below HB.out)
  replace HQ := Lib.hid (HQ.out.step HB.out)
  go_enter Tryd.func15, Tryd.ntmps15
  go_upto_region 1 with fail
  generalize W.alloc (.cells #[.string a, .string b] 27) = w0 at HB HP HM HQ HX ⊢
  have hx_0 := HX.out.cell (i := 0) (v := .string a) rfl
  have hx_1 := HX.out.cell (i := 1) (v := .string b) rfl
  go_wp2_with fail
  refine (HV.out _ HQ.out).mono ?_
  rintro e w1 ⟨rfl, hb⟩
  clear hx_0 hx_1
  replace HP := Lib.hid (HP.out.below hb)
  replace HM := Lib.hid (HM.out.below hb)
  replace HQ := Lib.hid (HQ.out.step hb)
  replace HX := Lib.hid (HX.out.step hb)
  replace HB := Lib.hid (below_trans HB.out hb)
  clear hb
  clear HV
  have hx_0 := HX.out.cell (i := 0) (v := .string a) rfl
  have hx_1 := HX.out.cell (i := 1) (v := .string b) rfl
  go_wp2_with fail
  go_region_held3 (fun w' => w'.cell? ⟨W.heap.size, 0, none⟩ = some (.string a) ∧ w'.cell? ⟨W.heap.size, 1, none⟩ = some (.string b))
    (first
     | exact ⟨(HX.out.step (Below.refl _ w1).drew).cell (i := 0) (v := .string a) rfl, (HX.out.step (Below.refl _ w1).drew).cell (i := 1) (v := .string b) rfl⟩
     | exact ⟨HX_2.out.cell (i := 0) (v := .string a) rfl, HX_2.out.cell (i := 1) (v := .string b) rfl⟩
     | exact ⟨HX_1.out.cell (i := 0) (v := .string a) rfl, HX_1.out.cell (i := 1) (v := .string b) rfl⟩)
    (first
     | (go_at_call 50; (refine (HS.out _ HP_1.out HM_1.out).mono ?_); rintro e v2 ⟨rfl, hb⟩; have HZ2 := Lib.hid (below_trans HZ1.out hb); have HX_2 := Lib.hid (HX.out.step HZ2.out); clear hb)
     | (go_at_call 51; (refine (HN.out _ (HP.out.below (Below.refl _ w1).drew)).mono ?_); rintro e v1 ⟨rfl, hb⟩; have HZ1 := Lib.hid (below_trans (Below.refl _ w1).drew hb); have HX_1 := Lib.hid (HX.out.step HZ1.out); have HP_1 := Lib.hid (HP.out.below HZ1.out); have HM_1 := Lib.hid (HM.out.below HZ1.out); clear hb))
  all_goals
    have HW := Lib.hid (below_trans HB.out HZ2.out)
    clear HX_1 HX_2 HZ1 HZ2 HP_1 HM_1
    go_wp2
    go_ret2
    exact ⟨rfl, HW.out⟩

set_option maxRecDepth 100000 in
set_option maxHeartbeats 8000000 in
theorem encodeRecord_impl_no (k : Int) (a b : ByteArray) (W : World) (h : (0 ≤ k ∧ k < 60) → recOK (a, b) = false) (ha : a.size ≤ 1048576) (hb : b.size ≤ 1048576) (hM2 : MaxQ W) :
    Calls Tryd.prog 15 #[.int .i64 k, .agg #[.string a, .string b]] W fun e w' => e = .returned (.tuple #[.string ⟨#[]⟩, .bool false]) ∧ Below W.heap.size W w' := by
  have HV := Lib.hid (fun w hm => isValidRecord_impl a b w hm ha hb)
  have HQ := Lib.hid hM2
  clear hM2 ha hb
  by_cases h0 : 0 ≤ k
  · by_cases h1 : k < 60
    · rw [h ⟨h0, h1⟩] at HV
      have HX := Lib.hid (Rw.new W #[.string a, .string b] 27 (W.heap.size) rfl)
      have HB := Lib.hid ((Below.refl W.heap.size W).alloc (Nat.le_refl _) (.cells #[.string a, .string b] 27))
      replace HQ := Lib.hid (HQ.out.step HB.out)
      go_enter Tryd.func15, Tryd.ntmps15
      go_upto_region 1 with fail
      generalize W.alloc (.cells #[.string a, .string b] 27) = w0 at HB HQ HX ⊢
      have hx_0 := HX.out.cell (i := 0) (v := .string a) rfl
      have hx_1 := HX.out.cell (i := 1) (v := .string b) rfl
      go_wp2_with fail
      refine (HV.out _ HQ.out).mono ?_
      rintro e w1 ⟨rfl, hb⟩
      clear hx_0 hx_1
      replace HQ := Lib.hid (HQ.out.step hb)
      replace HX := Lib.hid (HX.out.step hb)
      replace HB := Lib.hid (below_trans HB.out hb)
      clear hb
      go_wp2
      go_ret2
      exact ⟨rfl, HB.out⟩
    · clear h HV
      have h1' : (60 : Int) ≤ k := by omega
      have HX := Lib.hid (Rw.new W #[.string a, .string b] 27 (W.heap.size) rfl)
      have HB := Lib.hid ((Below.refl W.heap.size W).alloc (Nat.le_refl _) (.cells #[.string a, .string b] 27))
      go_enter Tryd.func15, Tryd.ntmps15
      go_upto_region 1 with fail
      generalize W.alloc (.cells #[.string a, .string b] 27) = w0 at HB HX ⊢
      go_wp2
      go_ret2
      exact ⟨rfl, HB.out⟩
  · clear h HV
    have h1' : k < 0 := by omega
    have HX := Lib.hid (Rw.new W #[.string a, .string b] 27 (W.heap.size) rfl)
    have HB := Lib.hid ((Below.refl W.heap.size W).alloc (Nat.le_refl _) (.cells #[.string a, .string b] 27))
    go_enter Tryd.func15, Tryd.ntmps15
    go_upto_region 1 with fail
    generalize W.alloc (.cells #[.string a, .string b] 27) = w0 at HB HX ⊢
    go_wp2
    go_ret2
    exact ⟨rfl, HB.out⟩

set_option maxRecDepth 100000 in
set_option maxHeartbeats 8000000 in
theorem encodeRecord_spec_yes (k : Nat) (a b : ByteArray) (W : World) (hk : k < 60) (h : recOK (a, b) = true) :
    Calls Tryd.prog 13 #[.int .i64 (k : Int), .agg #[.string a, .string b]] W fun e w' => e = .returned (.tuple #[.string (enc12 k (a, b)), .bool true]) ∧ Below W.heap.size W w' := by
  have HI := Lib.hid (fun w => l1In_any (k : Int) 0 59 w)
  rw [inB_t (by omega) (by omega)] at HI
  have HV := Lib.hid (fun w => l12Record_any a b w (by have := (recOK_iff.1 h).2.1; have h9 : a.size ≤ 160 := this; omega) (by have := (recOK_iff.1 h).2.2.2.2.1; have h9 : b.size ≤ 250 := this; omega))
  rw [h] at HV
  have HL := Lib.hid (fun w => l12Line_any k a b w hk h)
  clear h hk
  generalize enc12 k (a, b) = x6 at HL ⊢
  have HX := Lib.hid (Rw.new W #[.string a, .string b] 27 (W.heap.size) rfl)
  have HB := Lib.hid ((Below.refl W.heap.size W).alloc (Nat.le_refl _) (.cells #[.string a, .string b] 27))
  go_enter Tryd.func13, Tryd.ntmps13
  go_upto_region 1 with fail
  generalize W.alloc (.cells #[.string a, .string b] 27) = w0 at HB HX ⊢
  have hx_0 := HX.out.cell (i := 0) (v := .string a) rfl
  have hx_1 := HX.out.cell (i := 1) (v := .string b) rfl
  go_wp2_with fail
  refine (HI.out _).mono ?_
  rintro e wX ⟨rfl, hw⟩
  have hw := hw.symm
  subst hw
  clear hx_0 hx_1
  have hx_0 := HX.out.cell (i := 0) (v := .string a) rfl
  have hx_1 := HX.out.cell (i := 1) (v := .string b) rfl
  go_wp2_with fail
  refine (HV.out _).mono ?_
  rintro e w1 ⟨rfl, hb⟩
  clear hx_0 hx_1
  replace HX := Lib.hid (HX.out.step hb)
  replace HB := Lib.hid (below_trans HB.out hb)
  clear hb
  have hx_0 := HX.out.cell (i := 0) (v := .string a) rfl
  have hx_1 := HX.out.cell (i := 1) (v := .string b) rfl
  go_wp2_with fail
  refine (HL.out _).mono ?_
  rintro e w2 ⟨rfl, hb⟩
  clear hx_0 hx_1
  replace HX := Lib.hid (HX.out.step hb)
  replace HB := Lib.hid (below_trans HB.out hb)
  clear hb
  go_wp2
  go_ret2
  exact ⟨rfl, HB.out⟩

set_option maxRecDepth 100000 in
set_option maxHeartbeats 8000000 in
theorem encodeRecord_spec_no (k : Int) (a b : ByteArray) (W : World) (h : (0 ≤ k ∧ k < 60) → recOK (a, b) = false) (ha : a.size ≤ 1048576) (hb : b.size ≤ 1048576) :
    Calls Tryd.prog 13 #[.int .i64 k, .agg #[.string a, .string b]] W fun e w' => e = .returned (.tuple #[.string ⟨#[]⟩, .bool false]) ∧ Below W.heap.size W w' := by
  have HV := Lib.hid (fun w => l12Record_any a b w ha hb)
  have HI := Lib.hid (fun w => l1In_any k 0 59 w)
  clear ha hb
  cases hi : inB k 0 59 with
  | true =>
    rw [hi] at HI
    have hk := inB_iff.1 hi
    rw [h ⟨hk.1, by omega⟩] at HV
    clear h hi hk
    have HX := Lib.hid (Rw.new W #[.string a, .string b] 27 (W.heap.size) rfl)
    have HB := Lib.hid ((Below.refl W.heap.size W).alloc (Nat.le_refl _) (.cells #[.string a, .string b] 27))
    go_enter Tryd.func13, Tryd.ntmps13
    go_upto_region 1 with fail
    generalize W.alloc (.cells #[.string a, .string b] 27) = w0 at HB HX ⊢
    have hx_0 := HX.out.cell (i := 0) (v := .string a) rfl
    have hx_1 := HX.out.cell (i := 1) (v := .string b) rfl
    go_wp2_with fail
    refine (HI.out _).mono ?_
    rintro e wX ⟨rfl, hw⟩
    have hw := hw.symm
    subst hw
    clear hx_0 hx_1
    have hx_0 := HX.out.cell (i := 0) (v := .string a) rfl
    have hx_1 := HX.out.cell (i := 1) (v := .string b) rfl
    go_wp2_with fail
    refine (HV.out _).mono ?_
    rintro e w1 ⟨rfl, hb⟩
    clear hx_0 hx_1
    replace HX := Lib.hid (HX.out.step hb)
    replace HB := Lib.hid (below_trans HB.out hb)
    clear hb
    go_wp2
    go_ret2
    exact ⟨rfl, HB.out⟩
  | false =>
    rw [hi] at HI
    clear h hi HV
    have HX := Lib.hid (Rw.new W #[.string a, .string b] 27 (W.heap.size) rfl)
    have HB := Lib.hid ((Below.refl W.heap.size W).alloc (Nat.le_refl _) (.cells #[.string a, .string b] 27))
    go_enter Tryd.func13, Tryd.ntmps13
    go_upto_region 1 with fail
    generalize W.alloc (.cells #[.string a, .string b] 27) = w0 at HB HX ⊢
    have hx_0 := HX.out.cell (i := 0) (v := .string a) rfl
    have hx_1 := HX.out.cell (i := 1) (v := .string b) rfl
    go_wp2_with fail
    refine (HI.out _).mono ?_
    rintro e wX ⟨rfl, hw⟩
    have hw := hw.symm
    subst hw
    clear hx_0 hx_1
    go_wp2
    go_ret2
    exact ⟨rfl, HB.out⟩
end Go.Proofs.YtpjoljaamakagabDoor
