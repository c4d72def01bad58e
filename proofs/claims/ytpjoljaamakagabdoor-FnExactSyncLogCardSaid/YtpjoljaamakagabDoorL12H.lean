/- The first record of a text: the program's. -/
import Derived.Test.YtpjoljaamakagabDoorL12G
import Derived.Test.YtpjoljaamakagabDoorRecL
namespace Go.Proofs.YtpjoljaamakagabDoor
open Go.RowKit Go.ChangeShapes Go.WideShapes
set_option linter.unusedVariables false
set_option linter.unusedSimpArgs false


theorem maxQ_ofH {W : World} (h : MaxL W) : MaxQ W := h.2
theorem MaxQ.drewN {W : World} (h : MaxQ W) (n : Nat) : MaxQ (W.drewN n) := h
theorem tk_le (c : UInt8) (l : List UInt8) : (bef c l).length ≤ l.length := by
  unfold bef
  induction l with
  | nil => simp
  | cons x l ih =>
    rw [List.takeWhile_cons]
    split
    · simpa using ih
    · simp
theorem aft_le (c : UInt8) (l : List UInt8) : (aft c l).length ≤ l.length := by
  unfold aft
  rw [List.length_drop]
  have : (l.dropWhile (fun x => !(x == c))).length ≤ l.length := by
    induction l with
    | nil => simp
    | cons x l ih =>
      rw [List.dropWhile_cons]
      split
      · simp; omega
      · simp
  omega
theorem cut_call (s : ByteArray) (c : UInt8) (w : World) (hs : s.size ≤ 1048576) (hM : MaxQ w) :
    Calls Tryd.prog 92 #[.string s, .string ⟨#[c]⟩] w fun e w' => (∃ b, e = .returned (.tuple #[.string ⟨(bef c s.data.toList).toArray⟩, .string ⟨(aft c s.data.toList).toArray⟩, .bool b])) ∧ Below w.heap.size w w' := by
  obtain ⟨m, hm⟩ := hM
  refine (Tryd.strings_Cut s ⟨#[c]⟩ m w (by omega) hm).mono ?_
  rintro e w' ⟨rfl, n, rfl⟩
  rw [show (⟨#[c]⟩ : ByteArray).data.toList = [c] from rfl, cut_bef, cut_aft]
  exact ⟨⟨_, rfl⟩, below_drewN (Below.refl _ _) n⟩
theorem enc_any (k : Nat) (e : Rec) (w : World) (ha : e.1.size ≤ 1048576) (hb : e.2.size ≤ 1048576) (hP : Pow w) (hM : MaxL w) :
    Calls Tryd.prog 15 #[.int .i64 (k : Int), .agg #[.string e.1, .string e.2]] w fun x w' => x = .returned (if decide (k < 60) && recOK e then .tuple #[.string (enc12 k e), .bool true] else .tuple #[.string ⟨#[]⟩, .bool false]) ∧ Below w.heap.size w w' := by
  by_cases h : decide (k < 60) && recOK e
  · rw [if_pos h]
    simp only [Bool.and_eq_true, decide_eq_true_eq] at h
    exact encodeRecord_impl_yes k e.1 e.2 w h.1 h.2 hP hM (maxQ_ofH hM)
  · rw [if_neg h]
    refine encodeRecord_impl_no k e.1 e.2 w (fun hk => ?_) ha hb (maxQ_ofH hM)
    cases hr : recOK (e.1, e.2) with
    | false => rfl
    | true => exact absurd (by simp [show k < 60 by omega, show recOK e = true from hr]) h

set_option maxRecDepth 100000 in
set_option maxHeartbeats 8000000 in
theorem firstRecord_yes (s : ByteArray) (k : Nat) (rc : Rec) (h : readR k s.data.toList = some rc) (W : World) (hs : s.size ≤ 1048576) (hP : Pow W) (hM : MaxL W) :
    Calls Tryd.prog 76 #[.string s, .int .i64 (k : Int)] W fun e w' => e = .returned (.tuple #[.agg #[.string rc.1, .string rc.2], .int .i64 ((enc12 k rc).size : Int), .bool true]) ∧ Below W.heap.size W w' := by
  obtain ⟨r1, hr1⟩ : ∃ r : ByteArray, r = ⟨(aft 32 s.data.toList).toArray⟩ := ⟨_, rfl⟩
  obtain ⟨r2, hr2⟩ : ∃ r : ByteArray, r = ⟨(aft 64 (aft 32 s.data.toList)).toArray⟩ := ⟨_, rfl⟩
  have ha1 := aft_le 32 s.data.toList
  have ha2 := aft_le 64 (aft 32 s.data.toList)
  have hb1 := tk_le 64 (aft 32 s.data.toList)
  have hb2 := tk_le 35 (aft 64 (aft 32 s.data.toList))
  have hds := data_size s
  have hs1 : r1.size ≤ 1048576 := by rw [hr1, mk_size]; omega
  have hs2 : r2.size ≤ 1048576 := by rw [hr2, mk_size]; omega
  have hea : (eI s.data.toList).1.size ≤ 1048576 := by unfold eI; rw [mk_size]; omega
  have heb : (eI s.data.toList).2.size ≤ 1048576 := by unfold eI; rw [mk_size]; omega
  have HC1 : Hid (∀ w, MaxL w → Calls Tryd.prog 92 #[.string s, .string ⟨#[32]⟩] w fun e w' => (∃ x b, e = .returned (.tuple #[.string x, .string r1, .bool b])) ∧ Below w.heap.size w w') := Lib.hid (fun w hm => (cut_call s 32 w hs (maxQ_ofH hm)).mono (by
    rintro e w' ⟨⟨b, rfl⟩, hb⟩
    exact ⟨⟨_, _, by rw [hr1]⟩, hb⟩))
  have HC2 : Hid (∀ w, MaxL w → Calls Tryd.prog 92 #[.string r1, .string ⟨#[64]⟩] w fun e w' => (∃ b, e = .returned (.tuple #[.string (eI s.data.toList).1, .string r2, .bool b])) ∧ Below w.heap.size w w') := Lib.hid (fun w hm => (cut_call r1 64 w hs1 (maxQ_ofH hm)).mono (by
    rintro e w' ⟨⟨b, rfl⟩, hb⟩
    exact ⟨⟨b, by rw [hr1, hr2]; rfl⟩, hb⟩))
  have HC3 : Hid (∀ w, MaxL w → Calls Tryd.prog 92 #[.string r2, .string ⟨#[35]⟩] w fun e w' => (∃ x b, e = .returned (.tuple #[.string (eI s.data.toList).2, .string x, .bool b])) ∧ Below w.heap.size w w') := Lib.hid (fun w hm => (cut_call r2 35 w hs2 (maxQ_ofH hm)).mono (by
    rintro e w' ⟨⟨b, rfl⟩, hb⟩
    exact ⟨⟨_, b, by rw [hr2]; rfl⟩, hb⟩))
  have HE := Lib.hid (fun w hp hm => enc_any k (eI s.data.toList) w hea heb hp hm)
  have HF : Hid (∀ w, Calls Tryd.prog 93 #[.string s, .string (enc12 k (eI s.data.toList))] w fun e w' => e = .returned (.bool ((enc12 k (eI s.data.toList)).data.toList.isPrefixOf s.data.toList)) ∧ w' = w) := Lib.hid (fun w => Tryd.strings_HasPrefix s (enc12 k (eI s.data.toList)) w)
  have HP := Lib.hid hP
  have HM := Lib.hid hM
  clear hP hM ha1 ha2 hb1 hb2 hds hs1 hs2 hr1 hr2 hea heb
  obtain ⟨h1, h2, h3⟩ := readR_some.1 h
  have he := eI_enc h2 h3
  rw [he] at HC2 HC3 HE HF
  rw [h3] at HF
  rw [if_pos (by simp [h1, h2])] at HE
  clear h1 h2 h3 he h
  generalize enc12 k rc = x6 at HE HF ⊢
  obtain ⟨a0, b0⟩ := rc
  dsimp only at HC2 HC3 HE ⊢
  have HZ := Lib.hid (Rw.new W #[.string ⟨#[]⟩, .string ⟨#[]⟩] 27 (W.heap.size) rfl)
  have HB := Lib.hid ((Below.refl W.heap.size W).alloc (Nat.le_refl _) (.cells #[.string ⟨#[]⟩, .string ⟨#[]⟩] 27))
  replace HP := Lib.hid (HP.out.below HB.out)
  replace HM := Lib.hid (HM.out.below HB.out)
  go_enter Tryd.func76, Tryd.ntmps76
  go_upto_region 1 with fail
  generalize W.alloc (.cells #[.string ⟨#[]⟩, .string ⟨#[]⟩] 27) = w0 at HB HP HM HZ ⊢
  go_wp2_with fail
  refine (HC1.out _ HM.out).mono ?_
  rintro e w1 ⟨⟨x1, b1, rfl⟩, hb⟩
  replace HP := Lib.hid (HP.out.below hb)
  replace HM := Lib.hid (HM.out.below hb)
  replace HZ := Lib.hid (HZ.out.step hb)
  replace HB := Lib.hid (below_trans HB.out hb)
  clear hb
  go_wp2_with fail
  refine (HC2.out _ HM.out).mono ?_
  rintro e w2 ⟨⟨b2, rfl⟩, hb⟩
  replace HP := Lib.hid (HP.out.below hb)
  replace HM := Lib.hid (HM.out.below hb)
  replace HZ := Lib.hid (HZ.out.step hb)
  replace HB := Lib.hid (below_trans HB.out hb)
  clear hb
  go_wp2_with fail
  refine (HC3.out _ HM.out).mono ?_
  rintro e w3 ⟨⟨x3, b3, rfl⟩, hb⟩
  replace HP := Lib.hid (HP.out.below hb)
  replace HM := Lib.hid (HM.out.below hb)
  replace HZ := Lib.hid (HZ.out.step hb)
  replace HB := Lib.hid (below_trans HB.out hb)
  clear hb
  clear HC1 HC2 HC3
  have hb : Below w3.heap.size w3 (w3.alloc (.cells #[.string a0, .string b0] 27)) := (Below.refl _ _).alloc (Nat.le_refl _) _
  have HR := Lib.hid (Rw.new w3 #[.string a0, .string b0] 27 w3.heap.size rfl)
  have g_hr_0 := HR.out.cell (i := 0) (v := .string a0) rfl
  have g_hr_1 := HR.out.cell (i := 1) (v := .string b0) rfl
  go_wp2_with fail
  clear g_hr_0 g_hr_1
  replace HP := Lib.hid (HP.out.below hb)
  replace HM := Lib.hid (HM.out.below hb)
  replace HZ := Lib.hid (HZ.out.step hb)
  replace HB := Lib.hid (below_trans HB.out hb)
  clear hb
  generalize (w3.alloc (.cells #[.string a0, .string b0] 27)) = w4 at HB HP HM HZ HR ⊢
  refine (HE.out _ HP.out HM.out).mono ?_
  rintro e w5 ⟨rfl, hb⟩
  replace HP := Lib.hid (HP.out.below hb)
  replace HM := Lib.hid (HM.out.below hb)
  replace HZ := Lib.hid (HZ.out.step hb)
  replace HR := Lib.hid (HR.out.step hb)
  replace HB := Lib.hid (below_trans HB.out hb)
  clear hb HE
  go_wp2_with fail
  refine (HF.out _).mono ?_
  rintro e wX ⟨rfl, hw⟩
  have hw := hw.symm
  subst hw
  clear HF
  have hr_0 := HR.out.cell (i := 0) (v := .string a0) rfl
  have hr_1 := HR.out.cell (i := 1) (v := .string b0) rfl
  have hz_0 := HZ.out.cell (i := 0) (v := .string ⟨#[]⟩) rfl
  have hz_1 := HZ.out.cell (i := 1) (v := .string ⟨#[]⟩) rfl
  have f0 := HZ.out.free 0
  have f1 := HZ.out.free 1
  obtain ⟨hs2, hw⟩ := stored2 HZ.out.row (.string a0) (.string b0)
  have HBF := Lib.hid (HB.out.trans (hw.below (by omega) HB.out.size))
  clear hw HZ HR HB
  go_wp2
  generalize ((w5.setCell ⟨W.heap.size, 0, none⟩ (.string a0)).setCell ⟨W.heap.size, 1, none⟩ (.string b0)) = wf at hs2 HBF ⊢
  have e0 := two0 hs2
  have e1 := two1 hs2
  refine bodyPost_ret (v := .tuple #[.agg #[.string a0, .string b0], .int .i64 (x6.size : Int), .bool true]) (by simp [results, go_sem, e0, e1]) rfl ?_
  exact ⟨rfl, HBF.out⟩

set_option maxRecDepth 100000 in
set_option maxHeartbeats 8000000 in
theorem firstRecord_no (s : ByteArray) (k : Nat) (h : readR k s.data.toList = none) (W : World) (hs : s.size ≤ 1048576) (hP : Pow W) (hM : MaxL W) :
    Calls Tryd.prog 76 #[.string s, .int .i64 (k : Int)] W fun e w' => e = .returned (.tuple #[.agg #[.string ⟨#[]⟩, .string ⟨#[]⟩], .int .i64 0, .bool false]) ∧ Below W.heap.size W w' := by
  obtain ⟨r1, hr1⟩ : ∃ r : ByteArray, r = ⟨(aft 32 s.data.toList).toArray⟩ := ⟨_, rfl⟩
  obtain ⟨r2, hr2⟩ : ∃ r : ByteArray, r = ⟨(aft 64 (aft 32 s.data.toList)).toArray⟩ := ⟨_, rfl⟩
  have ha1 := aft_le 32 s.data.toList
  have ha2 := aft_le 64 (aft 32 s.data.toList)
  have hb1 := tk_le 64 (aft 32 s.data.toList)
  have hb2 := tk_le 35 (aft 64 (aft 32 s.data.toList))
  have hds := data_size s
  have hs1 : r1.size ≤ 1048576 := by rw [hr1, mk_size]; omega
  have hs2 : r2.size ≤ 1048576 := by rw [hr2, mk_size]; omega
  have hea : (eI s.data.toList).1.size ≤ 1048576 := by unfold eI; rw [mk_size]; omega
  have heb : (eI s.data.toList).2.size ≤ 1048576 := by unfold eI; rw [mk_size]; omega
  have HC1 : Hid (∀ w, MaxL w → Calls Tryd.prog 92 #[.string s, .string ⟨#[32]⟩] w fun e w' => (∃ x b, e = .returned (.tuple #[.string x, .string r1, .bool b])) ∧ Below w.heap.size w w') := Lib.hid (fun w hm => (cut_call s 32 w hs (maxQ_ofH hm)).mono (by
    rintro e w' ⟨⟨b, rfl⟩, hb⟩
    exact ⟨⟨_, _, by rw [hr1]⟩, hb⟩))
  have HC2 : Hid (∀ w, MaxL w → Calls Tryd.prog 92 #[.string r1, .string ⟨#[64]⟩] w fun e w' => (∃ b, e = .returned (.tuple #[.string (eI s.data.toList).1, .string r2, .bool b])) ∧ Below w.heap.size w w') := Lib.hid (fun w hm => (cut_call r1 64 w hs1 (maxQ_ofH hm)).mono (by
    rintro e w' ⟨⟨b, rfl⟩, hb⟩
    exact ⟨⟨b, by rw [hr1, hr2]; rfl⟩, hb⟩))
  have HC3 : Hid (∀ w, MaxL w → Calls Tryd.prog 92 #[.string r2, .string ⟨#[35]⟩] w fun e w' => (∃ x b, e = .returned (.tuple #[.string (eI s.data.toList).2, .string x, .bool b])) ∧ Below w.heap.size w w') := Lib.hid (fun w hm => (cut_call r2 35 w hs2 (maxQ_ofH hm)).mono (by
    rintro e w' ⟨⟨b, rfl⟩, hb⟩
    exact ⟨⟨_, b, by rw [hr2]; rfl⟩, hb⟩))
  have HE := Lib.hid (fun w hp hm => enc_any k (eI s.data.toList) w hea heb hp hm)
  have HF : Hid (∀ w, Calls Tryd.prog 93 #[.string s, .string (enc12 k (eI s.data.toList))] w fun e w' => e = .returned (.bool ((enc12 k (eI s.data.toList)).data.toList.isPrefixOf s.data.toList)) ∧ w' = w) := Lib.hid (fun w => Tryd.strings_HasPrefix s (enc12 k (eI s.data.toList)) w)
  have HP := Lib.hid hP
  have HM := Lib.hid hM
  clear hP hM ha1 ha2 hb1 hb2 hds hs1 hs2 hr1 hr2 hea heb
  unfold readR at h
  by_cases hg : (decide (k < 60) && recOK (eI s.data.toList)) = true
  · rw [hg, Bool.true_and] at h
    rw [if_pos hg] at HE
    have hf : ((enc12 k (eI s.data.toList)).data.toList.isPrefixOf s.data.toList) = false := by
      cases hp : ((enc12 k (eI s.data.toList)).data.toList.isPrefixOf s.data.toList) with
      | false => rfl
      | true => rw [hp] at h; cases h
    rw [hf] at HF
    clear h hf hg
    generalize enc12 k (eI s.data.toList) = x6 at HE HF
    generalize eI s.data.toList = e at HC2 HC3 HE
    obtain ⟨a0, b0⟩ := e
    dsimp only at HC2 HC3 HE
    have HZ := Lib.hid (Rw.new W #[.string ⟨#[]⟩, .string ⟨#[]⟩] 27 (W.heap.size) rfl)
    have HB := Lib.hid ((Below.refl W.heap.size W).alloc (Nat.le_refl _) (.cells #[.string ⟨#[]⟩, .string ⟨#[]⟩] 27))
    replace HP := Lib.hid (HP.out.below HB.out)
    replace HM := Lib.hid (HM.out.below HB.out)
    go_enter Tryd.func76, Tryd.ntmps76
    go_upto_region 1 with fail
    generalize W.alloc (.cells #[.string ⟨#[]⟩, .string ⟨#[]⟩] 27) = w0 at HB HP HM HZ ⊢
    go_wp2_with fail
    refine (HC1.out _ HM.out).mono ?_
    rintro e w1 ⟨⟨x1, b1, rfl⟩, hb⟩
    replace HP := Lib.hid (HP.out.below hb)
    replace HM := Lib.hid (HM.out.below hb)
    replace HZ := Lib.hid (HZ.out.step hb)
    replace HB := Lib.hid (below_trans HB.out hb)
    clear hb
    go_wp2_with fail
    refine (HC2.out _ HM.out).mono ?_
    rintro e w2 ⟨⟨b2, rfl⟩, hb⟩
    replace HP := Lib.hid (HP.out.below hb)
    replace HM := Lib.hid (HM.out.below hb)
    replace HZ := Lib.hid (HZ.out.step hb)
    replace HB := Lib.hid (below_trans HB.out hb)
    clear hb
    go_wp2_with fail
    refine (HC3.out _ HM.out).mono ?_
    rintro e w3 ⟨⟨x3, b3, rfl⟩, hb⟩
    replace HP := Lib.hid (HP.out.below hb)
    replace HM := Lib.hid (HM.out.below hb)
    replace HZ := Lib.hid (HZ.out.step hb)
    replace HB := Lib.hid (below_trans HB.out hb)
    clear hb
    clear HC1 HC2 HC3
    have hb : Below w3.heap.size w3 (w3.alloc (.cells #[.string a0, .string b0] 27)) := (Below.refl _ _).alloc (Nat.le_refl _) _
    have HR := Lib.hid (Rw.new w3 #[.string a0, .string b0] 27 w3.heap.size rfl)
    have g_hr_0 := HR.out.cell (i := 0) (v := .string a0) rfl
    have g_hr_1 := HR.out.cell (i := 1) (v := .string b0) rfl
    go_wp2_with fail
    clear g_hr_0 g_hr_1
    replace HP := Lib.hid (HP.out.below hb)
    replace HM := Lib.hid (HM.out.below hb)
    replace HZ := Lib.hid (HZ.out.step hb)
    replace HB := Lib.hid (below_trans HB.out hb)
    clear hb
    generalize (w3.alloc (.cells #[.string a0, .string b0] 27)) = w4 at HB HP HM HZ HR ⊢
    refine (HE.out _ HP.out HM.out).mono ?_
    rintro e w5 ⟨rfl, hb⟩
    replace HP := Lib.hid (HP.out.below hb)
    replace HM := Lib.hid (HM.out.below hb)
    replace HZ := Lib.hid (HZ.out.step hb)
    replace HR := Lib.hid (HR.out.step hb)
    replace HB := Lib.hid (below_trans HB.out hb)
    clear hb HE
    go_wp2_with fail
    refine (HF.out _).mono ?_
    rintro e wX ⟨rfl, hw⟩
    have hw := hw.symm
    subst hw
    clear HF
    have hz_0 := HZ.out.cell (i := 0) (v := .string ⟨#[]⟩) rfl
    have hz_1 := HZ.out.cell (i := 1) (v := .string ⟨#[]⟩) rfl
    have f0 := HZ.out.free 0
    have f1 := HZ.out.free 1
    obtain ⟨hs2, hw⟩ := stored2 HZ.out.row (.string ⟨#[]⟩) (.string ⟨#[]⟩)
    have HBF := Lib.hid (HB.out.trans (hw.below (by omega) HB.out.size))
    clear hw HZ HR HB
    go_wp2
    generalize ((w5.setCell ⟨W.heap.size, 0, none⟩ (.string ⟨#[]⟩)).setCell ⟨W.heap.size, 1, none⟩ (.string ⟨#[]⟩)) = wf at hs2 HBF ⊢
    have e0 := two0 hs2
    have e1 := two1 hs2
    refine bodyPost_ret (v := .tuple #[.agg #[.string ⟨#[]⟩, .string ⟨#[]⟩], .int .i64 0, .bool false]) (by simp [results, go_sem, e0, e1]) rfl ?_
    exact ⟨rfl, HBF.out⟩
  · rw [if_neg hg] at HE
    clear h hg HF
    generalize eI s.data.toList = e at HC2 HC3 HE
    obtain ⟨a0, b0⟩ := e
    dsimp only at HC2 HC3 HE
    have HZ := Lib.hid (Rw.new W #[.string ⟨#[]⟩, .string ⟨#[]⟩] 27 (W.heap.size) rfl)
    have HB := Lib.hid ((Below.refl W.heap.size W).alloc (Nat.le_refl _) (.cells #[.string ⟨#[]⟩, .string ⟨#[]⟩] 27))
    replace HP := Lib.hid (HP.out.below HB.out)
    replace HM := Lib.hid (HM.out.below HB.out)
    go_enter Tryd.func76, Tryd.ntmps76
    go_upto_region 1 with fail
    generalize W.alloc (.cells #[.string ⟨#[]⟩, .string ⟨#[]⟩] 27) = w0 at HB HP HM HZ ⊢
    go_wp2_with fail
    refine (HC1.out _ HM.out).mono ?_
    rintro e w1 ⟨⟨x1, b1, rfl⟩, hb⟩
    replace HP := Lib.hid (HP.out.below hb)
    replace HM := Lib.hid (HM.out.below hb)
    replace HZ := Lib.hid (HZ.out.step hb)
    replace HB := Lib.hid (below_trans HB.out hb)
    clear hb
    go_wp2_with fail
    refine (HC2.out _ HM.out).mono ?_
    rintro e w2 ⟨⟨b2, rfl⟩, hb⟩
    replace HP := Lib.hid (HP.out.below hb)
    replace HM := Lib.hid (HM.out.below hb)
    replace HZ := Lib.hid (HZ.out.step hb)
    replace HB := Lib.hid (below_trans HB.out hb)
    clear hb
    go_wp2_with fail
    refine (HC3.out _ HM.out).mono ?_
    rintro e w3 ⟨⟨x3, b3, rfl⟩, hb⟩
    replace HP := Lib.hid (HP.out.below hb)
    replace HM := Lib.hid (HM.out.below hb)
    replace HZ := Lib.hid (HZ.out.step hb)
    replace HB := Lib.hid (below_trans HB.out hb)
    clear hb
    clear HC1 HC2 HC3
    have hb : Below w3.heap.size w3 (w3.alloc (.cells #[.string a0, .string b0] 27)) := (Below.refl _ _).alloc (Nat.le_refl _) _
    have HR := Lib.hid (Rw.new w3 #[.string a0, .string b0] 27 w3.heap.size rfl)
    have g_hr_0 := HR.out.cell (i := 0) (v := .string a0) rfl
    have g_hr_1 := HR.out.cell (i := 1) (v := .string b0) rfl
    go_wp2_with fail
    clear g_hr_0 g_hr_1
    replace HP := Lib.hid (HP.out.below hb)
    replace HM := Lib.hid (HM.out.below hb)
    replace HZ := Lib.hid (HZ.out.step hb)
    replace HB := Lib.hid (below_trans HB.out hb)
    clear hb
    generalize (w3.alloc (.cells #[.string a0, .string b0] 27)) = w4 at HB HP HM HZ HR ⊢
    refine (HE.out _ HP.out HM.out).mono ?_
    rintro e w5 ⟨rfl, hb⟩
    replace HP := Lib.hid (HP.out.below hb)
    replace HM := Lib.hid (HM.out.below hb)
    replace HZ := Lib.hid (HZ.out.step hb)
    replace HR := Lib.hid (HR.out.step hb)
    replace HB := Lib.hid (below_trans HB.out hb)
    clear hb HE
    have hz_0 := HZ.out.cell (i := 0) (v := .string ⟨#[]⟩) rfl
    have hz_1 := HZ.out.cell (i := 1) (v := .string ⟨#[]⟩) rfl
    have f0 := HZ.out.free 0
    have f1 := HZ.out.free 1
    obtain ⟨hs2, hw⟩ := stored2 HZ.out.row (.string ⟨#[]⟩) (.string ⟨#[]⟩)
    have HBF := Lib.hid (HB.out.trans (hw.below (by omega) HB.out.size))
    clear hw HZ HR HB
    go_wp2
    generalize ((w5.setCell ⟨W.heap.size, 0, none⟩ (.string ⟨#[]⟩)).setCell ⟨W.heap.size, 1, none⟩ (.string ⟨#[]⟩)) = wf at hs2 HBF ⊢
    have e0 := two0 hs2
    have e1 := two1 hs2
    refine bodyPost_ret (v := .tuple #[.agg #[.string ⟨#[]⟩, .string ⟨#[]⟩], .int .i64 0, .bool false]) (by simp [results, go_sem, e0, e1]) rfl ?_
    exact ⟨rfl, HBF.out⟩
end Go.Proofs.YtpjoljaamakagabDoor
