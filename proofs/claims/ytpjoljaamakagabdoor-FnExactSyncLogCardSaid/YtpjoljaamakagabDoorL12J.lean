/- What the specification reads of a line. -/
import Derived.Test.YtpjoljaamakagabDoorL12I
namespace Go.Proofs.YtpjoljaamakagabDoor
open Go.RowKit Go.ChangeShapes Go.WideShapes
set_option linter.unusedVariables false
set_option linter.unusedSimpArgs false

theorem split_head (s : ByteArray) (c : UInt8) (w : World) (hs : s.size ≤ 1048576) :
    Calls Tryd.prog 74 #[.string s, .int .u8 (c.toNat : Int)] w fun e w' => ∃ g cap, e = .returned (.slice (some ⟨g, 0, none⟩) (parts s c).length cap) ∧ w'.cell? ⟨g, 0, none⟩ = some (.string ⟨(bef c s.data.toList).toArray⟩) ∧ 1 ≤ (parts s c).length ∧ w.heap.size ≤ g ∧ g < w'.heap.size ∧ Below w.heap.size w w' := by
  refine (l1Split_any s c w hs).mono ?_
  rintro e w' ⟨v, rfl, hown, hb⟩
  obtain ⟨h0, h2⟩ := parts_head s c
  have hl : 1 ≤ (parts s c).length := by
    cases hp : parts s c with
    | nil => rw [hp] at h0; cases h0
    | cons x l => simp
  rcases hown.2 with ⟨rfl, hn⟩ | ⟨g, cap, cur, rfl, hb', hg, hle, hm, hs, ht⟩
  · omega
  · refine ⟨g, cap, rfl, ?_, hl, hb', row_ltI hg, hb⟩
    rw [row_cellI hg]
    have e : (cur.toList.take ((parts s c).length * 1))[0]? = some (Value.string ⟨(bef c s.data.toList).toArray⟩) := by rw [ht, List.getElem?_map, h0]; rfl
    rw [List.getElem?_take_of_lt (by omega)] at e
    simpa using e
def hdB (k : Nat) : ByteArray := ⟨(Lib.itoa (k : Int)).toArray⟩ ++ ⟨#[32]⟩
def txB (line : ByteArray) : ByteArray := ⟨(bef 35 line.data.toList).toArray⟩
def rsB (k : Nat) (line : ByteArray) : ByteArray := (txB line).extract (hdB k).size (txB line).size
def asB (k : Nat) (line : ByteArray) : ByteArray := ⟨(bef 64 (rsB k line).data.toList).toArray⟩
def rpB (k : Nat) (line : ByteArray) : ByteArray := (rsB k line).extract ((asB k line).size + 1) (rsB k line).size
theorem hdB_list (k : Nat) : (hdB k).data.toList = Lib.decDigits k ++ [32] := by
  unfold hdB
  rw [itoa_nat]
  simp [ByteArray.data_append]
theorem hdB_size (k : Nat) : (hdB k).size = (Lib.decDigits k).length + 1 := by
  rw [← data_size, hdB_list]; simp
theorem eq_list {a b : ByteArray} : a.data.toList = b.data.toList ↔ a = b := by
  constructor
  · intro h
    rw [← mk_list a, ← mk_list b, h]
  · intro h; rw [h]
theorem eS_eq (k : Nat) (line : ByteArray) : eS k line.data.toList = if (hdB k).data.toList.isPrefixOf (txB line).data.toList && decide ((asB k line).size ≠ (rsB k line).size) && recOK (asB k line, rpB k line) && decide (enc12 k (asB k line, rpB k line) = line ++ ⟨#[10]⟩) then some (asB k line, rpB k line) else none := by
  have h1 : (txB line).data.toList = bef 35 line.data.toList := by simp [txB]
  have h2 : (rsB k line).data.toList = (bef 35 line.data.toList).drop ((Lib.decDigits k).length + 1) := by
    unfold rsB; rw [extract_tail, h1, hdB_size]
  have h3 : (asB k line).size = (bef 64 ((bef 35 line.data.toList).drop ((Lib.decDigits k).length + 1))).length := by
    unfold asB; rw [mk_size, h2]
  have h4 : (⟨(bef 64 ((bef 35 line.data.toList).drop ((Lib.decDigits k).length + 1))).toArray⟩ : ByteArray) = asB k line := by
    unfold asB; rw [h2]
  have h5 : (⟨(((bef 35 line.data.toList).drop ((Lib.decDigits k).length + 1)).drop ((bef 64 ((bef 35 line.data.toList).drop ((Lib.decDigits k).length + 1))).length + 1)).toArray⟩ : ByteArray) = rpB k line := by
    rw [← eq_list]
    unfold rpB
    rw [extract_tail, h2, h3]
  have h6 : ((bef 35 line.data.toList).drop ((Lib.decDigits k).length + 1)).length = (rsB k line).size := by rw [← data_size, h2]
  have h7 : decide ((enc12 k (asB k line, rpB k line)).data.toList = line.data.toList ++ [10]) = decide (enc12 k (asB k line, rpB k line) = line ++ ⟨#[10]⟩) := by
    rw [decide_eq_decide, ← eq_list (b := line ++ ⟨#[10]⟩)]
    simp [ByteArray.data_append]
  unfold eS
  simp only []
  rw [h4, h5, h6, ← h3, h7, hdB_list, h1]
theorem toList_ne12 {t s : ByteArray} (h : t ≠ s) : (t.toList == s.toList) = false := by
  rw [Bool.eq_false_iff]
  intro e
  exact h (by
    have e := eq_of_beq e
    rw [Lib.toList_data, Lib.toList_data] at e
    exact eq_list.1 e)

set_option maxRecDepth 100000 in
set_option maxHeartbeats 8000000 in
theorem l12Decode_short (line : ByteArray) (k : Nat) (W : World) (hs : line.size ≤ 1048576) (hk : k < 60) (h : (txB line).size < (hdB k).size) :
    Calls Tryd.prog 75 #[.string line, .int .i64 (k : Int)] W fun e w' => e = .returned (.tuple #[.agg #[.string ⟨#[]⟩, .string ⟨#[]⟩], .bool false]) ∧ Below W.heap.size W w' := by
  have hsz := data_size line
  have htl := tk_le 35 line.data.toList
  have htx : (txB line).size ≤ 1048576 := by unfold txB; rw [mk_size]; omega
  have hrs : (rsB k line).size ≤ 1048576 := by unfold rsB; rw [ByteArray.size_extract]; omega
  have hal := tk_le 64 (rsB k line).data.toList
  have has : (asB k line).size ≤ (rsB k line).size := by unfold asB; rw [mk_size, ← data_size (rsB k line)]; exact hal
  have hrp : (rpB k line).size ≤ 1048576 := by unfold rpB; rw [ByteArray.size_extract]; omega
  have hdl : (Lib.decDigits k).length ≤ 2 := dd_len 1 k (by omega)
  have hhs := hdB_size k
  have hadd1 : ∀ W, (Op.stringOp .add ⟨(Lib.itoa (k : Int)).toArray⟩ ⟨#[32]⟩).run Tryd.prog W = .ok (.string (hdB k)) W := fun W => by
    rw [run_string_add_sum W _ _ (by rw [mk_size, itoa_nat]; show _ + 1 ≤ _; omega)]; rfl
  have HN : Hid (∀ w, Calls Tryd.prog 70 #[.int .i64 (k : Int)] w (fun e w' => e = .returned (.string ⟨(Lib.itoa (k : Int)).toArray⟩) ∧ Below w.heap.size w w')) := Lib.hid (fun w => (l1Num_any k (k : Int) w (by omega) (by omega) (by omega)).mono (by
    rintro e w' ⟨rfl, q, rfl⟩
    exact ⟨rfl, below_drewN (Below.refl _ _) q⟩))
  have HS1 := Lib.hid (fun w => split_head line 35 w hs)
  have HS2 := Lib.hid (fun w => split_head (rsB k line) 64 w hrs)
  rw [show (((35 : UInt8).toNat : Nat) : Int) = 35 from rfl, show (⟨(bef 35 line.data.toList).toArray⟩ : ByteArray) = txB line from rfl] at HS1
  rw [show (((64 : UInt8).toNat : Nat) : Int) = 64 from rfl, show (⟨(bef 64 (rsB k line).data.toList).toArray⟩ : ByteArray) = asB k line from rfl] at HS2
  have HRQ := Lib.hid (fun w => l12Record_any (asB k line) (rpB k line) w (by omega) hrp)
  have hcut : (txB line).extract (hdB k).size (txB line).size = rsB k line := rfl
  have hcut2 : (rsB k line).extract ((asB k line).size + 1) (rsB k line).size = rpB k line := rfl
  have hhd : (hdB k).size ≤ 3 := by omega
  have hab : (asB k line).size ≤ 1048576 := by omega
  clear hcut hcut2 HRQ HS2 hrp has hal hrs hdl htl hsz hhs htx hs hk
  generalize hdB k = hd at *
  generalize rpB k line = rp at *
  generalize asB k line = as_ at *
  generalize rsB k line = rs at *
  generalize txB line = tx at *
  have HZ := Lib.hid (Rw.new W #[.string ⟨#[]⟩, .string ⟨#[]⟩] 27 (W.heap.size) rfl)
  have HB := Lib.hid ((Below.refl W.heap.size W).alloc (Nat.le_refl _) (.cells #[.string ⟨#[]⟩, .string ⟨#[]⟩] 27))
  go_enter Tryd.func75, Tryd.ntmps75
  go_upto_region 1 with fail
  generalize W.alloc (.cells #[.string ⟨#[]⟩, .string ⟨#[]⟩] 27) = w0 at HB HZ ⊢
  go_wp2_with fail
  refine (HN.out _).mono ?_
  rintro e w1 ⟨rfl, hb⟩
  clear HN
  replace HZ := Lib.hid (HZ.out.step hb)
  replace HB := Lib.hid (below_trans HB.out hb)
  clear hb
  go_wp2_with fail
  refine (HS1.out _).mono ?_
  rintro e w2 ⟨g1, c1, rfl, hc1, hn1, hg1, _, hb⟩
  clear HS1
  replace HZ := Lib.hid (HZ.out.step hb)
  replace HB := Lib.hid (below_trans HB.out hb)
  clear hb
  have hz_0 := HZ.out.cell (i := 0) (v := .string ⟨#[]⟩) rfl
  have hz_1 := HZ.out.cell (i := 1) (v := .string ⟨#[]⟩) rfl
  have f0 := HZ.out.free 0
  have f1 := HZ.out.free 1
  obtain ⟨hs2, hw⟩ := stored2 HZ.out.row (.string ⟨#[]⟩) (.string ⟨#[]⟩)
  have HBF := Lib.hid (HB.out.trans (hw.below (by omega) HB.out.size))
  clear hw HZ HB
  go_wp2
  generalize ((w2.setCell ⟨W.heap.size, 0, none⟩ (.string ⟨#[]⟩)).setCell ⟨W.heap.size, 1, none⟩ (.string ⟨#[]⟩)) = wf at hs2 HBF ⊢
  have e0 := two0 hs2
  have e1 := two1 hs2
  refine bodyPost_ret (v := .tuple #[.agg #[.string ⟨#[]⟩, .string ⟨#[]⟩], .bool false]) (by simp [results, go_sem, e0, e1]) rfl ?_
  exact ⟨rfl, HBF.out⟩

set_option maxRecDepth 100000 in
set_option maxHeartbeats 8000000 in
theorem l12Decode_other (line : ByteArray) (k : Nat) (W : World) (hs : line.size ≤ 1048576) (hk : k < 60) (h : (hdB k).size ≤ (txB line).size) (heq : (((txB line).extract 0 (hdB k).size).toList == (hdB k).toList) = false) :
    Calls Tryd.prog 75 #[.string line, .int .i64 (k : Int)] W fun e w' => e = .returned (.tuple #[.agg #[.string ⟨#[]⟩, .string ⟨#[]⟩], .bool false]) ∧ Below W.heap.size W w' := by
  have hsz := data_size line
  have htl := tk_le 35 line.data.toList
  have htx : (txB line).size ≤ 1048576 := by unfold txB; rw [mk_size]; omega
  have hrs : (rsB k line).size ≤ 1048576 := by unfold rsB; rw [ByteArray.size_extract]; omega
  have hal := tk_le 64 (rsB k line).data.toList
  have has : (asB k line).size ≤ (rsB k line).size := by unfold asB; rw [mk_size, ← data_size (rsB k line)]; exact hal
  have hrp : (rpB k line).size ≤ 1048576 := by unfold rpB; rw [ByteArray.size_extract]; omega
  have hdl : (Lib.decDigits k).length ≤ 2 := dd_len 1 k (by omega)
  have hhs := hdB_size k
  have hadd1 : ∀ W, (Op.stringOp .add ⟨(Lib.itoa (k : Int)).toArray⟩ ⟨#[32]⟩).run Tryd.prog W = .ok (.string (hdB k)) W := fun W => by
    rw [run_string_add_sum W _ _ (by rw [mk_size, itoa_nat]; show _ + 1 ≤ _; omega)]; rfl
  have HN : Hid (∀ w, Calls Tryd.prog 70 #[.int .i64 (k : Int)] w (fun e w' => e = .returned (.string ⟨(Lib.itoa (k : Int)).toArray⟩) ∧ Below w.heap.size w w')) := Lib.hid (fun w => (l1Num_any k (k : Int) w (by omega) (by omega) (by omega)).mono (by
    rintro e w' ⟨rfl, q, rfl⟩
    exact ⟨rfl, below_drewN (Below.refl _ _) q⟩))
  have HS1 := Lib.hid (fun w => split_head line 35 w hs)
  have HS2 := Lib.hid (fun w => split_head (rsB k line) 64 w hrs)
  rw [show (((35 : UInt8).toNat : Nat) : Int) = 35 from rfl, show (⟨(bef 35 line.data.toList).toArray⟩ : ByteArray) = txB line from rfl] at HS1
  rw [show (((64 : UInt8).toNat : Nat) : Int) = 64 from rfl, show (⟨(bef 64 (rsB k line).data.toList).toArray⟩ : ByteArray) = asB k line from rfl] at HS2
  have HRQ := Lib.hid (fun w => l12Record_any (asB k line) (rpB k line) w (by omega) hrp)
  have hcut : (txB line).extract (hdB k).size (txB line).size = rsB k line := rfl
  have hcut2 : (rsB k line).extract ((asB k line).size + 1) (rsB k line).size = rpB k line := rfl
  have hhd : (hdB k).size ≤ 3 := by omega
  have hab : (asB k line).size ≤ 1048576 := by omega
  clear hcut hcut2 HRQ HS2 hrp has hal hrs hdl htl hsz hhs htx hs hk
  generalize hdB k = hd at *
  generalize rpB k line = rp at *
  generalize asB k line = as_ at *
  generalize rsB k line = rs at *
  generalize txB line = tx at *
  have HZ := Lib.hid (Rw.new W #[.string ⟨#[]⟩, .string ⟨#[]⟩] 27 (W.heap.size) rfl)
  have HB := Lib.hid ((Below.refl W.heap.size W).alloc (Nat.le_refl _) (.cells #[.string ⟨#[]⟩, .string ⟨#[]⟩] 27))
  go_enter Tryd.func75, Tryd.ntmps75
  go_upto_region 1 with fail
  generalize W.alloc (.cells #[.string ⟨#[]⟩, .string ⟨#[]⟩] 27) = w0 at HB HZ ⊢
  go_wp2_with fail
  refine (HN.out _).mono ?_
  rintro e w1 ⟨rfl, hb⟩
  clear HN
  replace HZ := Lib.hid (HZ.out.step hb)
  replace HB := Lib.hid (below_trans HB.out hb)
  clear hb
  go_wp2_with fail
  refine (HS1.out _).mono ?_
  rintro e w2 ⟨g1, c1, rfl, hc1, hn1, hg1, _, hb⟩
  clear HS1
  replace HZ := Lib.hid (HZ.out.step hb)
  replace HB := Lib.hid (below_trans HB.out hb)
  clear hb
  have hz_0 := HZ.out.cell (i := 0) (v := .string ⟨#[]⟩) rfl
  have hz_1 := HZ.out.cell (i := 1) (v := .string ⟨#[]⟩) rfl
  have f0 := HZ.out.free 0
  have f1 := HZ.out.free 1
  obtain ⟨hs2, hw⟩ := stored2 HZ.out.row (.string ⟨#[]⟩) (.string ⟨#[]⟩)
  have HBF := Lib.hid (HB.out.trans (hw.below (by omega) HB.out.size))
  clear hw HZ HB
  go_wp2
  generalize ((w2.setCell ⟨W.heap.size, 0, none⟩ (.string ⟨#[]⟩)).setCell ⟨W.heap.size, 1, none⟩ (.string ⟨#[]⟩)) = wf at hs2 HBF ⊢
  have e0 := two0 hs2
  have e1 := two1 hs2
  refine bodyPost_ret (v := .tuple #[.agg #[.string ⟨#[]⟩, .string ⟨#[]⟩], .bool false]) (by simp [results, go_sem, e0, e1]) rfl ?_
  exact ⟨rfl, HBF.out⟩

set_option maxRecDepth 100000 in
set_option maxHeartbeats 8000000 in
theorem l12Decode_noat (line : ByteArray) (k : Nat) (W : World) (hs : line.size ≤ 1048576) (hk : k < 60) (h : (hdB k).size ≤ (txB line).size) (heq : (((txB line).extract 0 (hdB k).size).toList == (hdB k).toList) = true) (ha : (asB k line).size = (rsB k line).size) :
    Calls Tryd.prog 75 #[.string line, .int .i64 (k : Int)] W fun e w' => e = .returned (.tuple #[.agg #[.string ⟨#[]⟩, .string ⟨#[]⟩], .bool false]) ∧ Below W.heap.size W w' := by
  have hsz := data_size line
  have htl := tk_le 35 line.data.toList
  have htx : (txB line).size ≤ 1048576 := by unfold txB; rw [mk_size]; omega
  have hrs : (rsB k line).size ≤ 1048576 := by unfold rsB; rw [ByteArray.size_extract]; omega
  have hal := tk_le 64 (rsB k line).data.toList
  have has : (asB k line).size ≤ (rsB k line).size := by unfold asB; rw [mk_size, ← data_size (rsB k line)]; exact hal
  have hrp : (rpB k line).size ≤ 1048576 := by unfold rpB; rw [ByteArray.size_extract]; omega
  have hdl : (Lib.decDigits k).length ≤ 2 := dd_len 1 k (by omega)
  have hhs := hdB_size k
  have hadd1 : ∀ W, (Op.stringOp .add ⟨(Lib.itoa (k : Int)).toArray⟩ ⟨#[32]⟩).run Tryd.prog W = .ok (.string (hdB k)) W := fun W => by
    rw [run_string_add_sum W _ _ (by rw [mk_size, itoa_nat]; show _ + 1 ≤ _; omega)]; rfl
  have HN : Hid (∀ w, Calls Tryd.prog 70 #[.int .i64 (k : Int)] w (fun e w' => e = .returned (.string ⟨(Lib.itoa (k : Int)).toArray⟩) ∧ Below w.heap.size w w')) := Lib.hid (fun w => (l1Num_any k (k : Int) w (by omega) (by omega) (by omega)).mono (by
    rintro e w' ⟨rfl, q, rfl⟩
    exact ⟨rfl, below_drewN (Below.refl _ _) q⟩))
  have HS1 := Lib.hid (fun w => split_head line 35 w hs)
  have HS2 := Lib.hid (fun w => split_head (rsB k line) 64 w hrs)
  rw [show (((35 : UInt8).toNat : Nat) : Int) = 35 from rfl, show (⟨(bef 35 line.data.toList).toArray⟩ : ByteArray) = txB line from rfl] at HS1
  rw [show (((64 : UInt8).toNat : Nat) : Int) = 64 from rfl, show (⟨(bef 64 (rsB k line).data.toList).toArray⟩ : ByteArray) = asB k line from rfl] at HS2
  have HRQ := Lib.hid (fun w => l12Record_any (asB k line) (rpB k line) w (by omega) hrp)
  have hcut : (txB line).extract (hdB k).size (txB line).size = rsB k line := rfl
  have hcut2 : (rsB k line).extract ((asB k line).size + 1) (rsB k line).size = rpB k line := rfl
  have hhd : (hdB k).size ≤ 3 := by omega
  have hab : (asB k line).size ≤ 1048576 := by omega
  clear hcut2 HRQ hrp has hal hrs hdl htl hsz hhs htx hs hk
  generalize hdB k = hd at *
  generalize rpB k line = rp at *
  generalize asB k line = as_ at *
  generalize rsB k line = rs at *
  generalize txB line = tx at *
  have HZ := Lib.hid (Rw.new W #[.string ⟨#[]⟩, .string ⟨#[]⟩] 27 (W.heap.size) rfl)
  have HB := Lib.hid ((Below.refl W.heap.size W).alloc (Nat.le_refl _) (.cells #[.string ⟨#[]⟩, .string ⟨#[]⟩] 27))
  go_enter Tryd.func75, Tryd.ntmps75
  go_upto_region 1 with fail
  generalize W.alloc (.cells #[.string ⟨#[]⟩, .string ⟨#[]⟩] 27) = w0 at HB HZ ⊢
  go_wp2_with fail
  refine (HN.out _).mono ?_
  rintro e w1 ⟨rfl, hb⟩
  clear HN
  replace HZ := Lib.hid (HZ.out.step hb)
  replace HB := Lib.hid (below_trans HB.out hb)
  clear hb
  go_wp2_with fail
  refine (HS1.out _).mono ?_
  rintro e w2 ⟨g1, c1, rfl, hc1, hn1, hg1, _, hb⟩
  clear HS1
  replace HZ := Lib.hid (HZ.out.step hb)
  replace HB := Lib.hid (below_trans HB.out hb)
  clear hb
  go_wp2_with fail
  refine (HS2.out _).mono ?_
  rintro e w3 ⟨g2, c2, rfl, hc2, hn2, hg2, _, hb⟩
  clear HS2
  replace HZ := Lib.hid (HZ.out.step hb)
  replace HB := Lib.hid (below_trans HB.out hb)
  clear hb
  have hz_0 := HZ.out.cell (i := 0) (v := .string ⟨#[]⟩) rfl
  have hz_1 := HZ.out.cell (i := 1) (v := .string ⟨#[]⟩) rfl
  have f0 := HZ.out.free 0
  have f1 := HZ.out.free 1
  obtain ⟨hs2, hw⟩ := stored2 HZ.out.row (.string ⟨#[]⟩) (.string ⟨#[]⟩)
  have HBF := Lib.hid (HB.out.trans (hw.below (by omega) HB.out.size))
  clear hw HZ HB
  go_wp2
  generalize ((w3.setCell ⟨W.heap.size, 0, none⟩ (.string ⟨#[]⟩)).setCell ⟨W.heap.size, 1, none⟩ (.string ⟨#[]⟩)) = wf at hs2 HBF ⊢
  have e0 := two0 hs2
  have e1 := two1 hs2
  refine bodyPost_ret (v := .tuple #[.agg #[.string ⟨#[]⟩, .string ⟨#[]⟩], .bool false]) (by simp [results, go_sem, e0, e1]) rfl ?_
  exact ⟨rfl, HBF.out⟩

set_option maxRecDepth 100000 in
set_option maxHeartbeats 8000000 in
theorem l12Decode_bad (line : ByteArray) (k : Nat) (W : World) (hs : line.size ≤ 1048576) (hk : k < 60) (h : (hdB k).size ≤ (txB line).size) (heq : (((txB line).extract 0 (hdB k).size).toList == (hdB k).toList) = true) (ha : (asB k line).size < (rsB k line).size) (hr : recOK (asB k line, rpB k line) = false) :
    Calls Tryd.prog 75 #[.string line, .int .i64 (k : Int)] W fun e w' => e = .returned (.tuple #[.agg #[.string (asB k line), .string (rpB k line)], .bool false]) ∧ Below W.heap.size W w' := by
  have hsz := data_size line
  have htl := tk_le 35 line.data.toList
  have htx : (txB line).size ≤ 1048576 := by unfold txB; rw [mk_size]; omega
  have hrs : (rsB k line).size ≤ 1048576 := by unfold rsB; rw [ByteArray.size_extract]; omega
  have hal := tk_le 64 (rsB k line).data.toList
  have has : (asB k line).size ≤ (rsB k line).size := by unfold asB; rw [mk_size, ← data_size (rsB k line)]; exact hal
  have hrp : (rpB k line).size ≤ 1048576 := by unfold rpB; rw [ByteArray.size_extract]; omega
  have hdl : (Lib.decDigits k).length ≤ 2 := dd_len 1 k (by omega)
  have hhs := hdB_size k
  have hadd1 : ∀ W, (Op.stringOp .add ⟨(Lib.itoa (k : Int)).toArray⟩ ⟨#[32]⟩).run Tryd.prog W = .ok (.string (hdB k)) W := fun W => by
    rw [run_string_add_sum W _ _ (by rw [mk_size, itoa_nat]; show _ + 1 ≤ _; omega)]; rfl
  have HN : Hid (∀ w, Calls Tryd.prog 70 #[.int .i64 (k : Int)] w (fun e w' => e = .returned (.string ⟨(Lib.itoa (k : Int)).toArray⟩) ∧ Below w.heap.size w w')) := Lib.hid (fun w => (l1Num_any k (k : Int) w (by omega) (by omega) (by omega)).mono (by
    rintro e w' ⟨rfl, q, rfl⟩
    exact ⟨rfl, below_drewN (Below.refl _ _) q⟩))
  have HS1 := Lib.hid (fun w => split_head line 35 w hs)
  have HS2 := Lib.hid (fun w => split_head (rsB k line) 64 w hrs)
  rw [show (((35 : UInt8).toNat : Nat) : Int) = 35 from rfl, show (⟨(bef 35 line.data.toList).toArray⟩ : ByteArray) = txB line from rfl] at HS1
  rw [show (((64 : UInt8).toNat : Nat) : Int) = 64 from rfl, show (⟨(bef 64 (rsB k line).data.toList).toArray⟩ : ByteArray) = asB k line from rfl] at HS2
  have HRQ := Lib.hid (fun w => l12Record_any (asB k line) (rpB k line) w (by omega) hrp)
  have hcut : (txB line).extract (hdB k).size (txB line).size = rsB k line := rfl
  have hcut2 : (rsB k line).extract ((asB k line).size + 1) (rsB k line).size = rpB k line := rfl
  have hhd : (hdB k).size ≤ 3 := by omega
  have hab : (asB k line).size ≤ 1048576 := by omega
  rw [hr] at HRQ
  clear hrp has hal hrs hdl htl hsz hhs htx hs hk hr
  generalize hdB k = hd at *
  generalize rpB k line = rp at *
  generalize asB k line = as_ at *
  generalize rsB k line = rs at *
  generalize txB line = tx at *
  have HZ := Lib.hid (Rw.new W #[.string ⟨#[]⟩, .string ⟨#[]⟩] 27 (W.heap.size) rfl)
  have HB := Lib.hid ((Below.refl W.heap.size W).alloc (Nat.le_refl _) (.cells #[.string ⟨#[]⟩, .string ⟨#[]⟩] 27))
  go_enter Tryd.func75, Tryd.ntmps75
  go_upto_region 1 with fail
  generalize W.alloc (.cells #[.string ⟨#[]⟩, .string ⟨#[]⟩] 27) = w0 at HB HZ ⊢
  go_wp2_with fail
  refine (HN.out _).mono ?_
  rintro e w1 ⟨rfl, hb⟩
  clear HN
  replace HZ := Lib.hid (HZ.out.step hb)
  replace HB := Lib.hid (below_trans HB.out hb)
  clear hb
  go_wp2_with fail
  refine (HS1.out _).mono ?_
  rintro e w2 ⟨g1, c1, rfl, hc1, hn1, hg1, _, hb⟩
  clear HS1
  replace HZ := Lib.hid (HZ.out.step hb)
  replace HB := Lib.hid (below_trans HB.out hb)
  clear hb
  go_wp2_with fail
  refine (HS2.out _).mono ?_
  rintro e w3 ⟨g2, c2, rfl, hc2, hn2, hg2, _, hb⟩
  clear HS2
  replace HZ := Lib.hid (HZ.out.step hb)
  replace HB := Lib.hid (below_trans HB.out hb)
  clear hb
  go_upto_region 10 with fail
  have hlt3 : w3.heap.size ≠ W.heap.size := by have := HZ.out.lt; omega
  have hb : Below w3.heap.size w3 (w3.alloc (.cells #[.string as_, .string rp] 27)) := (Below.refl _ _).alloc (Nat.le_refl _) _
  have HR := Lib.hid (Rw.new w3 #[.string as_, .string rp] 27 w3.heap.size rfl)
  replace HZ := Lib.hid (HZ.out.step hb)
  replace HB := Lib.hid (below_trans HB.out hb)
  clear hb
  generalize (w3.alloc (.cells #[.string as_, .string rp] 27)) = w4 at HB HZ HR ⊢
  refine wp_region_held_drew (S := (fun w' => w'.cell? ⟨w3.heap.size, 0, none⟩ = some (.string as_) ∧ w'.cell? ⟨w3.heap.size, 1, none⟩ = some (.string rp))) (by kernel_rfl) (by exact ⟨(HR.out.step (Below.refl _ w4).drew).cell (i := 0) (v := .string as_) rfl, (HR.out.step (Below.refl _ w4).drew).cell (i := 1) (v := .string rp) rfl⟩) (fun hHeld => ?_)
  refine wpAnyH_take (i := 0) (v := ?v1) rfl (by kernel_rfl) (by kernel_rfl) (by kernel_rfl) (fun _ _ _ h => h) (Or.inl ⟨by rfl, ?hy1⟩) (by assumption) ?rest1
  case hy1 => (intro w hSw; (try dsimp only at hSw); go_simp; try with_reducible rfl)
  try simp only [Act.put, List.getElem_toArray, List.getElem_cons_succ, List.getElem_cons_zero, List.setIfInBounds_toArray, List.set_cons_zero, List.set_cons_succ]
  refine wpAnyH_take (i := 1) (v := ?v2) rfl (by kernel_rfl) (by kernel_rfl) (by kernel_rfl) (fun _ _ _ h => h) (Or.inl ⟨by rfl, ?hy2⟩) (by assumption) ?rest2
  case hy2 => (intro w hSw; (try dsimp only at hSw); go_simp; try with_reducible rfl)
  try simp only [Act.put, List.getElem_toArray, List.getElem_cons_succ, List.getElem_cons_zero, List.setIfInBounds_toArray, List.set_cons_zero, List.set_cons_succ]
  refine wpAnyH_ready (rs := [2]) (by kernel_rfl) (by simp) ?_
  refine AllReadyH.cons rfl (fun K hK => ?_) AllReadyH.nil
  go_simp
  refine (HRQ.out w4.drew).mono ?_
  rintro e v1 ⟨rfl, hb⟩
  have HZ1 := Lib.hid (below_trans (Below.refl _ w4).drew hb)
  have HR_1 := Lib.hid (HR.out.step HZ1.out)
  clear hb
  refine hK.out _ _ (by exact ⟨(HR_1.out).cell (i := 0) (v := .string as_) rfl, (HR_1.out).cell (i := 1) (v := .string rp) rfl⟩) (fun hHeld => ?_)
  clear hK
  try simp only [Act.put, List.getElem_toArray, List.getElem_cons_succ, List.getElem_cons_zero, List.setIfInBounds_toArray, List.set_cons_zero, List.set_cons_succ]
  refine wpAnyH_take (i := 3) (v := ?v3) rfl (by kernel_rfl) (by kernel_rfl) (by kernel_rfl) (fun _ _ _ h => h) (Or.inl ⟨by rfl, ?hy3⟩) (by assumption) ?rest3
  case hy3 => (intro w hSw; (try dsimp only at hSw); go_simp; try with_reducible rfl)
  try simp only [Act.put, List.getElem_toArray, List.getElem_cons_succ, List.getElem_cons_zero, List.setIfInBounds_toArray, List.set_cons_zero, List.set_cons_succ]
  refine wpAnyH_take (i := 4) (v := undef) rfl (by kernel_rfl) (by kernel_rfl) (by kernel_rfl) (fun _ _ _ h => h) (Or.inr ⟨by rfl, rfl⟩) (by assumption) ?rest4
  try simp only [Act.put, List.getElem_toArray, List.getElem_cons_succ, List.getElem_cons_zero, List.setIfInBounds_toArray, List.set_cons_zero, List.set_cons_succ]
  refine wpAnyH_take (i := 5) (v := undef) rfl (by kernel_rfl) (by kernel_rfl) (by kernel_rfl) (fun _ _ _ h => h) (Or.inr ⟨by rfl, rfl⟩) (by assumption) ?rest5
  try simp only [Act.put, List.getElem_toArray, List.getElem_cons_succ, List.getElem_cons_zero, List.setIfInBounds_toArray, List.set_cons_zero, List.set_cons_succ]
  refine wpAnyH_take (i := 6) (v := undef) rfl (by kernel_rfl) (by kernel_rfl) (by kernel_rfl) (fun _ _ _ h => h) (Or.inr ⟨by rfl, rfl⟩) (by assumption) ?rest6
  try simp only [Act.put, List.getElem_toArray, List.getElem_cons_succ, List.getElem_cons_zero, List.setIfInBounds_toArray, List.set_cons_zero, List.set_cons_succ]
  refine wpAnyH_take (i := 7) (v := undef) rfl (by kernel_rfl) (by kernel_rfl) (by kernel_rfl) (fun _ _ _ h => h) (Or.inr ⟨by rfl, rfl⟩) (by assumption) ?rest7
  try simp only [Act.put, List.getElem_toArray, List.getElem_cons_succ, List.getElem_cons_zero, List.setIfInBounds_toArray, List.set_cons_zero, List.set_cons_succ]
  refine wpAnyH_take (i := 8) (v := undef) rfl (by kernel_rfl) (by kernel_rfl) (by kernel_rfl) (fun _ _ _ h => h) (Or.inr ⟨by rfl, rfl⟩) (by assumption) ?rest8
  try simp only [Act.put, List.getElem_toArray, List.getElem_cons_succ, List.getElem_cons_zero, List.setIfInBounds_toArray, List.set_cons_zero, List.set_cons_succ]
  refine wpAnyH_take (i := 9) (v := undef) rfl (by kernel_rfl) (by kernel_rfl) (by kernel_rfl) (fun _ _ _ h => h) (Or.inr ⟨by rfl, rfl⟩) (by assumption) ?rest9
  try simp only [Act.put, List.getElem_toArray, List.getElem_cons_succ, List.getElem_cons_zero, List.setIfInBounds_toArray, List.set_cons_zero, List.set_cons_succ]
  refine wpAnyH_take (i := 10) (v := ?v10) rfl (by kernel_rfl) (by kernel_rfl) (by kernel_rfl) (fun _ _ _ h => h) (Or.inl ⟨by rfl, ?hy10⟩) (by assumption) ?rest10
  case hy10 => (intro w hSw; (try dsimp only at hSw); go_simp; try with_reducible rfl)
  try simp only [Act.put, List.getElem_toArray, List.getElem_cons_succ, List.getElem_cons_zero, List.setIfInBounds_toArray, List.set_cons_zero, List.set_cons_succ]
  have hz_0 := (HZ.out.step HZ1.out).cell (i := 0) (v := .string ⟨#[]⟩) rfl
  have hz_1 := (HZ.out.step HZ1.out).cell (i := 1) (v := .string ⟨#[]⟩) rfl
  have f0 := (HZ.out.step HZ1.out).free 0
  have f1 := (HZ.out.step HZ1.out).free 1
  have HST := stored2 (HZ.out.step HZ1.out).row (.string as_) (.string rp)
  have HFR := (HR_1.out.far hlt3 0 (.string as_)).far hlt3 1 (.string rp)
  refine wpAnyH_ready (rs := [11]) (by kernel_rfl) (by simp) ?_
  refine AllReadyH.cons rfl (fun K hK => ?_) AllReadyH.nil
  go_simp
  refine hK.out _ _ (by exact ⟨(HFR).cell (i := 0) (v := .string as_) rfl, (HFR).cell (i := 1) (v := .string rp) rfl⟩) (fun hHeld => ?_)
  clear hK
  try simp only [Act.put, List.getElem_toArray, List.getElem_cons_succ, List.getElem_cons_zero, List.setIfInBounds_toArray, List.set_cons_zero, List.set_cons_succ]
  refine wpAnyH_take (i := 12) (v := ?v11) rfl (by kernel_rfl) (by kernel_rfl) (by kernel_rfl) (fun _ _ _ h => h) (Or.inl ⟨by rfl, ?hy11⟩) (by assumption) ?rest11
  case hy11 => (intro w hSw; (try dsimp only at hSw); go_simp; try with_reducible rfl)
  try simp only [Act.put, List.getElem_toArray, List.getElem_cons_succ, List.getElem_cons_zero, List.setIfInBounds_toArray, List.set_cons_zero, List.set_cons_succ]
  refine wpAnyH_done (by kernel_rfl) ?_ _
  obtain ⟨hs2, hw⟩ := HST
  have HBF := Lib.hid ((below_trans HB.out HZ1.out).trans (hw.below (by omega) (below_trans HB.out HZ1.out).size))
  clear hw HZ HB HFR hz_0 hz_1 f0 f1
  try clear HR_1
  try clear HR_2
  generalize ((v1.setCell ⟨W.heap.size, 0, none⟩ (.string as_)).setCell ⟨W.heap.size, 1, none⟩ (.string rp)) = wf at hs2 HBF ⊢
  have e0 := two0 hs2
  have e1 := two1 hs2
  go_wp2
  refine bodyPost_ret (v := .tuple #[.agg #[.string as_, .string rp], .bool false]) (by simp [results, go_sem, e0, e1]) rfl ?_
  exact ⟨rfl, HBF.out⟩

set_option maxRecDepth 100000 in
set_option maxHeartbeats 8000000 in
theorem l12Decode_good (line : ByteArray) (k : Nat) (W : World) (hs : line.size ≤ 1048576) (hk : k < 60) (h : (hdB k).size ≤ (txB line).size) (heq : (((txB line).extract 0 (hdB k).size).toList == (hdB k).toList) = true) (ha : (asB k line).size < (rsB k line).size) (hr : recOK (asB k line, rpB k line) = true) (B : Bool) (hB : ((enc12 k (asB k line, rpB k line)).toList == (line ++ ⟨#[10]⟩).toList) = B) :
    Calls Tryd.prog 75 #[.string line, .int .i64 (k : Int)] W fun e w' => e = .returned (.tuple #[.agg #[.string (asB k line), .string (rpB k line)], .bool B]) ∧ Below W.heap.size W w' := by
  have hsz := data_size line
  have htl := tk_le 35 line.data.toList
  have htx : (txB line).size ≤ 1048576 := by unfold txB; rw [mk_size]; omega
  have hrs : (rsB k line).size ≤ 1048576 := by unfold rsB; rw [ByteArray.size_extract]; omega
  have hal := tk_le 64 (rsB k line).data.toList
  have has : (asB k line).size ≤ (rsB k line).size := by unfold asB; rw [mk_size, ← data_size (rsB k line)]; exact hal
  have hrp : (rpB k line).size ≤ 1048576 := by unfold rpB; rw [ByteArray.size_extract]; omega
  have hdl : (Lib.decDigits k).length ≤ 2 := dd_len 1 k (by omega)
  have hhs := hdB_size k
  have hadd1 : ∀ W, (Op.stringOp .add ⟨(Lib.itoa (k : Int)).toArray⟩ ⟨#[32]⟩).run Tryd.prog W = .ok (.string (hdB k)) W := fun W => by
    rw [run_string_add_sum W _ _ (by rw [mk_size, itoa_nat]; show _ + 1 ≤ _; omega)]; rfl
  have HN : Hid (∀ w, Calls Tryd.prog 70 #[.int .i64 (k : Int)] w (fun e w' => e = .returned (.string ⟨(Lib.itoa (k : Int)).toArray⟩) ∧ Below w.heap.size w w')) := Lib.hid (fun w => (l1Num_any k (k : Int) w (by omega) (by omega) (by omega)).mono (by
    rintro e w' ⟨rfl, q, rfl⟩
    exact ⟨rfl, below_drewN (Below.refl _ _) q⟩))
  have HS1 := Lib.hid (fun w => split_head line 35 w hs)
  have HS2 := Lib.hid (fun w => split_head (rsB k line) 64 w hrs)
  rw [show (((35 : UInt8).toNat : Nat) : Int) = 35 from rfl, show (⟨(bef 35 line.data.toList).toArray⟩ : ByteArray) = txB line from rfl] at HS1
  rw [show (((64 : UInt8).toNat : Nat) : Int) = 64 from rfl, show (⟨(bef 64 (rsB k line).data.toList).toArray⟩ : ByteArray) = asB k line from rfl] at HS2
  have HRQ := Lib.hid (fun w => l12Record_any (asB k line) (rpB k line) w (by omega) hrp)
  have hcut : (txB line).extract (hdB k).size (txB line).size = rsB k line := rfl
  have hcut2 : (rsB k line).extract ((asB k line).size + 1) (rsB k line).size = rpB k line := rfl
  have hhd : (hdB k).size ≤ 3 := by omega
  have hab : (asB k line).size ≤ 1048576 := by omega
  have HLN := Lib.hid (fun w => l12Line_any k (asB k line) (rpB k line) w hk hr)
  have hadd2 : ∀ W, (Op.stringOp .add line ⟨#[10]⟩).run Tryd.prog W = .ok (.string (line ++ ⟨#[10]⟩)) W := fun W => by
    rw [run_string_add_sum W _ _ (by show line.size + 1 ≤ 9223372036854775807; omega)]
  generalize enc12 k (asB k line, rpB k line) = x6 at HLN hB
  rw [hr] at HRQ
  clear hrp has hal hrs hdl htl hsz hhs htx hs hk hr
  generalize hdB k = hd at *
  generalize rpB k line = rp at *
  generalize asB k line = as_ at *
  generalize rsB k line = rs at *
  generalize txB line = tx at *
  have HZ := Lib.hid (Rw.new W #[.string ⟨#[]⟩, .string ⟨#[]⟩] 27 (W.heap.size) rfl)
  have HB := Lib.hid ((Below.refl W.heap.size W).alloc (Nat.le_refl _) (.cells #[.string ⟨#[]⟩, .string ⟨#[]⟩] 27))
  go_enter Tryd.func75, Tryd.ntmps75
  go_upto_region 1 with fail
  generalize W.alloc (.cells #[.string ⟨#[]⟩, .string ⟨#[]⟩] 27) = w0 at HB HZ ⊢
  generalize line ++ ⟨#[10]⟩ = ln at hadd2 hB
  go_wp2_with fail
  refine (HN.out _).mono ?_
  rintro e w1 ⟨rfl, hb⟩
  clear HN
  replace HZ := Lib.hid (HZ.out.step hb)
  replace HB := Lib.hid (below_trans HB.out hb)
  clear hb
  go_wp2_with fail
  refine (HS1.out _).mono ?_
  rintro e w2 ⟨g1, c1, rfl, hc1, hn1, hg1, _, hb⟩
  clear HS1
  replace HZ := Lib.hid (HZ.out.step hb)
  replace HB := Lib.hid (below_trans HB.out hb)
  clear hb
  go_wp2_with fail
  refine (HS2.out _).mono ?_
  rintro e w3 ⟨g2, c2, rfl, hc2, hn2, hg2, _, hb⟩
  clear HS2
  replace HZ := Lib.hid (HZ.out.step hb)
  replace HB := Lib.hid (below_trans HB.out hb)
  clear hb
  go_upto_region 10 with fail
  have hlt3 : w3.heap.size ≠ W.heap.size := by have := HZ.out.lt; omega
  have hb : Below w3.heap.size w3 (w3.alloc (.cells #[.string as_, .string rp] 27)) := (Below.refl _ _).alloc (Nat.le_refl _) _
  have HR := Lib.hid (Rw.new w3 #[.string as_, .string rp] 27 w3.heap.size rfl)
  replace HZ := Lib.hid (HZ.out.step hb)
  replace HB := Lib.hid (below_trans HB.out hb)
  clear hb
  generalize (w3.alloc (.cells #[.string as_, .string rp] 27)) = w4 at HB HZ HR ⊢
  refine wp_region_held_drew (S := (fun w' => w'.cell? ⟨w3.heap.size, 0, none⟩ = some (.string as_) ∧ w'.cell? ⟨w3.heap.size, 1, none⟩ = some (.string rp))) (by kernel_rfl) (by exact ⟨(HR.out.step (Below.refl _ w4).drew).cell (i := 0) (v := .string as_) rfl, (HR.out.step (Below.refl _ w4).drew).cell (i := 1) (v := .string rp) rfl⟩) (fun hHeld => ?_)
  refine wpAnyH_take (i := 0) (v := ?v12) rfl (by kernel_rfl) (by kernel_rfl) (by kernel_rfl) (fun _ _ _ h => h) (Or.inl ⟨by rfl, ?hy12⟩) (by assumption) ?rest12
  case hy12 => (intro w hSw; (try dsimp only at hSw); go_simp; try with_reducible rfl)
  try simp only [Act.put, List.getElem_toArray, List.getElem_cons_succ, List.getElem_cons_zero, List.setIfInBounds_toArray, List.set_cons_zero, List.set_cons_succ]
  refine wpAnyH_take (i := 1) (v := ?v13) rfl (by kernel_rfl) (by kernel_rfl) (by kernel_rfl) (fun _ _ _ h => h) (Or.inl ⟨by rfl, ?hy13⟩) (by assumption) ?rest13
  case hy13 => (intro w hSw; (try dsimp only at hSw); go_simp; try with_reducible rfl)
  try simp only [Act.put, List.getElem_toArray, List.getElem_cons_succ, List.getElem_cons_zero, List.setIfInBounds_toArray, List.set_cons_zero, List.set_cons_succ]
  refine wpAnyH_ready (rs := [2]) (by kernel_rfl) (by simp) ?_
  refine AllReadyH.cons rfl (fun K hK => ?_) AllReadyH.nil
  go_simp
  refine (HRQ.out w4.drew).mono ?_
  rintro e v1 ⟨rfl, hb⟩
  have HZ1 := Lib.hid (below_trans (Below.refl _ w4).drew hb)
  have HR_1 := Lib.hid (HR.out.step HZ1.out)
  clear hb
  refine hK.out _ _ (by exact ⟨(HR_1.out).cell (i := 0) (v := .string as_) rfl, (HR_1.out).cell (i := 1) (v := .string rp) rfl⟩) (fun hHeld => ?_)
  clear hK
  try simp only [Act.put, List.getElem_toArray, List.getElem_cons_succ, List.getElem_cons_zero, List.setIfInBounds_toArray, List.set_cons_zero, List.set_cons_succ]
  refine wpAnyH_take (i := 3) (v := ?v14) rfl (by kernel_rfl) (by kernel_rfl) (by kernel_rfl) (fun _ _ _ h => h) (Or.inl ⟨by rfl, ?hy14⟩) (by assumption) ?rest14
  case hy14 => (intro w hSw; (try dsimp only at hSw); go_simp; try with_reducible rfl)
  try simp only [Act.put, List.getElem_toArray, List.getElem_cons_succ, List.getElem_cons_zero, List.setIfInBounds_toArray, List.set_cons_zero, List.set_cons_succ]
  refine wpAnyH_take (i := 4) (v := ?v15) rfl (by kernel_rfl) (by kernel_rfl) (by kernel_rfl) (fun _ _ _ h => h) (Or.inl ⟨by rfl, ?hy15⟩) (by assumption) ?rest15
  case hy15 => (intro w hSw; (try dsimp only at hSw); go_simp; try with_reducible rfl)
  try simp only [Act.put, List.getElem_toArray, List.getElem_cons_succ, List.getElem_cons_zero, List.setIfInBounds_toArray, List.set_cons_zero, List.set_cons_succ]
  refine wpAnyH_take (i := 5) (v := ?v16) rfl (by kernel_rfl) (by kernel_rfl) (by kernel_rfl) (fun _ _ _ h => h) (Or.inl ⟨by rfl, ?hy16⟩) (by assumption) ?rest16
  case hy16 => (intro w hSw; (try dsimp only at hSw); go_simp; try with_reducible rfl)
  try simp only [Act.put, List.getElem_toArray, List.getElem_cons_succ, List.getElem_cons_zero, List.setIfInBounds_toArray, List.set_cons_zero, List.set_cons_succ]
  refine wpAnyH_take (i := 7) (v := ?v17) rfl (by kernel_rfl) (by kernel_rfl) (by kernel_rfl) (fun _ _ _ h => h) (Or.inl ⟨by rfl, ?hy17⟩) (by assumption) ?rest17
  case hy17 => (intro w hSw; (try dsimp only at hSw); go_simp; try with_reducible rfl)
  try simp only [Act.put, List.getElem_toArray, List.getElem_cons_succ, List.getElem_cons_zero, List.setIfInBounds_toArray, List.set_cons_zero, List.set_cons_succ]
  refine wpAnyH_take (i := 8) (v := ?v18) rfl (by kernel_rfl) (by kernel_rfl) (by kernel_rfl) (fun _ _ _ h => h) (Or.inl ⟨by rfl, ?hy18⟩) (by assumption) ?rest18
  case hy18 => (intro w hSw; (try dsimp only at hSw); go_simp; try with_reducible rfl)
  try simp only [Act.put, List.getElem_toArray, List.getElem_cons_succ, List.getElem_cons_zero, List.setIfInBounds_toArray, List.set_cons_zero, List.set_cons_succ]
  refine wpAnyH_ready (rs := [6]) (by kernel_rfl) (by simp) ?_
  refine AllReadyH.cons rfl (fun K hK => ?_) AllReadyH.nil
  go_simp
  refine (HLN.out v1).mono ?_
  rintro e v2 ⟨rfl, hb⟩
  have HZ2 := Lib.hid (below_trans HZ1.out hb)
  have HR_2 := Lib.hid (HR.out.step HZ2.out)
  clear hb
  refine hK.out _ _ (by exact ⟨(HR_2.out).cell (i := 0) (v := .string as_) rfl, (HR_2.out).cell (i := 1) (v := .string rp) rfl⟩) (fun hHeld => ?_)
  clear hK
  try simp only [Act.put, List.getElem_toArray, List.getElem_cons_succ, List.getElem_cons_zero, List.setIfInBounds_toArray, List.set_cons_zero, List.set_cons_succ]
  refine wpAnyH_take (i := 9) (v := ?v19) rfl (by kernel_rfl) (by kernel_rfl) (by kernel_rfl) (fun _ _ _ h => h) (Or.inl ⟨by rfl, ?hy19⟩) (by assumption) ?rest19
  case hy19 => (intro w hSw; (try dsimp only at hSw); go_simp; try with_reducible rfl)
  try simp only [Act.put, List.getElem_toArray, List.getElem_cons_succ, List.getElem_cons_zero, List.setIfInBounds_toArray, List.set_cons_zero, List.set_cons_succ]
  refine wpAnyH_take (i := 10) (v := ?v20) rfl (by kernel_rfl) (by kernel_rfl) (by kernel_rfl) (fun _ _ _ h => h) (Or.inl ⟨by rfl, ?hy20⟩) (by assumption) ?rest20
  case hy20 => (intro w hSw; (try dsimp only at hSw); go_simp; try with_reducible rfl)
  try simp only [Act.put, List.getElem_toArray, List.getElem_cons_succ, List.getElem_cons_zero, List.setIfInBounds_toArray, List.set_cons_zero, List.set_cons_succ]
  have hz_0 := (HZ.out.step HZ2.out).cell (i := 0) (v := .string ⟨#[]⟩) rfl
  have hz_1 := (HZ.out.step HZ2.out).cell (i := 1) (v := .string ⟨#[]⟩) rfl
  have f0 := (HZ.out.step HZ2.out).free 0
  have f1 := (HZ.out.step HZ2.out).free 1
  have HST := stored2 (HZ.out.step HZ2.out).row (.string as_) (.string rp)
  have HFR := (HR_2.out.far hlt3 0 (.string as_)).far hlt3 1 (.string rp)
  refine wpAnyH_ready (rs := [11]) (by kernel_rfl) (by simp) ?_
  refine AllReadyH.cons rfl (fun K hK => ?_) AllReadyH.nil
  go_simp
  refine hK.out _ _ (by exact ⟨(HFR).cell (i := 0) (v := .string as_) rfl, (HFR).cell (i := 1) (v := .string rp) rfl⟩) (fun hHeld => ?_)
  clear hK
  try simp only [Act.put, List.getElem_toArray, List.getElem_cons_succ, List.getElem_cons_zero, List.setIfInBounds_toArray, List.set_cons_zero, List.set_cons_succ]
  refine wpAnyH_take (i := 12) (v := ?v21) rfl (by kernel_rfl) (by kernel_rfl) (by kernel_rfl) (fun _ _ _ h => h) (Or.inl ⟨by rfl, ?hy21⟩) (by assumption) ?rest21
  case hy21 => (intro w hSw; (try dsimp only at hSw); go_simp; try with_reducible rfl)
  try simp only [Act.put, List.getElem_toArray, List.getElem_cons_succ, List.getElem_cons_zero, List.setIfInBounds_toArray, List.set_cons_zero, List.set_cons_succ]
  refine wpAnyH_done (by kernel_rfl) ?_ _
  obtain ⟨hs2, hw⟩ := HST
  have HBF := Lib.hid ((below_trans HB.out HZ2.out).trans (hw.below (by omega) (below_trans HB.out HZ2.out).size))
  clear hw HZ HB HFR hz_0 hz_1 f0 f1
  try clear HR_1
  try clear HR_2
  generalize ((v2.setCell ⟨W.heap.size, 0, none⟩ (.string as_)).setCell ⟨W.heap.size, 1, none⟩ (.string rp)) = wf at hs2 HBF ⊢
  have e0 := two0 hs2
  have e1 := two1 hs2
  go_wp2
  refine bodyPost_ret (v := .tuple #[.agg #[.string as_, .string rp], .bool B]) (by simp [results, go_sem, e0, e1]) rfl ?_
  exact ⟨rfl, HBF.out⟩
end Go.Proofs.YtpjoljaamakagabDoor
