/- The records of a text: the specification's. -/
import Derived.Test.YtpjoljaamakagabDoorL12J
namespace Go.Proofs.YtpjoljaamakagabDoor
open Go.RowKit Go.ChangeShapes Go.WideShapes
set_option linter.unusedVariables false
set_option linter.unusedSimpArgs false

theorem pre_eq {tx hd : ByteArray} (h : hd.size ≤ tx.size) : hd.data.toList.isPrefixOf tx.data.toList = ((tx.extract 0 hd.size).toList == hd.toList) := by
  rw [Bool.eq_iff_iff, List.isPrefixOf_iff_prefix, beq_iff_eq, Lib.toList_data, Lib.toList_data, extract_head, List.prefix_iff_eq_take, data_size]
  exact ⟨fun e => e.symm, fun e => e.symm⟩
theorem pre_short {tx hd : ByteArray} (h : tx.size < hd.size) : hd.data.toList.isPrefixOf tx.data.toList = false := by
  rw [Bool.eq_false_iff]
  intro e
  have := (List.isPrefixOf_iff_prefix.1 e).length_le
  rw [data_size, data_size] at this
  omega
theorem l12Decode_any (line : ByteArray) (k : Nat) (W : World) (hs : line.size ≤ 1048576) (hk : k < 60) :
    Calls Tryd.prog 75 #[.string line, .int .i64 (k : Int)] W fun e w' => ∃ a b, e = .returned (.tuple #[.agg #[.string a, .string b], .bool (eS k line.data.toList).isSome]) ∧ (∀ rc, eS k line.data.toList = some rc → rc = (a, b)) ∧ Below W.heap.size W w' := by
  rw [eS_eq]
  by_cases h1 : (txB line).size < (hdB k).size
  · refine (l12Decode_short line k W hs hk h1).mono ?_
    rintro e w' ⟨rfl, hb⟩
    rw [pre_short h1]
    exact ⟨⟨#[]⟩, ⟨#[]⟩, rfl, fun rc h => by simp at h, hb⟩
  have h1 : (hdB k).size ≤ (txB line).size := by omega
  rw [pre_eq h1]
  cases h2 : (((txB line).extract 0 (hdB k).size).toList == (hdB k).toList) with
  | false =>
    refine (l12Decode_other line k W hs hk h1 h2).mono ?_
    rintro e w' ⟨rfl, hb⟩
    exact ⟨⟨#[]⟩, ⟨#[]⟩, rfl, fun rc h => by simp at h, hb⟩
  | true =>
    by_cases h3 : (asB k line).size = (rsB k line).size
    · refine (l12Decode_noat line k W hs hk h1 h2 h3).mono ?_
      rintro e w' ⟨rfl, hb⟩
      rw [h3]
      exact ⟨⟨#[]⟩, ⟨#[]⟩, by simp, fun rc h => by simp at h, hb⟩
    have hal := tk_le 64 (rsB k line).data.toList
    have has : (asB k line).size ≤ (rsB k line).size := by unfold asB; rw [mk_size, ← data_size (rsB k line)]; exact hal
    rw [decide_eq_true (show (asB k line).size ≠ (rsB k line).size from h3)]
    cases h4 : recOK (asB k line, rpB k line) with
    | false =>
      refine (l12Decode_bad line k W hs hk h1 h2 (by omega) h4).mono ?_
      rintro e w' ⟨rfl, hb⟩
      exact ⟨asB k line, rpB k line, by simp, fun rc h => by simp at h, hb⟩
    | true =>
      by_cases h5 : enc12 k (asB k line, rpB k line) = line ++ ⟨#[10]⟩
      · refine (l12Decode_good line k W hs hk h1 h2 (by omega) h4 true (by rw [h5]; exact beq_self_eq_true _)).mono ?_
        rintro e w' ⟨rfl, hb⟩
        exact ⟨asB k line, rpB k line, by simp [h5], fun rc h => by simpa [h5] using h.symm, hb⟩
      · refine (l12Decode_good line k W hs hk h1 h2 (by omega) h4 false (toList_ne12 h5)).mono ?_
        rintro e w' ⟨rfl, hb⟩
        exact ⟨asB k line, rpB k line, by simp [h5], fun rc h => by simp [h5] at h, hb⟩

theorem split_headR (s : ByteArray) (c : UInt8) (w : World) (hs : s.size ≤ 1048576) :
    Calls Tryd.prog 74 #[.string s, .int .u8 (c.toNat : Int)] w fun e w' => ∃ g cap cur, e = .returned (.slice (some ⟨g, 0, none⟩) (parts s c).length cap) ∧ Rw w' g cur 9 ∧ cur[0]? = some (.string ⟨(bef c s.data.toList).toArray⟩) ∧ 1 ≤ (parts s c).length ∧ w.heap.size ≤ g ∧ Below w.heap.size w w' := by
  refine (l1Split_any s c w hs).mono ?_
  rintro e w' ⟨v, rfl, hown, hb⟩
  obtain ⟨h0, h2⟩ := parts_head s c
  have hl : 1 ≤ (parts s c).length := by
    cases hp : parts s c with
    | nil => rw [hp] at h0; cases h0
    | cons x l => simp
  rcases hown.2 with ⟨rfl, hn⟩ | ⟨g, cap, cur, rfl, hb', hg, hle, hm, hs, ht⟩
  · omega
  · refine ⟨g, cap, cur, rfl, ⟨hg⟩, ?_, hl, hb', hb⟩
    have e : (cur.toList.take ((parts s c).length * 1))[0]? = some (Value.string ⟨(bef c s.data.toList).toArray⟩) := by rw [ht, List.getElem?_map, h0]; rfl
    rw [List.getElem?_take_of_lt (by omega)] at e
    simpa using e
theorem ownBlock_ltR {sz : Nat} {w : World} {B n : Nat} {v : Value} {xs : List Value} {e : TypeId} (h : w.ownsRow B e sz v n xs) {g : Nat} (hk : some g = v.ownBlock) : g < w.heap.size := by
  rcases h.2 with ⟨rfl, _⟩ | ⟨g', cap, cur, rfl, _, hg, _⟩
  · cases hk
  · have hk : g = g' := by injection hk
    subst hk
    exact row_ltI hg

set_option maxRecDepth 100000 in
set_option maxHeartbeats 8000000 in
theorem l12Open_any (s : ByteArray) (W : World) (hs : s.size ≤ 1048576) :
    Calls Tryd.prog 53 #[.string s] W fun e w' => ∃ v, e = .returned (.tuple #[v, .int .i64 ((recs12 s.data.toList).2 : Int)]) ∧ w'.ownsRow W.heap.size 27 2 v (recs12 s.data.toList).1.length (cellsR (recs12 s.data.toList).1) ∧ Below W.heap.size W w' := by
  obtain ⟨i0, hi0, hz0, hz1, hz2⟩ := info_parts infoRec
  have HS := Lib.hid (fun r w => split_headR (s.extract r s.size) 10 w (by rw [ByteArray.size_extract]; omega))
  rw [show (((10 : UInt8).toNat : Nat) : Int) = 10 from rfl] at HS
  have hds := data_size s
  obtain ⟨⟨L, N⟩, hLN⟩ : ∃ x, recs12 s.data.toList = x := ⟨_, rfl⟩
  rw [hLN]
  dsimp only
  have HLN := Lib.hid hLN
  clear hLN
  have H0 := Lib.hid (R0_any W W.heap.size (Nat.le_refl _))
  have HB0 := Lib.hid ((Below.refl W.heap.size W).alloc (Nat.le_refl _) (.cells #[] 27))
  go_enter Tryd.func53, Tryd.ntmps53
  go_wp2_with fail
  generalize W.alloc (.cells #[] 27) = w0 at H0 HB0 ⊢
  go_loopw [4, 5] (fun v rd wr => ∃ (pre : List Rec) (r : Nat), rd = .int .i64 (r : Int) ∧ Hid (Reading s.data.toList pre r) ∧ Hid (wr.ownsRow W.heap.size 27 2 v pre.length (cellsR pre)) ∧ Hid (Below W.heap.size W wr)) (fun _ rd _ => s.size - (intOf rd).toNat)
  case atStart => exact ⟨[], 0, rfl, Lib.hid (Reading.start _), H0, HB0⟩
  case round =>
    clear H0 HB0
    obtain ⟨pre, r, rfl, HRd, HRow, HB⟩ := hrel
    rename World => w1
    have hle := HRd.out.le
    have hsh := HRd.out.short
    obtain ⟨A, c, rfl⟩ := row_sliceR HRow.out
    have stop : readR pre.length (s.data.toList.drop r) = none → L = pre ∧ N = r := fun he => by
      have e1 := HRd.out.stop he
      rw [HLN.out] at e1
      injection e1 with e1 e2
      exact ⟨e1, e2⟩
    rcases Nat.lt_or_ge r s.size with hr | hr
    rotate_left
    · obtain ⟨e1, e2⟩ := stop (by rw [List.drop_eq_nil_of_le (by omega)]; exact readR_nil)
      subst e1 e2
      clear stop HS
      go_wp2
      go_ret2
      exact ⟨_, rfl, HRow.out, HB.out⟩
    rcases Nat.lt_or_ge pre.length 60 with hl | hl
    rotate_left
    · obtain ⟨e1, e2⟩ := stop (readR_late (by omega))
      subst e1 e2
      clear stop HS
      go_wp2
      go_ret2
      exact ⟨_, rfl, HRow.out, HB.out⟩
    have HSr := Lib.hid (HS.out r)
    have hph := (parts_head (s.extract r s.size) 10).2
    rw [extract_tail] at HSr hph
    obtain ⟨ln, hln⟩ : ∃ x : ByteArray, x = ⟨(bef 10 (s.data.toList.drop r)).toArray⟩ := ⟨_, rfl⟩
    have hll : ln.data.toList = bef 10 (s.data.toList.drop r) := by rw [hln]
    have hlz : ln.size ≤ 1048576 := by
      have := tk_le 10 (s.data.toList.drop r)
      rw [List.length_drop] at this
      rw [← data_size, hll]; omega
    rw [← hln] at HSr
    have HD := Lib.hid (fun w => l12Decode_any ln pre.length w hlz hl)
    rw [hll] at HD
    clear HS hln
    cases hes : eS pre.length (bef 10 (s.data.toList.drop r)) with
    | none =>
      obtain ⟨e1, e2⟩ := stop (by
        cases he : readR pre.length (s.data.toList.drop r) with
        | none => rfl
        | some e => have := (read_eS he).2.1; rw [hes] at this; cases this)
      subst e1 e2
      rw [hes] at HD
      simp only [Option.isSome_none] at HD
      clear stop hes hph hll hlz HLN HRd
      generalize (parts (s.extract N s.size) 10).length = np at HSr
      go_wp2_with fail
      refine (HSr.out _).mono ?_
      rintro e w2 ⟨g1, c1, cur, rfl, hR1, hc0, hn1, hg1, hb⟩
      clear HSr
      have HB2 := Lib.hid (below_trans HB.out hb)
      have HRow2 := Lib.hid (row_stepR HRow.out hb)
      have hc1 := hR1.cell hc0
      clear hb
      go_wp2_with fail
      refine (HD.out _).mono ?_
      rintro e w3 ⟨a0, b0, rfl, hq, hb⟩
      clear HD hc1
      have HB3 := Lib.hid (below_trans HB2.out hb)
      have HRow3 := Lib.hid (row_stepR HRow2.out hb)
      have HR1 := Lib.hid (hR1.step hb)
      clear hb hR1
      have hb := (Below.refl w3.heap.size w3).alloc (Nat.le_refl _) (.cells #[.string a0, .string b0] 27)
      have HB4 := Lib.hid (below_trans HB3.out hb)
      have HRow4 := Lib.hid (row_stepR HRow3.out hb)
      replace HR1 := Lib.hid (HR1.out.step hb)
      have HX := Lib.hid (Rw.new w3 #[.string a0, .string b0] 27 w3.heap.size rfl)
      clear hb
      go_upto_region 6 with fail
      generalize (w3.alloc (.cells #[.string a0, .string b0] 27)) = w4 at HB4 HRow4 HR1 HX ⊢
      go_wp2
      all_goals
        go_ret2
        exact ⟨_, rfl, HRow4.out, HB4.out⟩
    | some rc =>
      rw [hes] at HD
      simp only [Option.isSome_some] at HD
      by_cases hm : (10 : UInt8) ∈ s.data.toList.drop r
      · have hn2 := hph.2 hm
        have he := eS_read hl hm hes
        have HN := Lib.hid (HRd.out.next he)
        have hes2 := (read_eS he).2.2
        rw [← hll, data_size] at hes2
        have hroom := readR_room he
        rw [List.length_drop] at hroom
        rw [← hes2] at HN hroom
        clear stop hph hes2 he hll hm hes HLN HRd hlz
        generalize (parts (s.extract r s.size) 10).length = np at HSr hn2
        go_wp2_with fail
        refine (HSr.out _).mono ?_
        rintro e w2 ⟨g1, c1, cur, rfl, hR1, hc0, hn1, hg1, hb⟩
        clear HSr
        have HB2 := Lib.hid (below_trans HB.out hb)
        have HRow2 := Lib.hid (row_stepR HRow.out hb)
        have hc1 := hR1.cell hc0
        clear hb
        go_wp2_with fail
        refine (HD.out _).mono ?_
        rintro e w3 ⟨a0, b0, rfl, hq, hb⟩
        clear HD hc1
        have HB3 := Lib.hid (below_trans HB2.out hb)
        have HRow3 := Lib.hid (row_stepR HRow2.out hb)
        have HR1 := Lib.hid (hR1.step hb)
        clear hb hR1
        have hb := (Below.refl w3.heap.size w3).alloc (Nat.le_refl _) (.cells #[.string a0, .string b0] 27)
        have HB4 := Lib.hid (below_trans HB3.out hb)
        have HRow4 := Lib.hid (row_stepR HRow3.out hb)
        replace HR1 := Lib.hid (HR1.out.step hb)
        have HX := Lib.hid (Rw.new w3 #[.string a0, .string b0] 27 w3.heap.size rfl)
        clear hb
        go_upto_region 6 with fail
        generalize (w3.alloc (.cells #[.string a0, .string b0] 27)) = w4 at HB4 HRow4 HR1 HX ⊢
        have hr_0 := HX.out.cell (i := 0) (v := .string a0) rfl
        have hr_1 := HX.out.cell (i := 1) (v := .string b0) rfl
        have hrc := hq _ rfl
        subst hrc
        clear hq
        have hown := HRow4.out
        have hgl := HR1.out.lt
        have HOB := Lib.hid (fun g (hk : some g = (Value.slice A pre.length c).ownBlock) => ownBlock_ltR HRow.out hk)
        generalize Value.slice A pre.length c = vv at hown HRow4 HOB ⊢
        have hsz := HB4.out.size
        go_upto_region 8 with (at_builtin; refine wpList_append_own _ rfl (.tmp 39) (.tmp 41) 48 rfl W.heap.size 27 i0 (.agg #[.string ⟨#[]⟩, .string ⟨#[]⟩]) 2 32 Tryd.underlying48 hi0 hz0 hz1 hz2 rfl (by decide) _ _ _ rfl (hown.alloc _) ⟨w4.heap.size, 0, none⟩ 1 1 [.string a0, .string b0] rfl rfl (cell_two_newR _ _ _ _) (by simp [Value.oneCell']) (by unfold maxLen; omega) (by omega) (by simp; omega) ?_; intro v' w7 hown' hgrow _)
        have HRow7 := Lib.hid (rec_snoc (q := (a0, b0)) hown' rfl)
        have HB7 := Lib.hid (grown_belowR hown HB4.out hsz hgrow)
        have HR7 : Rw w7 g1 cur 9 := ⟨(hgrow.block g1 (by simp; omega) (fun hk => by have := HOB.out _ hk; omega)).trans (((Below.refl _ w4).alloc (Nat.le_refl _) _).block g1 hgl |>.trans HR1.out.row)⟩
        have hc7 := HR7.cell hc0
        clear hown hown' hgrow hr_0 hr_1 HR7 HR1
        go_wp2
        go_roundw
        case rel => exact ⟨pre ++ [(a0, b0)], r + (ln.size + 1), by go_num, HN, HRow7, HB7⟩
        case measure => simp [intOf]; omega
      · obtain ⟨e1, e2⟩ := stop (by
          cases he : readR pre.length (s.data.toList.drop r) with
          | none => rfl
          | some e => exact absurd (read_eS he).1 hm)
        subst e1 e2
        have hn2 : ¬ 2 ≤ (parts (s.extract N s.size) 10).length := fun h => hm (hph.1 h)
        replace hn2 : (parts (s.extract N s.size) 10).length < 2 := by omega
        clear stop hes hph hm hll hlz HLN HRd
        generalize (parts (s.extract N s.size) 10).length = np at HSr hn2
        go_wp2_with fail
        refine (HSr.out _).mono ?_
        rintro e w2 ⟨g1, c1, cur, rfl, hR1, hc0, hn1, hg1, hb⟩
        clear HSr
        have HB2 := Lib.hid (below_trans HB.out hb)
        have HRow2 := Lib.hid (row_stepR HRow.out hb)
        have hc1 := hR1.cell hc0
        clear hb
        go_wp2_with fail
        refine (HD.out _).mono ?_
        rintro e w3 ⟨a0, b0, rfl, hq, hb⟩
        clear HD hc1
        have HB3 := Lib.hid (below_trans HB2.out hb)
        have HRow3 := Lib.hid (row_stepR HRow2.out hb)
        have HR1 := Lib.hid (hR1.step hb)
        clear hb hR1
        have hb := (Below.refl w3.heap.size w3).alloc (Nat.le_refl _) (.cells #[.string a0, .string b0] 27)
        have HB4 := Lib.hid (below_trans HB3.out hb)
        have HRow4 := Lib.hid (row_stepR HRow3.out hb)
        replace HR1 := Lib.hid (HR1.out.step hb)
        have HX := Lib.hid (Rw.new w3 #[.string a0, .string b0] 27 w3.heap.size rfl)
        clear hb
        go_upto_region 6 with fail
        generalize (w3.alloc (.cells #[.string a0, .string b0] 27)) = w4 at HB4 HRow4 HR1 HX ⊢
        go_wp2
        all_goals
          go_ret2
          exact ⟨_, rfl, HRow4.out, HB4.out⟩
end Go.Proofs.YtpjoljaamakagabDoor
