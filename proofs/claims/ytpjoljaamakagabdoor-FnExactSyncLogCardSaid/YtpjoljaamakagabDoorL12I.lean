/- The records of a text: the program's. -/
import Derived.Test.YtpjoljaamakagabDoorL12H
namespace Go.Proofs.YtpjoljaamakagabDoor
open Go.RowKit Go.ChangeShapes Go.WideShapes
set_option linter.unusedVariables false
set_option linter.unusedSimpArgs false

def cellsR : List Rec → List Value
  | [] => []
  | x :: r => .string x.1 :: .string x.2 :: cellsR r
theorem cellsR_len : ∀ l, (cellsR l).length = l.length * 2
  | [] => rfl
  | x :: r => by simp [cellsR, cellsR_len r]; omega
theorem cellsR_snoc : ∀ (l : List Rec) (q : Rec), cellsR (l ++ [q]) = cellsR l ++ [Value.string q.1, Value.string q.2]
  | [], q => rfl
  | x :: r, q => by
    show Value.string x.1 :: Value.string x.2 :: cellsR (r ++ [q]) = _
    rw [cellsR_snoc r q]; rfl
theorem cell_two_newR (w : World) (x y : Value) (t : TypeId) : ∀ j u, [x, y][j]? = some u → (w.alloc (.cells #[x, y] t)).cell? ((⟨w.heap.size, 0, none⟩ : Addr).add j) = some u := by
  intro j u hj
  match j, hj with
  | 0, hj =>
    simp at hj
    subst hj
    simp [Addr.add]
  | 1, hj =>
    simp at hj
    subst hj
    simp [Addr.add]
  | j + 2, hj => simp at hj
theorem rec_snoc {w : World} {B n : Nat} {v : Value} {l : List Rec} {q : Rec} {T : TypeId} (h : w.ownsRow B T 2 v (n + 1) (cellsR l ++ [Value.string q.1, Value.string q.2])) (hn : n = l.length) : w.ownsRow B T 2 v (l ++ [q]).length (cellsR (l ++ [q])) := by
  subst hn
  rw [cellsR_snoc]
  simpa using h
theorem row_stepR {sz : Nat} {w w' : World} {B n : Nat} {v : Value} {e : TypeId} {xs : List Value} (h : w.ownsRow B e sz v n xs) (hb : Below w.heap.size w w') : w'.ownsRow B e sz v n xs :=
  ⟨h.1, h.2.imp id fun ⟨g, cap, cur, a, b, hg, r⟩ => ⟨g, cap, cur, a, b, (hb.block g (row_ltI hg)).trans hg, r⟩⟩
theorem row_sliceR {sz : Nat} {w : World} {B n : Nat} {v : Value} {e : TypeId} {xs : List Value} (h : w.ownsRow B e sz v n xs) : ∃ A c, v = .slice A n c := by
  rcases h.2 with ⟨rfl, h0⟩ | ⟨g, cap, cur, rfl, _⟩
  · exact ⟨none, 0, by rw [h0]⟩
  · exact ⟨_, cap, rfl⟩
theorem row_outR {sz : Nat} {w : World} {B n g : Nat} {v : Value} {e : TypeId} {xs : List Value} (h : w.ownsRow B e sz v n xs) (hk : some g = v.ownBlock) : B ≤ g := by
  rcases h.2 with ⟨rfl, _⟩ | ⟨g', cap, cur, rfl, hb, _⟩
  · cases hk
  · have hk : g = g' := by injection hk
    omega
theorem grown_belowR {sz : Nat} {w w' w0 : World} {B n : Nat} {v : Value} {e : TypeId} {xs : List Value} {o : Obj} (h : w.ownsRow B e sz v n xs) (h0 : Below B w0 w) (hB : B ≤ w.heap.size) (hg : (w.alloc o).grownBy w' v.ownBlock) : Below B w0 w' :=
  (h0.alloc hB o).grown hg (by simp; omega) (fun k hk => row_outR h hk.symm)
theorem infoRec : (Tryd.prog.info? 27).map (fun i => (i.zero, i.size, i.bytes)) = some (some (.agg #[.string ⟨#[]⟩, .string ⟨#[]⟩]), 2, 32) := by kernel_rfl
theorem R0_any (w : World) (B : Nat) (h : B ≤ w.heap.size) : (w.alloc (.cells #[] 27)).ownsRow B 27 2 (.slice (some ⟨w.heap.size, 0, none⟩) 0 0) 0 [] :=
  World.ownsRow_lit w (e := 27) (size := 2) (base := B) #[] 0 h (by unfold maxLen; omega) rfl
theorem extract_tail (s : ByteArray) (k : Nat) : (s.extract k s.size).data.toList = s.data.toList.drop k := by
  have hd := data_size s
  rw [ByteArray.data_extract, Array.toList_extract, List.extract_eq_take_drop, List.take_of_length_le (by rw [List.length_drop]; omega)]

set_option maxRecDepth 100000 in
set_option maxHeartbeats 8000000 in
theorem firstRecords_any (s : ByteArray) (W : World) (hs : s.size ≤ 1048576) (hP : Pow W) (hM : MaxL W) :
    Calls Tryd.prog 54 #[.string s] W fun e w' => ∃ v, e = .returned (.tuple #[v, .int .i64 ((recs12 s.data.toList).2 : Int)]) ∧ w'.ownsRow W.heap.size 27 2 v (recs12 s.data.toList).1.length (cellsR (recs12 s.data.toList).1) ∧ Below W.heap.size W w' := by
  obtain ⟨i0, hi0, hz0, hz1, hz2⟩ := info_parts infoRec
  have HFY := Lib.hid (fun rd k rc h w hp hm => firstRecord_yes (s.extract rd s.size) k rc h w (by rw [ByteArray.size_extract]; omega) hp hm)
  have HFN := Lib.hid (fun rd k h w hp hm => firstRecord_no (s.extract rd s.size) k h w (by rw [ByteArray.size_extract]; omega) hp hm)
  have hds := data_size s
  obtain ⟨⟨L, N⟩, hLN⟩ : ∃ x, recs12 s.data.toList = x := ⟨_, rfl⟩
  rw [hLN]
  dsimp only
  have HLN := Lib.hid hLN
  clear hLN
  have H0 := Lib.hid (R0_any W W.heap.size (Nat.le_refl _))
  have HB0 := Lib.hid ((Below.refl W.heap.size W).alloc (Nat.le_refl _) (.cells #[] 27))
  have HP := Lib.hid hP
  have HM := Lib.hid hM
  clear hP hM
  go_enter Tryd.func54, Tryd.ntmps54
  go_wp2_with fail
  generalize W.alloc (.cells #[] 27) = w0 at H0 HB0 ⊢
  go_loopw [4, 5] (fun v rd wr => ∃ (pre : List Rec) (r : Nat), rd = .int .i64 (r : Int) ∧ Hid (Reading s.data.toList pre r) ∧ Hid (wr.ownsRow W.heap.size 27 2 v pre.length (cellsR pre)) ∧ Hid (Below W.heap.size W wr)) (fun _ rd _ => s.size - (intOf rd).toNat)
  case atStart => exact ⟨[], 0, rfl, Lib.hid (Reading.start _), H0, HB0⟩
  case round =>
    clear H0 HB0
    obtain ⟨pre, r, rfl, HRd, HRow, HB⟩ := hrel
    rename World => w1
    have hle := HRd.out.le
    have hsh := HRd.out.short
    have HP1 := Lib.hid (HP.out.below HB.out)
    have HM1 := Lib.hid (HM.out.below HB.out)
    obtain ⟨A, c, rfl⟩ := row_sliceR HRow.out
    cases he : readR pre.length (s.data.toList.drop r) with
    | none =>
      have e1 := HRd.out.stop he
      rw [HLN.out] at e1
      injection e1 with e1 e2
      have e1 := e1.symm
      have e2 := e2.symm
      subst e1 e2
      rw [← extract_tail] at he
      have HF := Lib.hid (HFN.out r pre.length he)
      clear he HFY HFN HLN HRd
      go_wp2_with fail
      refine (HF.out _ HP1.out HM1.out).mono ?_
      rintro e w2 ⟨rfl, hb⟩
      clear HF
      have HB2 := Lib.hid (below_trans HB.out hb)
      have HRow2 := Lib.hid (row_stepR HRow.out hb)
      have HB3 := Lib.hid (HB2.out.alloc (HB2.out.size) (.cells #[.string ⟨#[]⟩, .string ⟨#[]⟩] 27))
      have HRow3 := Lib.hid (HRow2.out.alloc (.cells #[.string ⟨#[]⟩, .string ⟨#[]⟩] 27))
      clear hb
      go_upto_region 3 with fail
      generalize (w2.alloc (.cells #[.string ⟨#[]⟩, .string ⟨#[]⟩] 27)) = w3 at HB3 HRow3 ⊢
      go_wp2
      go_ret2
      exact ⟨_, rfl, HRow3.out, HB3.out⟩
    | some rc =>
      have HN := Lib.hid (HRd.out.next he)
      have hroom := readR_room he
      rw [List.length_drop] at hroom
      have hk := (readR_some.1 he).1
      rw [← extract_tail] at he
      have HF := Lib.hid (HFY.out r pre.length rc he)
      clear he HFN
      generalize enc12 pre.length rc = x6 at HF HN hroom
      obtain ⟨a0, b0⟩ := rc
      dsimp only at HF
      go_wp2_with fail
      refine (HF.out _ HP1.out HM1.out).mono ?_
      rintro e w2 ⟨rfl, hb⟩
      clear HF
      have HB2 := Lib.hid (below_trans HB.out hb)
      have HRow2 := Lib.hid (row_stepR HRow.out hb)
      have HB3 := Lib.hid (HB2.out.alloc (HB2.out.size) (.cells #[.string a0, .string b0] 27))
      have HRow3 := Lib.hid (HRow2.out.alloc (.cells #[.string a0, .string b0] 27))
      have HR := Lib.hid (Rw.new w2 #[.string a0, .string b0] 27 w2.heap.size rfl)
      clear hb
      go_upto_region 3 with fail
      generalize (w2.alloc (.cells #[.string a0, .string b0] 27)) = w3 at HB3 HRow3 HR ⊢
      have hr_0 := HR.out.cell (i := 0) (v := .string a0) rfl
      have hr_1 := HR.out.cell (i := 1) (v := .string b0) rfl
      have hown := HRow3.out
      generalize Value.slice A pre.length c = vv at hown HRow3 ⊢
      have hsz := HB3.out.size
      go_wp2_with (at_builtin; refine wpList_append_own _ rfl (.tmp 24) (.tmp 26) 48 rfl W.heap.size 27 i0 (.agg #[.string ⟨#[]⟩, .string ⟨#[]⟩]) 2 32 Tryd.underlying48 hi0 hz0 hz1 hz2 rfl (by decide) _ _ _ rfl (hown.alloc _) ⟨w3.heap.size, 0, none⟩ 1 1 [.string a0, .string b0] rfl rfl (cell_two_newR _ _ _ _) (by simp [Value.oneCell']) (by unfold maxLen; omega) (by omega) (by simp; omega) ?_; intro v' w7 hown' hgrow _)
      have HRow7 := Lib.hid (rec_snoc (q := (a0, b0)) hown' rfl)
      have HB7 := Lib.hid (grown_belowR hown HB3.out hsz hgrow)
      clear hown hown' hgrow hr_0 hr_1
      go_wp2
      go_roundw
      case rel => exact ⟨pre ++ [(a0, b0)], r + x6.size, by go_num, HN, HRow7, HB7⟩
      case measure => simp [intOf]; omega
end Go.Proofs.YtpjoljaamakagabDoor
