/- The law FnExactEncodeRecord: its walk. -/
import Derived.Test.YtpjoljaamakagabDoorL12G
import Derived.Test.YtpjoljaamakagabDoorRecL
import Derived.Test.YtpjoljaamakagabDoorRows
namespace Go.Proofs.YtpjoljaamakagabDoor
open Go.RowKit Go.ChangeShapes Go.WideShapes
set_option linter.unusedVariables false
set_option linter.unusedSimpArgs false


theorem maxQ_ofL {W : World} (h : MaxL W) : MaxQ W := h.2
theorem encodeRecord_both (k : Int) (a b : ByteArray) (ha : a.size ≤ 1048576) (hb : b.size ≤ 1048576) : ∃ (s : ByteArray) (r : Bool),
    (∀ (w : World), Pow w → MaxL w → Calls Tryd.prog 15 #[.int .i64 k, .agg (rcA a b)] w fun e w' => e = .returned (.tuple #[.string s, .bool r]) ∧ Below w.heap.size w w') ∧
    (∀ (w : World), Calls Tryd.prog 13 #[.int .i64 k, .agg (rcA a b)] w fun e w' => e = .returned (.tuple #[.string s, .bool r]) ∧ Below w.heap.size w w') := by
  by_cases h : (0 ≤ k ∧ k < 60) ∧ recOK (a, b) = true
  · obtain ⟨⟨h0, h1⟩, h2⟩ := h
    obtain ⟨n, rfl⟩ : ∃ n : Nat, k = (n : Int) := ⟨k.toNat, by omega⟩
    exact ⟨enc12 n (a, b), true, fun w hP hM => encodeRecord_impl_yes n a b w (by omega) h2 hP hM (maxQ_ofL hM), fun w => encodeRecord_spec_yes n a b w (by omega) h2⟩
  · have hn : (0 ≤ k ∧ k < 60) → recOK (a, b) = false := fun hk => by
      cases hr : recOK (a, b) with
      | false => rfl
      | true => exact absurd ⟨hk, hr⟩ h
    exact ⟨⟨#[]⟩, false, fun w hP hM => encodeRecord_impl_no k a b w hn ha hb (maxQ_ofL hM), fun w => encodeRecord_spec_no k a b w hn ha hb⟩
set_option maxRecDepth 100000 in
set_option maxHeartbeats 8000000 in
theorem fnExactEncodeRecord_walk (k : Int) (a b : ByteArray) (W : World) (wk : (Lit.int .i64 k).wf = true) (wa : a.size ≤ maxLen) (wb : b.size ≤ maxLen) (hL : laidMetH Tryd.prog Rows.fnExactEncodeRecordRow.laid W) (hsh : W.ShapedOpen Tryd.prog) :
    Calls Tryd.prog 3 #[.int .i64 k, .agg (rcA a b)] W fun e w' => e = .returned (.bool true) ∧ Below W.heap.size W w' := by
  have HP := Lib.hid (show Pow W from laid_pow hL)
  have HM := Lib.hid (maxL_of hsh)
  clear hsh hL wk
  have HZ := Lib.hid (fun w => szLogRecord_any a b w wa wb)
  have HT := Lib.hid (fun w => toLogRecord_any a b w)
  clear wa wb
  unfold szR at HZ
  by_cases h : a.size + b.size ≤ 1048576
  · rw [if_pos h] at HZ
    have hlf : (0 : Int) ≤ ((1048576 - (a.size + b.size) : Nat) : Int) := by omega
    generalize ((1048576 - (a.size + b.size) : Nat) : Int) = lf at HZ hlf
    obtain ⟨s, r, hi, hs⟩ := encodeRecord_both k a b (by omega) (by omega)
    have HK := Lib.hid hi
    have HG := Lib.hid hs
    clear hi hs
    have HX := Lib.hid (Rw.new W (rcA a b) 23 (W.heap.size) rfl)
    have HB := Lib.hid ((Below.refl W.heap.size W).alloc (Nat.le_refl _) (.cells (rcA a b) 23))
    replace HP := Lib.hid (HP.out.below HB.out)
    replace HM := Lib.hid (HM.out.below HB.out)
    go_enter Tryd.func3, Tryd.ntmps3
    go_upto_region 1 with fail
    generalize W.alloc (.cells (rcA a b) 23) = w0 at HB HP HM HX ⊢
    go_wp2_with (first | (with_reducible refine wpList_loadRw rfl 23 (.tmp 3) rfl W.heap.size (rcA a b) 23 rfl HX.out (d := .struct (Tryd.prog.fieldsOf 23)) rfl underLRec (infoLRec _ _) ?_) | fail)
    refine (HZ.out _).mono ?_
    rintro e w1 ⟨rfl, hb⟩
    replace HP := Lib.hid (HP.out.below hb)
    replace HM := Lib.hid (HM.out.below hb)
    replace HX := Lib.hid (HX.out.step hb)
    replace HB := Lib.hid (below_trans HB.out hb)
    clear hb
    go_wp2_with (first | (with_reducible refine wpList_loadRw rfl 23 (.tmp 3) rfl W.heap.size (rcA a b) 23 rfl HX.out (d := .struct (Tryd.prog.fieldsOf 23)) rfl underLRec (infoLRec _ _) ?_) | fail)
    refine (HT.out _).mono ?_
    rintro e w2 ⟨rfl, hb⟩
    replace HP := Lib.hid (HP.out.below hb)
    replace HM := Lib.hid (HM.out.below hb)
    replace HX := Lib.hid (HX.out.step hb)
    replace HB := Lib.hid (below_trans HB.out hb)
    clear hb
    go_wp2_with (first | (with_reducible refine wpList_loadRw rfl 23 (.tmp 3) rfl W.heap.size (rcA a b) 23 rfl HX.out (d := .struct (Tryd.prog.fieldsOf 23)) rfl underLRec (infoLRec _ _) ?_) | fail)
    refine (HG.out _).mono ?_
    rintro e w3 ⟨rfl, hb⟩
    replace HP := Lib.hid (HP.out.below hb)
    replace HM := Lib.hid (HM.out.below hb)
    replace HX := Lib.hid (HX.out.step hb)
    replace HB := Lib.hid (below_trans HB.out hb)
    clear hb
    go_wp2_with (first | (with_reducible refine wpList_loadRw rfl 23 (.tmp 3) rfl W.heap.size (rcA a b) 23 rfl HX.out (d := .struct (Tryd.prog.fieldsOf 23)) rfl underLRec (infoLRec _ _) ?_) | fail)
    refine (HT.out _).mono ?_
    rintro e w4 ⟨rfl, hb⟩
    replace HP := Lib.hid (HP.out.below hb)
    replace HM := Lib.hid (HM.out.below hb)
    replace HX := Lib.hid (HX.out.step hb)
    replace HB := Lib.hid (below_trans HB.out hb)
    clear hb
    go_wp2_with (first | (with_reducible refine wpList_loadRw rfl 23 (.tmp 3) rfl W.heap.size (rcA a b) 23 rfl HX.out (d := .struct (Tryd.prog.fieldsOf 23)) rfl underLRec (infoLRec _ _) ?_) | fail)
    refine (HK.out _ HP.out HM.out).mono ?_
    rintro e w5 ⟨rfl, hb⟩
    replace HP := Lib.hid (HP.out.below hb)
    replace HM := Lib.hid (HM.out.below hb)
    replace HX := Lib.hid (HX.out.step hb)
    replace HB := Lib.hid (below_trans HB.out hb)
    clear hb
    go_wp2_with (first | (with_reducible refine wpList_loadRw rfl 23 (.tmp 3) rfl W.heap.size (rcA a b) 23 rfl HX.out (d := .struct (Tryd.prog.fieldsOf 23)) rfl underLRec (infoLRec _ _) ?_) | fail)
    go_ret
    exact ⟨rfl, HB.out⟩
  · rw [if_neg h] at HZ
    have HX := Lib.hid (Rw.new W (rcA a b) 23 (W.heap.size) rfl)
    have HB := Lib.hid ((Below.refl W.heap.size W).alloc (Nat.le_refl _) (.cells (rcA a b) 23))
    replace HP := Lib.hid (HP.out.below HB.out)
    replace HM := Lib.hid (HM.out.below HB.out)
    go_enter Tryd.func3, Tryd.ntmps3
    go_upto_region 1 with fail
    generalize W.alloc (.cells (rcA a b) 23) = w0 at HB HP HM HX ⊢
    go_wp2_with (first | (with_reducible refine wpList_loadRw rfl 23 (.tmp 3) rfl W.heap.size (rcA a b) 23 rfl HX.out (d := .struct (Tryd.prog.fieldsOf 23)) rfl underLRec (infoLRec _ _) ?_) | fail)
    refine (HZ.out _).mono ?_
    rintro e w1 ⟨rfl, hb⟩
    replace HP := Lib.hid (HP.out.below hb)
    replace HM := Lib.hid (HM.out.below hb)
    replace HX := Lib.hid (HX.out.step hb)
    replace HB := Lib.hid (below_trans HB.out hb)
    clear hb
    go_wp2_with (first | (with_reducible refine wpList_loadRw rfl 23 (.tmp 3) rfl W.heap.size (rcA a b) 23 rfl HX.out (d := .struct (Tryd.prog.fieldsOf 23)) rfl underLRec (infoLRec _ _) ?_) | fail)
    go_ret
    exact ⟨rfl, HB.out⟩
end Go.Proofs.YtpjoljaamakagabDoor
