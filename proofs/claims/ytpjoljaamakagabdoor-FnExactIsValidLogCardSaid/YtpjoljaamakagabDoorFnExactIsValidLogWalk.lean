/- The law FnExactIsValidLog: its walk. -/
import Derived.Test.YtpjoljaamakagabDoorLogL
import Derived.Test.YtpjoljaamakagabDoorRecL
import Derived.Test.YtpjoljaamakagabDoorRows
namespace Go.Proofs.YtpjoljaamakagabDoor
open Go.RowKit Go.ChangeShapes Go.WideShapes
set_option linter.unusedVariables false
set_option linter.unusedSimpArgs false


set_option maxRecDepth 100000 in
set_option maxHeartbeats 8000000 in
theorem fnExactIsValidLog_walk (a b : ByteArray) (n : Int) (W : World) (wa : a.size ≤ maxLen) (wb : b.size ≤ maxLen) (wn : (Lit.int .i64 n).wf = true) (hL : laidMetH Tryd.prog Rows.fnExactIsValidLogRow.laid W) (hsh : W.ShapedOpen Tryd.prog) :
    Calls Tryd.prog 4 #[.agg (lgA a b n)] W fun e w' => e = .returned (.bool true) ∧ Below W.heap.size W w' := by
  have HP := Lib.hid (show Pow W from laid_pow hL)
  have HM := Lib.hid (maxL_of hsh)
  clear hsh hL wn
  have HZ := Lib.hid (fun w => szLog_any a b n w wa wb)
  have HT := Lib.hid (fun w => toLog_any a b n w)
  clear wa wb
  unfold szR at HZ
  by_cases h : a.size + b.size ≤ 1048576
  · rw [if_pos h] at HZ
    have hlf : (0 : Int) ≤ ((1048576 - (a.size + b.size) : Nat) : Int) := by omega
    generalize ((1048576 - (a.size + b.size) : Nat) : Int) = lf at HZ hlf
    have HK := Lib.hid (fun w hp hm => isValidLog_impl a b n w h hp hm)
    have HG := Lib.hid (fun w => isValidLog_spec a b n w h)
    clear h
    generalize logOK a b n = B at HK HG
    have HX := Lib.hid (Rw.new W (lgA a b n) 31 (W.heap.size) rfl)
    have HB := Lib.hid ((Below.refl W.heap.size W).alloc (Nat.le_refl _) (.cells (lgA a b n) 31))
    replace HP := Lib.hid (HP.out.below HB.out)
    replace HM := Lib.hid (HM.out.below HB.out)
    go_enter Tryd.func4, Tryd.ntmps4
    go_upto_region 1 with fail
    generalize W.alloc (.cells (lgA a b n) 31) = w0 at HB HP HM HX ⊢
    go_wp2_with (first | (with_reducible refine wpList_loadRw rfl 31 (.tmp 1) rfl W.heap.size (lgA a b n) 31 rfl HX.out (d := .struct (Tryd.prog.fieldsOf 31)) rfl underLLog (infoLLog _ _ _) ?_) | fail)
    refine (HZ.out _).mono ?_
    rintro e w1 ⟨rfl, hb⟩
    replace HP := Lib.hid (HP.out.below hb)
    replace HM := Lib.hid (HM.out.below hb)
    replace HX := Lib.hid (HX.out.step hb)
    replace HB := Lib.hid (below_trans HB.out hb)
    clear hb
    go_wp2_with (first | (with_reducible refine wpList_loadRw rfl 31 (.tmp 1) rfl W.heap.size (lgA a b n) 31 rfl HX.out (d := .struct (Tryd.prog.fieldsOf 31)) rfl underLLog (infoLLog _ _ _) ?_) | fail)
    refine (HT.out _).mono ?_
    rintro e w2 ⟨rfl, hb⟩
    replace HP := Lib.hid (HP.out.below hb)
    replace HM := Lib.hid (HM.out.below hb)
    replace HX := Lib.hid (HX.out.step hb)
    replace HB := Lib.hid (below_trans HB.out hb)
    clear hb
    go_wp2_with (first | (with_reducible refine wpList_loadRw rfl 31 (.tmp 1) rfl W.heap.size (lgA a b n) 31 rfl HX.out (d := .struct (Tryd.prog.fieldsOf 31)) rfl underLLog (infoLLog _ _ _) ?_) | fail)
    refine (HG.out _).mono ?_
    rintro e w3 ⟨rfl, hb⟩
    replace HP := Lib.hid (HP.out.below hb)
    replace HM := Lib.hid (HM.out.below hb)
    replace HX := Lib.hid (HX.out.step hb)
    replace HB := Lib.hid (below_trans HB.out hb)
    clear hb
    go_wp2_with (first | (with_reducible refine wpList_loadRw rfl 31 (.tmp 1) rfl W.heap.size (lgA a b n) 31 rfl HX.out (d := .struct (Tryd.prog.fieldsOf 31)) rfl underLLog (infoLLog _ _ _) ?_) | fail)
    refine (HT.out _).mono ?_
    rintro e w4 ⟨rfl, hb⟩
    replace HP := Lib.hid (HP.out.below hb)
    replace HM := Lib.hid (HM.out.below hb)
    replace HX := Lib.hid (HX.out.step hb)
    replace HB := Lib.hid (below_trans HB.out hb)
    clear hb
    go_wp2_with (first | (with_reducible refine wpList_loadRw rfl 31 (.tmp 1) rfl W.heap.size (lgA a b n) 31 rfl HX.out (d := .struct (Tryd.prog.fieldsOf 31)) rfl underLLog (infoLLog _ _ _) ?_) | fail)
    refine (HK.out _ HP.out HM.out).mono ?_
    rintro e w5 ⟨rfl, hb⟩
    replace HP := Lib.hid (HP.out.below hb)
    replace HM := Lib.hid (HM.out.below hb)
    replace HX := Lib.hid (HX.out.step hb)
    replace HB := Lib.hid (below_trans HB.out hb)
    clear hb
    go_wp2_with (first | (with_reducible refine wpList_loadRw rfl 31 (.tmp 1) rfl W.heap.size (lgA a b n) 31 rfl HX.out (d := .struct (Tryd.prog.fieldsOf 31)) rfl underLLog (infoLLog _ _ _) ?_) | fail)
    go_ret
    exact ⟨rfl, HB.out⟩
  · rw [if_neg h] at HZ
    have HX := Lib.hid (Rw.new W (lgA a b n) 31 (W.heap.size) rfl)
    have HB := Lib.hid ((Below.refl W.heap.size W).alloc (Nat.le_refl _) (.cells (lgA a b n) 31))
    replace HP := Lib.hid (HP.out.below HB.out)
    replace HM := Lib.hid (HM.out.below HB.out)
    go_enter Tryd.func4, Tryd.ntmps4
    go_upto_region 1 with fail
    generalize W.alloc (.cells (lgA a b n) 31) = w0 at HB HP HM HX ⊢
    go_wp2_with (first | (with_reducible refine wpList_loadRw rfl 31 (.tmp 1) rfl W.heap.size (lgA a b n) 31 rfl HX.out (d := .struct (Tryd.prog.fieldsOf 31)) rfl underLLog (infoLLog _ _ _) ?_) | fail)
    refine (HZ.out _).mono ?_
    rintro e w1 ⟨rfl, hb⟩
    replace HP := Lib.hid (HP.out.below hb)
    replace HM := Lib.hid (HM.out.below hb)
    replace HX := Lib.hid (HX.out.step hb)
    replace HB := Lib.hid (below_trans HB.out hb)
    clear hb
    go_wp2_with (first | (with_reducible refine wpList_loadRw rfl 31 (.tmp 1) rfl W.heap.size (lgA a b n) 31 rfl HX.out (d := .struct (Tryd.prog.fieldsOf 31)) rfl underLLog (infoLLog _ _ _) ?_) | fail)
    go_ret
    exact ⟨rfl, HB.out⟩
end Go.Proofs.YtpjoljaamakagabDoor
