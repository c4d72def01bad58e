/- The law FnExactSyncLog: its walk. -/
import Derived.Test.YtpjoljaamakagabDoorL12N
import Derived.Test.YtpjoljaamakagabDoorRecL
import Derived.Test.YtpjoljaamakagabDoorRows
namespace Go.Proofs.YtpjoljaamakagabDoor
open Go.RowKit Go.ChangeShapes Go.WideShapes
set_option linter.unusedVariables false
set_option linter.unusedSimpArgs false


theorem lgA_one (d p : ByteArray) (n : Int) : (lgA d p n).all (·.oneCell') = true := by simp [lgA, Value.oneCell']
set_option maxRecDepth 100000 in
set_option maxHeartbeats 8000000 in
theorem fnExactSyncLog_walk (a b : ByteArray) (n : Int) (W : World) (wa : a.size ≤ maxLen) (wb : b.size ≤ maxLen) (wn : (Lit.int .i64 n).wf = true) (hL : laidMetH Tryd.prog Rows.fnExactSyncLogRow.laid W) (hsh : W.ShapedOpen Tryd.prog) :
    Calls Tryd.prog 6 #[.agg (lgA a b n)] W fun e w' => e = .returned (.bool true) ∧ Below W.heap.size W w' := by
  have HP := Lib.hid (show Pow W from laid_pow hL)
  have HM := Lib.hid (maxL_of hsh)
  clear hsh hL wn
  have HZ := Lib.hid (fun w => szLog_any a b n w wa wb)
  have HT := Lib.hid (fun w => toLog_any a b n w)
  clear wa wb
  unfold szR at HZ
  by_cases h : a.size + b.size ≤ 1048576
  · rw [if_pos h] at HZ
    have hlf : (0 : Int) ≤ ((1048576 - (a.size + b.size) : Nat) : Int) := by omega
    generalize ((1048576 - (a.size + b.size) : Nat) : Int) = lf at HZ hlf
    obtain ⟨x, y, l, r, hi, hs⟩ := syncLog_both a b n h
    have HK := Lib.hid hi
    have HG := Lib.hid hs
    have HE := Lib.hid (fun w => eqLogL_same x y l w)
    clear hi hs h
    have HX := Lib.hid (Rw.new W (lgA a b n) 31 (W.heap.size) rfl)
    have HB := Lib.hid ((Below.refl W.heap.size W).alloc (Nat.le_refl _) (.cells (lgA a b n) 31))
    replace HP := Lib.hid (HP.out.below HB.out)
    replace HM := Lib.hid (HM.out.below HB.out)
    go_enter Tryd.func6, Tryd.ntmps6
    go_upto_region 1 with fail
    generalize W.alloc (.cells (lgA a b n) 31) = w0 at HB HP HM HX ⊢
    go_wp2_with (first | (with_reducible refine wpList_loadRw rfl 31 (.tmp 1) rfl W.heap.size (lgA a b n) 31 rfl HX.out (d := .struct (Tryd.prog.fieldsOf 31)) rfl underLLog (infoLLog _ _ _) ?_) | fail)
    refine (HZ.out _).mono ?_
    rintro e w1 ⟨rfl, hb⟩
    replace HP := Lib.hid (HP.out.below hb)
    replace HM := Lib.hid (HM.out.below hb)
    replace HX := Lib.hid (HX.out.step hb)
    replace HB := Lib.hid (below_trans HB.out hb)
    clear hb
    go_wp2_with (first | (with_reducible refine wpList_loadRw rfl 31 (.tmp 1) rfl W.heap.size (lgA a b n) 31 rfl HX.out (d := .struct (Tryd.prog.fieldsOf 31)) rfl underLLog (infoLLog _ _ _) ?_) | fail)
    refine (HT.out _).mono ?_
    rintro e w2 ⟨rfl, hb⟩
    replace HP := Lib.hid (HP.out.below hb)
    replace HM := Lib.hid (HM.out.below hb)
    replace HX := Lib.hid (HX.out.step hb)
    replace HB := Lib.hid (below_trans HB.out hb)
    clear hb
    go_wp2_with (first | (with_reducible refine wpList_loadRw rfl 31 (.tmp 1) rfl W.heap.size (lgA a b n) 31 rfl HX.out (d := .struct (Tryd.prog.fieldsOf 31)) rfl underLLog (infoLLog _ _ _) ?_) | fail)
    refine (HG.out _).mono ?_
    rintro e w3 ⟨rfl, hb⟩
    replace HP := Lib.hid (HP.out.below hb)
    replace HM := Lib.hid (HM.out.below hb)
    replace HX := Lib.hid (HX.out.step hb)
    replace HB := Lib.hid (below_trans HB.out hb)
    clear hb
    have hbz : Below w3.heap.size w3 (w3.alloc (.cells #[.string ⟨#[]⟩, .string ⟨#[]⟩, .int .i64 0] 34)) := (Below.refl _ _).alloc (Nat.le_refl _) _
    have hb : Below w3.heap.size w3 ((w3.alloc (.cells #[.string ⟨#[]⟩, .string ⟨#[]⟩, .int .i64 0] 34)).setRow w3.heap.size (lgA x y l)) := below_putR hbz (Nat.le_refl _) _
    have HZ9 := Lib.hid (Rw.new w3 #[.string ⟨#[]⟩, .string ⟨#[]⟩, .int .i64 0] 34 w3.heap.size rfl)
    have HU := Lib.hid (HZ9.out.put (lgA x y l))
    replace HP := Lib.hid (HP.out.below hb)
    replace HM := Lib.hid (HM.out.below hb)
    replace HX := Lib.hid (HX.out.step hb)
    replace HB := Lib.hid (below_trans HB.out hb)
    clear hb hbz
    go_wp2_with (first | (with_reducible refine wpList_loadRw rfl 31 (.tmp 1) rfl W.heap.size (lgA a b n) 31 rfl HX.out (d := .struct (Tryd.prog.fieldsOf 31)) rfl underLLog (infoLLog _ _ _) ?_) | (with_reducible refine wpList_loadRw rfl 34 (.tmp 4) rfl w3.heap.size (lgA x y l) 34 rfl HU.out (d := .struct (Tryd.prog.fieldsOf 34)) rfl underILog (infoILog _ _ _) ?_) | (with_reducible refine wpList_storeRw rfl 34 (.tmp 4) (.tmp 17) rfl w3.heap.size #[.string ⟨#[]⟩, .string ⟨#[]⟩, .int .i64 0] (lgA x y l) 34 rfl rfl HZ9.out (infoILog _ _ _) rfl (lgA_one _ _ _) ?_) | fail)
    clear HZ9
    generalize ((w3.alloc (.cells #[.string ⟨#[]⟩, .string ⟨#[]⟩, .int .i64 0] 34)).setRow w3.heap.size (lgA x y l)) = w4 at HB HP HM HX HU ⊢
    refine (HT.out _).mono ?_
    rintro e w5 ⟨rfl, hb⟩
    replace HP := Lib.hid (HP.out.below hb)
    replace HM := Lib.hid (HM.out.below hb)
    replace HX := Lib.hid (HX.out.step hb)
    replace HU := Lib.hid (HU.out.step hb)
    replace HB := Lib.hid (below_trans HB.out hb)
    clear hb
    go_wp2_with (first | (with_reducible refine wpList_loadRw rfl 31 (.tmp 1) rfl W.heap.size (lgA a b n) 31 rfl HX.out (d := .struct (Tryd.prog.fieldsOf 31)) rfl underLLog (infoLLog _ _ _) ?_) | (with_reducible refine wpList_loadRw rfl 34 (.tmp 4) rfl w3.heap.size (lgA x y l) 34 rfl HU.out (d := .struct (Tryd.prog.fieldsOf 34)) rfl underILog (infoILog _ _ _) ?_) | fail)
    refine (HK.out _ HP.out HM.out).mono ?_
    rintro e w6 ⟨rfl, hb⟩
    replace HP := Lib.hid (HP.out.below hb)
    replace HM := Lib.hid (HM.out.below hb)
    replace HX := Lib.hid (HX.out.step hb)
    replace HU := Lib.hid (HU.out.step hb)
    replace HB := Lib.hid (below_trans HB.out hb)
    clear hb
    have hbz : Below w6.heap.size w6 (w6.alloc (.cells #[.string ⟨#[]⟩, .string ⟨#[]⟩, .int .i64 0] 34)) := (Below.refl _ _).alloc (Nat.le_refl _) _
    have hb : Below w6.heap.size w6 ((w6.alloc (.cells #[.string ⟨#[]⟩, .string ⟨#[]⟩, .int .i64 0] 34)).setRow w6.heap.size (lgA x y l)) := below_putR hbz (Nat.le_refl _) _
    have HZ9 := Lib.hid (Rw.new w6 #[.string ⟨#[]⟩, .string ⟨#[]⟩, .int .i64 0] 34 w6.heap.size rfl)
    have HV := Lib.hid (HZ9.out.put (lgA x y l))
    replace HP := Lib.hid (HP.out.below hb)
    replace HM := Lib.hid (HM.out.below hb)
    replace HX := Lib.hid (HX.out.step hb)
    replace HU := Lib.hid (HU.out.step hb)
    replace HB := Lib.hid (below_trans HB.out hb)
    clear hb hbz
    go_wp2_with (first | (with_reducible refine wpList_loadRw rfl 31 (.tmp 1) rfl W.heap.size (lgA a b n) 31 rfl HX.out (d := .struct (Tryd.prog.fieldsOf 31)) rfl underLLog (infoLLog _ _ _) ?_) | (with_reducible refine wpList_loadRw rfl 34 (.tmp 4) rfl w3.heap.size (lgA x y l) 34 rfl HU.out (d := .struct (Tryd.prog.fieldsOf 34)) rfl underILog (infoILog _ _ _) ?_) | (with_reducible refine wpList_loadRw rfl 34 (.tmp 6) rfl w6.heap.size (lgA x y l) 34 rfl HV.out (d := .struct (Tryd.prog.fieldsOf 34)) rfl underILog (infoILog _ _ _) ?_) | (with_reducible refine wpList_storeRw rfl 34 (.tmp 6) (.tmp 23) rfl w6.heap.size #[.string ⟨#[]⟩, .string ⟨#[]⟩, .int .i64 0] (lgA x y l) 34 rfl rfl HZ9.out (infoILog _ _ _) rfl (lgA_one _ _ _) ?_) | fail)
    clear HZ9
    generalize ((w6.alloc (.cells #[.string ⟨#[]⟩, .string ⟨#[]⟩, .int .i64 0] 34)).setRow w6.heap.size (lgA x y l)) = w7 at HB HP HM HX HU HV ⊢
    refine (HE.out _).mono ?_
    rintro e w8 ⟨rfl, hb⟩
    replace HP := Lib.hid (HP.out.below hb)
    replace HM := Lib.hid (HM.out.below hb)
    replace HX := Lib.hid (HX.out.step hb)
    replace HU := Lib.hid (HU.out.step hb)
    replace HV := Lib.hid (HV.out.step hb)
    replace HB := Lib.hid (below_trans HB.out hb)
    clear hb
    go_wp2_with (first | (with_reducible refine wpList_loadRw rfl 31 (.tmp 1) rfl W.heap.size (lgA a b n) 31 rfl HX.out (d := .struct (Tryd.prog.fieldsOf 31)) rfl underLLog (infoLLog _ _ _) ?_) | (with_reducible refine wpList_loadRw rfl 34 (.tmp 4) rfl w3.heap.size (lgA x y l) 34 rfl HU.out (d := .struct (Tryd.prog.fieldsOf 34)) rfl underILog (infoILog _ _ _) ?_) | (with_reducible refine wpList_loadRw rfl 34 (.tmp 6) rfl w6.heap.size (lgA x y l) 34 rfl HV.out (d := .struct (Tryd.prog.fieldsOf 34)) rfl underILog (infoILog _ _ _) ?_) | fail)
    go_ret
    exact ⟨rfl, HB.out⟩
  · rw [if_neg h] at HZ
    have HX := Lib.hid (Rw.new W (lgA a b n) 31 (W.heap.size) rfl)
    have HB := Lib.hid ((Below.refl W.heap.size W).alloc (Nat.le_refl _) (.cells (lgA a b n) 31))
    replace HP := Lib.hid (HP.out.below HB.out)
    replace HM := Lib.hid (HM.out.below HB.out)
    go_enter Tryd.func6, Tryd.ntmps6
    go_upto_region 1 with fail
    generalize W.alloc (.cells (lgA a b n) 31) = w0 at HB HP HM HX ⊢
    go_wp2_with (first | (with_reducible refine wpList_loadRw rfl 31 (.tmp 1) rfl W.heap.size (lgA a b n) 31 rfl HX.out (d := .struct (Tryd.prog.fieldsOf 31)) rfl underLLog (infoLLog _ _ _) ?_) | fail)
    refine (HZ.out _).mono ?_
    rintro e w1 ⟨rfl, hb⟩
    replace HP := Lib.hid (HP.out.below hb)
    replace HM := Lib.hid (HM.out.below hb)
    replace HX := Lib.hid (HX.out.step hb)
    replace HB := Lib.hid (below_trans HB.out hb)
    clear hb
    go_wp2_with (first | (with_reducible refine wpList_loadRw rfl 31 (.tmp 1) rfl W.heap.size (lgA a b n) 31 rfl HX.out (d := .struct (Tryd.prog.fieldsOf 31)) rfl underLLog (infoLLog _ _ _) ?_) | fail)
    go_ret
    exact ⟨rfl, HB.out⟩
end Go.Proofs.YtpjoljaamakagabDoor
