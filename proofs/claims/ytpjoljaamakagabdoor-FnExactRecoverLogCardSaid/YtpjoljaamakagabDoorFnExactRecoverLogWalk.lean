/- The law FnExactRecoverLog: its walk. -/
import Derived.Test.YtpjoljaamakagabDoorL12N
import Derived.Test.YtpjoljaamakagabDoorRecL
import Derived.Test.YtpjoljaamakagabDoorRows
namespace Go.Proofs.YtpjoljaamakagabDoor
open Go.RowKit Go.ChangeShapes Go.WideShapes
set_option linter.unusedVariables false
set_option linter.unusedSimpArgs false


theorem lgA_oneR (d p : ByteArray) (n : Int) : (lgA d p n).all (·.oneCell') = true := by simp [lgA, Value.oneCell']
set_option maxRecDepth 100000 in
set_option maxHeartbeats 8000000 in
theorem fnExactRecoverLog_walk (s : ByteArray) (W : World) (wa : s.size ≤ maxLen) (hL : laidMetH Tryd.prog Rows.fnExactRecoverLogRow.laid W) (hsh : W.ShapedOpen Tryd.prog) :
    Calls Tryd.prog 8 #[.string s] W fun e w' => e = .returned (.bool true) ∧ Below W.heap.size W w' := by
  have HP := Lib.hid (show Pow W from laid_pow hL)
  have HM := Lib.hid (maxL_of hsh)
  clear hsh hL
  have HB := Lib.hid (Below.refl W.heap.size W)
  unfold maxLen at wa
  rcases Nat.lt_or_ge 1048576 s.size with h | h
  · go_enter Tryd.func8, Tryd.ntmps8
    go_wp2
    go_ret
    exact ⟨rfl, HB.out⟩
  · obtain ⟨x, y, l, k, r, hi, hs⟩ := recoverLog_both s h
    have HK := Lib.hid hi
    have HG := Lib.hid hs
    have HE := Lib.hid (fun w => eqLogL_same x y l w)
    clear hi hs
    go_enter Tryd.func8, Tryd.ntmps8
    go_upto_region 3 with fail
    go_wp2_with fail
    refine (HG.out _).mono ?_
    rintro e w1 ⟨rfl, hb⟩
    replace HP := Lib.hid (HP.out.below hb)
    replace HM := Lib.hid (HM.out.below hb)
    replace HB := Lib.hid (below_trans HB.out hb)
    clear hb
    have hbz : Below w1.heap.size w1 (w1.alloc (.cells #[.string ⟨#[]⟩, .string ⟨#[]⟩, .int .i64 0] 34)) := (Below.refl _ _).alloc (Nat.le_refl _) _
    have hb : Below w1.heap.size w1 ((w1.alloc (.cells #[.string ⟨#[]⟩, .string ⟨#[]⟩, .int .i64 0] 34)).setRow w1.heap.size (lgA x y l)) := below_putR hbz (Nat.le_refl _) _
    have HZ9 := Lib.hid (Rw.new w1 #[.string ⟨#[]⟩, .string ⟨#[]⟩, .int .i64 0] 34 w1.heap.size rfl)
    have HU := Lib.hid (HZ9.out.put (lgA x y l))
    replace HP := Lib.hid (HP.out.below hb)
    replace HM := Lib.hid (HM.out.below hb)
    replace HB := Lib.hid (below_trans HB.out hb)
    clear hb hbz
    go_wp2_with (first | (with_reducible refine wpList_loadRw rfl 34 (.tmp 3) rfl w1.heap.size (lgA x y l) 34 rfl HU.out (d := .struct (Tryd.prog.fieldsOf 34)) rfl underILog (infoILog _ _ _) ?_) | (with_reducible refine wpList_storeRw rfl 34 (.tmp 3) (.tmp 15) rfl w1.heap.size #[.string ⟨#[]⟩, .string ⟨#[]⟩, .int .i64 0] (lgA x y l) 34 rfl rfl HZ9.out (infoILog _ _ _) rfl (lgA_oneR _ _ _) ?_) | fail)
    clear HZ9
    generalize ((w1.alloc (.cells #[.string ⟨#[]⟩, .string ⟨#[]⟩, .int .i64 0] 34)).setRow w1.heap.size (lgA x y l)) = w2 at HB HP HM HU ⊢
    refine (HK.out _ HP.out HM.out).mono ?_
    rintro e w3 ⟨rfl, hb⟩
    replace HP := Lib.hid (HP.out.below hb)
    replace HM := Lib.hid (HM.out.below hb)
    replace HU := Lib.hid (HU.out.step hb)
    replace HB := Lib.hid (below_trans HB.out hb)
    clear hb
    have hbz : Below w3.heap.size w3 (w3.alloc (.cells #[.string ⟨#[]⟩, .string ⟨#[]⟩, .int .i64 0] 34)) := (Below.refl _ _).alloc (Nat.le_refl _) _
    have hb : Below w3.heap.size w3 ((w3.alloc (.cells #[.string ⟨#[]⟩, .string ⟨#[]⟩, .int .i64 0] 34)).setRow w3.heap.size (lgA x y l)) := below_putR hbz (Nat.le_refl _) _
    have HZ9 := Lib.hid (Rw.new w3 #[.string ⟨#[]⟩, .string ⟨#[]⟩, .int .i64 0] 34 w3.heap.size rfl)
    have HV := Lib.hid (HZ9.out.put (lgA x y l))
    replace HP := Lib.hid (HP.out.below hb)
    replace HM := Lib.hid (HM.out.below hb)
    replace HU := Lib.hid (HU.out.step hb)
    replace HB := Lib.hid (below_trans HB.out hb)
    clear hb hbz
    go_wp2_with (first | (with_reducible refine wpList_loadRw rfl 34 (.tmp 3) rfl w1.heap.size (lgA x y l) 34 rfl HU.out (d := .struct (Tryd.prog.fieldsOf 34)) rfl underILog (infoILog _ _ _) ?_) | (with_reducible refine wpList_loadRw rfl 34 (.tmp 6) rfl w3.heap.size (lgA x y l) 34 rfl HV.out (d := .struct (Tryd.prog.fieldsOf 34)) rfl underILog (infoILog _ _ _) ?_) | (with_reducible refine wpList_storeRw rfl 34 (.tmp 6) (.tmp 21) rfl w3.heap.size #[.string ⟨#[]⟩, .string ⟨#[]⟩, .int .i64 0] (lgA x y l) 34 rfl rfl HZ9.out (infoILog _ _ _) rfl (lgA_oneR _ _ _) ?_) | fail)
    clear HZ9
    generalize ((w3.alloc (.cells #[.string ⟨#[]⟩, .string ⟨#[]⟩, .int .i64 0] 34)).setRow w3.heap.size (lgA x y l)) = w4 at HB HP HM HU HV ⊢
    refine (HE.out _).mono ?_
    rintro e w5 ⟨rfl, hb⟩
    replace HP := Lib.hid (HP.out.below hb)
    replace HM := Lib.hid (HM.out.below hb)
    replace HU := Lib.hid (HU.out.step hb)
    replace HV := Lib.hid (HV.out.step hb)
    replace HB := Lib.hid (below_trans HB.out hb)
    clear hb
    go_wp2_with (first | (with_reducible refine wpList_loadRw rfl 34 (.tmp 3) rfl w1.heap.size (lgA x y l) 34 rfl HU.out (d := .struct (Tryd.prog.fieldsOf 34)) rfl underILog (infoILog _ _ _) ?_) | (with_reducible refine wpList_loadRw rfl 34 (.tmp 6) rfl w3.heap.size (lgA x y l) 34 rfl HV.out (d := .struct (Tryd.prog.fieldsOf 34)) rfl underILog (infoILog _ _ _) ?_) | fail)
    go_ret
    exact ⟨rfl, HB.out⟩
end Go.Proofs.YtpjoljaamakagabDoor
