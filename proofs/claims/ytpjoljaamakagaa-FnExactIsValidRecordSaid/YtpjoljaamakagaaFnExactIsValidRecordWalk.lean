/- The law FnExactIsValidRecord: its walk. -/
import Derived.Test.YtpjoljaamakagaaRecL
import Derived.Test.YtpjoljaamakagaaMaxA
import Derived.Test.YtpjoljaamakagaaL12S
namespace Go.Proofs.Ytpjoljaamakagaa
open Go.RowKit Go.ChangeShapes Go.WideShapes
set_option linter.unusedVariables false
set_option linter.unusedSimpArgs false


set_option maxRecDepth 100000 in
set_option maxHeartbeats 4000000 in
theorem specIsValidRecord_any {a b : ByteArray} {r : Bool} (h : ∀ w, Calls Try.prog 76 #[.agg (rcA a b)] w fun e w' => e = .returned (.bool r) ∧ Below w.heap.size w w') (W : World) :
    Calls Try.prog 29 #[.agg (rcA a b)] W fun e w' => e = .returned (.bool r) ∧ Below W.heap.size W w' := by
  have HB := Lib.hid ((Below.refl W.heap.size W).alloc (Nat.le_refl _) (.cells (rcA a b) 54))
  have HG := Lib.hid h
  clear h
  unfold rcA at *
  go_enter Try.func29, Try.ntmps29
  go_wp2_with fail
  refine (HG.out _).mono ?_
  rintro e w1 ⟨rfl, hb⟩
  have HB1 := Lib.hid (below_trans HB.out hb)
  clear hb
  go_wp2
  go_ret
  exact ⟨rfl, HB1.out⟩
set_option maxRecDepth 100000 in
set_option maxHeartbeats 8000000 in
theorem fnExactIsValidRecord_walk (a b : ByteArray) (W : World) (wa : a.size ≤ maxLen) (wb : b.size ≤ maxLen) (hsh : W.ShapedOpen Try.prog) :
    Calls Try.prog 7 #[.agg (rcA a b)] W fun e w' => e = .returned (.bool true) ∧ Below W.heap.size W w' := by
  have HM := Lib.hid (maxQ_ofA hsh)
  clear hsh
  have HZ := Lib.hid (fun w => szLogRecord_any a b w wa wb)
  have HT := Lib.hid (fun w => toLogRecord_any a b w)
  clear wa wb
  unfold szR at HZ
  by_cases h : a.size + b.size ≤ 1048576
  · rw [if_pos h] at HZ
    have hlf : (0 : Int) ≤ ((1048576 - (a.size + b.size) : Nat) : Int) := by omega
    generalize ((1048576 - (a.size + b.size) : Nat) : Int) = lf at HZ hlf
    have HG := Lib.hid (fun w => l12Record_any a b w (by omega) (by omega))
    have HK := Lib.hid (fun w hm => isValidRecord_impl a b w hm (by omega) (by omega))
    rw [show (#[.string a, .string b] : Array Value) = rcA a b from rfl] at HG HK
    generalize recOK (a, b) = r at HG HK
    have HX := Lib.hid (Rw.new W (rcA a b) 51 (W.heap.size) rfl)
    have HB := Lib.hid ((Below.refl W.heap.size W).alloc (Nat.le_refl _) (.cells (rcA a b) 51))
    replace HM := Lib.hid (HM.out.step HB.out)
    go_enter Try.func7, Try.ntmps7
    go_upto_region 1 with fail
    generalize W.alloc (.cells (rcA a b) 51) = w0 at HB HM HX ⊢
    go_wp2_with (first | (with_reducible refine wpList_loadRw rfl 51 (.tmp 1) rfl W.heap.size (rcA a b) 51 rfl HX.out (d := .struct (Try.prog.fieldsOf 51)) rfl underLRec (infoLRec _ _) ?_) | fail)
    refine (HZ.out _).mono ?_
    rintro e w1 ⟨rfl, hb⟩
    replace HM := Lib.hid (HM.out.step hb)
    replace HX := Lib.hid (HX.out.step hb)
    replace HB := Lib.hid (below_trans HB.out hb)
    clear hb
    go_wp2_with (first | (with_reducible refine wpList_loadRw rfl 51 (.tmp 1) rfl W.heap.size (rcA a b) 51 rfl HX.out (d := .struct (Try.prog.fieldsOf 51)) rfl underLRec (infoLRec _ _) ?_) | fail)
    refine (HT.out _).mono ?_
    rintro e w2 ⟨rfl, hb⟩
    replace HM := Lib.hid (HM.out.step hb)
    replace HX := Lib.hid (HX.out.step hb)
    replace HB := Lib.hid (below_trans HB.out hb)
    clear hb
    go_wp2_with (first | (with_reducible refine wpList_loadRw rfl 51 (.tmp 1) rfl W.heap.size (rcA a b) 51 rfl HX.out (d := .struct (Try.prog.fieldsOf 51)) rfl underLRec (infoLRec _ _) ?_) | fail)
    refine (specIsValidRecord_any HG.out _).mono ?_
    rintro e w3 ⟨rfl, hb⟩
    replace HM := Lib.hid (HM.out.step hb)
    replace HX := Lib.hid (HX.out.step hb)
    replace HB := Lib.hid (below_trans HB.out hb)
    clear hb
    go_wp2_with (first | (with_reducible refine wpList_loadRw rfl 51 (.tmp 1) rfl W.heap.size (rcA a b) 51 rfl HX.out (d := .struct (Try.prog.fieldsOf 51)) rfl underLRec (infoLRec _ _) ?_) | fail)
    refine (HT.out _).mono ?_
    rintro e w4 ⟨rfl, hb⟩
    replace HM := Lib.hid (HM.out.step hb)
    replace HX := Lib.hid (HX.out.step hb)
    replace HB := Lib.hid (below_trans HB.out hb)
    clear hb
    go_wp2_with (first | (with_reducible refine wpList_loadRw rfl 51 (.tmp 1) rfl W.heap.size (rcA a b) 51 rfl HX.out (d := .struct (Try.prog.fieldsOf 51)) rfl underLRec (infoLRec _ _) ?_) | fail)
    refine (HK.out _ HM.out).mono ?_
    rintro e w5 ⟨rfl, hb⟩
    replace HM := Lib.hid (HM.out.step hb)
    replace HX := Lib.hid (HX.out.step hb)
    replace HB := Lib.hid (below_trans HB.out hb)
    clear hb
    cases r
    all_goals
      go_wp2_with (first | (with_reducible refine wpList_loadRw rfl 51 (.tmp 1) rfl W.heap.size (rcA a b) 51 rfl HX.out (d := .struct (Try.prog.fieldsOf 51)) rfl underLRec (infoLRec _ _) ?_) | fail)
      go_ret
      exact ⟨rfl, HB.out⟩
  · rw [if_neg h] at HZ
    have HX := Lib.hid (Rw.new W (rcA a b) 51 (W.heap.size) rfl)
    have HB := Lib.hid ((Below.refl W.heap.size W).alloc (Nat.le_refl _) (.cells (rcA a b) 51))
    replace HM := Lib.hid (HM.out.step HB.out)
    go_enter Try.func7, Try.ntmps7
    go_upto_region 1 with fail
    generalize W.alloc (.cells (rcA a b) 51) = w0 at HB HM HX ⊢
    go_wp2_with (first | (with_reducible refine wpList_loadRw rfl 51 (.tmp 1) rfl W.heap.size (rcA a b) 51 rfl HX.out (d := .struct (Try.prog.fieldsOf 51)) rfl underLRec (infoLRec _ _) ?_) | fail)
    refine (HZ.out _).mono ?_
    rintro e w1 ⟨rfl, hb⟩
    replace HM := Lib.hid (HM.out.step hb)
    replace HX := Lib.hid (HX.out.step hb)
    replace HB := Lib.hid (below_trans HB.out hb)
    clear hb
    go_wp2_with (first | (with_reducible refine wpList_loadRw rfl 51 (.tmp 1) rfl W.heap.size (rcA a b) 51 rfl HX.out (d := .struct (Try.prog.fieldsOf 51)) rfl underLRec (infoLRec _ _) ?_) | fail)
    go_ret
    exact ⟨rfl, HB.out⟩
end Go.Proofs.Ytpjoljaamakagaa
