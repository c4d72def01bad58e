/- The law FnExactNewConsole: its walk. -/
import Derived.Test.YtpjoljaamakagaaL12C
namespace Go.Proofs.Ytpjoljaamakagaa
open Go.RowKit Go.ChangeShapes Go.WideShapes
set_option linter.unusedVariables false
set_option linter.unusedSimpArgs false


theorem underTL : Try.prog.underlying 24 = some (.struct (Try.prog.fieldsOf 24)) := by kernel_rfl
theorem infoTL0 : (Try.prog.info? 24).map (·.size) = some 15 := by kernel_rfl
theorem infoTL (p : Nat → Int) (n m c : Int) : (Try.prog.info? 24).map (·.size) = some (rmA p n m c).size := infoTL0
theorem infoCsr (p : Nat → Int) (n m c : Int) (d q : ByteArray) (l : Int) : (Try.prog.info? 46).map (·.size) = some (csA p n m c d q l).size := infoCs
theorem szCs (p : Nat → Int) (n m c : Int) (d q : ByteArray) (l : Int) : (#[.int .i64 0, .int .i64 0, .int .i64 0, .int .i64 0, .int .i64 0, .int .i64 0, .int .i64 0, .int .i64 0, .int .i64 0, .int .i64 0, .int .i64 0, .int .i64 0, .int .i64 0, .int .i64 0, .int .i64 0, .string ⟨#[]⟩, .string ⟨#[]⟩, .int .i64 0] : Array Value).size = (csA p n m c d q l).size := rfl
set_option maxRecDepth 100000 in
set_option maxHeartbeats 16000000 in
theorem fnExactNewConsole_walk (p : Nat → Int) (n m c : Int) (W : World) (wp : ∀ i, i < 12 → (Lit.int .i64 (p i)).wf = true) (wn : (Lit.int .i64 n).wf = true) (wm : (Lit.int .i64 m).wf = true) (wc : (Lit.int .i64 c).wf = true) (hsh : W.ShapedOpen Try.prog) :
    Calls Try.prog 6 #[.agg (rmA p n m c)] W fun e w' => e = .returned (.bool true) ∧ Below W.heap.size W w' := by
  clear hsh wp wn wm wc
  obtain ⟨p', n', m', c', b, hi, hs⟩ := newConsole_both p n m c
  have HCI := Lib.hid hi
  have HCS := Lib.hid hs
  have HC := Lib.hid (fun w => toRoom_any p n m c w)
  have HE := Lib.hid (fun w => eqConsole_same p' n' m' c' ⟨#[]⟩ ⟨#[]⟩ 0 w)
  clear hi hs
  have HX := Lib.hid (Rw.new W (rmA p n m c) 24 (W.heap.size) rfl)
  have HB := Lib.hid ((Below.refl W.heap.size W).alloc (Nat.le_refl _) (.cells (rmA p n m c) 24))
  go_enter Try.func6, Try.ntmps6
  go_upto_region 1 with fail
  generalize W.alloc (.cells (rmA p n m c) 24) = w0 at HB HX ⊢
  go_wp2_with (first | (with_reducible refine wpList_loadRw rfl 24 (.tmp 1) rfl W.heap.size (rmA p n m c) 24 rfl HX.out (d := .struct (Try.prog.fieldsOf 24)) rfl underTL (infoTL _ _ _ _) ?_) | fail)
  refine (HC.out _).mono ?_
  rintro e w1 ⟨rfl, hb⟩
  replace HX := Lib.hid (HX.out.step hb)
  replace HB := Lib.hid (below_trans HB.out hb)
  clear hb
  go_wp2_with (first | (with_reducible refine wpList_loadRw rfl 24 (.tmp 1) rfl W.heap.size (rmA p n m c) 24 rfl HX.out (d := .struct (Try.prog.fieldsOf 24)) rfl underTL (infoTL _ _ _ _) ?_) | fail)
  refine (HCS.out _).mono ?_
  rintro e w2 ⟨rfl, hb⟩
  replace HX := Lib.hid (HX.out.step hb)
  replace HB := Lib.hid (below_trans HB.out hb)
  clear hb
  have hbz : Below w2.heap.size w2 (w2.alloc (.cells #[.int .i64 0, .int .i64 0, .int .i64 0, .int .i64 0, .int .i64 0, .int .i64 0, .int .i64 0, .int .i64 0, .int .i64 0, .int .i64 0, .int .i64 0, .int .i64 0, .int .i64 0, .int .i64 0, .int .i64 0, .string ⟨#[]⟩, .string ⟨#[]⟩, .int .i64 0] 46)) := (Below.refl _ _).alloc (Nat.le_refl _) _
  have hb : Below w2.heap.size w2 ((w2.alloc (.cells #[.int .i64 0, .int .i64 0, .int .i64 0, .int .i64 0, .int .i64 0, .int .i64 0, .int .i64 0, .int .i64 0, .int .i64 0, .int .i64 0, .int .i64 0, .int .i64 0, .int .i64 0, .int .i64 0, .int .i64 0, .string ⟨#[]⟩, .string ⟨#[]⟩, .int .i64 0] 46)).setRow w2.heap.size (csA p' n' m' c' ⟨#[]⟩ ⟨#[]⟩ 0)) := below_putR hbz (Nat.le_refl _) _
  have HZ9 := Lib.hid (Rw.new w2 #[.int .i64 0, .int .i64 0, .int .i64 0, .int .i64 0, .int .i64 0, .int .i64 0, .int .i64 0, .int .i64 0, .int .i64 0, .int .i64 0, .int .i64 0, .int .i64 0, .int .i64 0, .int .i64 0, .int .i64 0, .string ⟨#[]⟩, .string ⟨#[]⟩, .int .i64 0] 46 w2.heap.size rfl)
  have W0 := Lib.hid (HZ9.out.put (csA p' n' m' c' ⟨#[]⟩ ⟨#[]⟩ 0))
  replace HX := Lib.hid (HX.out.step hb)
  replace HB := Lib.hid (below_trans HB.out hb)
  clear hb hbz
  go_wp2_with (first | (with_reducible refine wpList_loadRw rfl 24 (.tmp 1) rfl W.heap.size (rmA p n m c) 24 rfl HX.out (d := .struct (Try.prog.fieldsOf 24)) rfl underTL (infoTL _ _ _ _) ?_) | (with_reducible refine wpList_loadRw rfl 46 (.tmp 3) rfl w2.heap.size (csA p' n' m' c' ⟨#[]⟩ ⟨#[]⟩ 0) 46 rfl W0.out (d := .struct (Try.prog.fieldsOf 46)) rfl underCsF (infoCsr _ _ _ _ _ _ _) ?_) | (with_reducible refine wpList_storeRw rfl 46 (.tmp 3) (.tmp 11) rfl w2.heap.size #[.int .i64 0, .int .i64 0, .int .i64 0, .int .i64 0, .int .i64 0, .int .i64 0, .int .i64 0, .int .i64 0, .int .i64 0, .int .i64 0, .int .i64 0, .int .i64 0, .int .i64 0, .int .i64 0, .int .i64 0, .string ⟨#[]⟩, .string ⟨#[]⟩, .int .i64 0] (csA p' n' m' c' ⟨#[]⟩ ⟨#[]⟩ 0) 46 rfl rfl HZ9.out (infoCsr _ _ _ _ _ _ _) (szCs _ _ _ _ _ _ _) (cs_one _ _ _ _ _ _ _) ?_) | fail)
  clear HZ9
  generalize ((w2.alloc (.cells #[.int .i64 0, .int .i64 0, .int .i64 0, .int .i64 0, .int .i64 0, .int .i64 0, .int .i64 0, .int .i64 0, .int .i64 0, .int .i64 0, .int .i64 0, .int .i64 0, .int .i64 0, .int .i64 0, .int .i64 0, .string ⟨#[]⟩, .string ⟨#[]⟩, .int .i64 0] 46)).setRow w2.heap.size (csA p' n' m' c' ⟨#[]⟩ ⟨#[]⟩ 0)) = w3 at HB HX W0 ⊢
  refine (HC.out _).mono ?_
  rintro e w4 ⟨rfl, hb⟩
  replace HX := Lib.hid (HX.out.step hb)
  replace W0 := Lib.hid (W0.out.step hb)
  replace HB := Lib.hid (below_trans HB.out hb)
  clear hb
  go_wp2_with (first | (with_reducible refine wpList_loadRw rfl 24 (.tmp 1) rfl W.heap.size (rmA p n m c) 24 rfl HX.out (d := .struct (Try.prog.fieldsOf 24)) rfl underTL (infoTL _ _ _ _) ?_) | (with_reducible refine wpList_loadRw rfl 46 (.tmp 3) rfl w2.heap.size (csA p' n' m' c' ⟨#[]⟩ ⟨#[]⟩ 0) 46 rfl W0.out (d := .struct (Try.prog.fieldsOf 46)) rfl underCsF (infoCsr _ _ _ _ _ _ _) ?_) | fail)
  refine (HCI.out _).mono ?_
  rintro e w5 ⟨rfl, hb⟩
  replace HX := Lib.hid (HX.out.step hb)
  replace W0 := Lib.hid (W0.out.step hb)
  replace HB := Lib.hid (below_trans HB.out hb)
  clear hb
  have hbz : Below w5.heap.size w5 (w5.alloc (.cells #[.int .i64 0, .int .i64 0, .int .i64 0, .int .i64 0, .int .i64 0, .int .i64 0, .int .i64 0, .int .i64 0, .int .i64 0, .int .i64 0, .int .i64 0, .int .i64 0, .int .i64 0, .int .i64 0, .int .i64 0, .string ⟨#[]⟩, .string ⟨#[]⟩, .int .i64 0] 46)) := (Below.refl _ _).alloc (Nat.le_refl _) _
  have hb : Below w5.heap.size w5 ((w5.alloc (.cells #[.int .i64 0, .int .i64 0, .int .i64 0, .int .i64 0, .int .i64 0, .int .i64 0, .int .i64 0, .int .i64 0, .int .i64 0, .int .i64 0, .int .i64 0, .int .i64 0, .int .i64 0, .int .i64 0, .int .i64 0, .string ⟨#[]⟩, .string ⟨#[]⟩, .int .i64 0] 46)).setRow w5.heap.size (csA p' n' m' c' ⟨#[]⟩ ⟨#[]⟩ 0)) := below_putR hbz (Nat.le_refl _) _
  have HZ9 := Lib.hid (Rw.new w5 #[.int .i64 0, .int .i64 0, .int .i64 0, .int .i64 0, .int .i64 0, .int .i64 0, .int .i64 0, .int .i64 0, .int .i64 0, .int .i64 0, .int .i64 0, .int .i64 0, .int .i64 0, .int .i64 0, .int .i64 0, .string ⟨#[]⟩, .string ⟨#[]⟩, .int .i64 0] 46 w5.heap.size rfl)
  have G0 := Lib.hid (HZ9.out.put (csA p' n' m' c' ⟨#[]⟩ ⟨#[]⟩ 0))
  replace HX := Lib.hid (HX.out.step hb)
  replace W0 := Lib.hid (W0.out.step hb)
  replace HB := Lib.hid (below_trans HB.out hb)
  clear hb hbz
  go_wp2_with (first | (with_reducible refine wpList_loadRw rfl 24 (.tmp 1) rfl W.heap.size (rmA p n m c) 24 rfl HX.out (d := .struct (Try.prog.fieldsOf 24)) rfl underTL (infoTL _ _ _ _) ?_) | (with_reducible refine wpList_loadRw rfl 46 (.tmp 3) rfl w2.heap.size (csA p' n' m' c' ⟨#[]⟩ ⟨#[]⟩ 0) 46 rfl W0.out (d := .struct (Try.prog.fieldsOf 46)) rfl underCsF (infoCsr _ _ _ _ _ _ _) ?_) | (with_reducible refine wpList_loadRw rfl 46 (.tmp 5) rfl w5.heap.size (csA p' n' m' c' ⟨#[]⟩ ⟨#[]⟩ 0) 46 rfl G0.out (d := .struct (Try.prog.fieldsOf 46)) rfl underCsF (infoCsr _ _ _ _ _ _ _) ?_) | (with_reducible refine wpList_storeRw rfl 46 (.tmp 5) (.tmp 17) rfl w5.heap.size #[.int .i64 0, .int .i64 0, .int .i64 0, .int .i64 0, .int .i64 0, .int .i64 0, .int .i64 0, .int .i64 0, .int .i64 0, .int .i64 0, .int .i64 0, .int .i64 0, .int .i64 0, .int .i64 0, .int .i64 0, .string ⟨#[]⟩, .string ⟨#[]⟩, .int .i64 0] (csA p' n' m' c' ⟨#[]⟩ ⟨#[]⟩ 0) 46 rfl rfl HZ9.out (infoCsr _ _ _ _ _ _ _) (szCs _ _ _ _ _ _ _) (cs_one _ _ _ _ _ _ _) ?_) | fail)
  clear HZ9
  generalize ((w5.alloc (.cells #[.int .i64 0, .int .i64 0, .int .i64 0, .int .i64 0, .int .i64 0, .int .i64 0, .int .i64 0, .int .i64 0, .int .i64 0, .int .i64 0, .int .i64 0, .int .i64 0, .int .i64 0, .int .i64 0, .int .i64 0, .string ⟨#[]⟩, .string ⟨#[]⟩, .int .i64 0] 46)).setRow w5.heap.size (csA p' n' m' c' ⟨#[]⟩ ⟨#[]⟩ 0)) = w6 at HB HX W0 G0 ⊢
  refine (HE.out _).mono ?_
  rintro e w7 ⟨rfl, hb⟩
  replace HX := Lib.hid (HX.out.step hb)
  replace W0 := Lib.hid (W0.out.step hb)
  replace G0 := Lib.hid (G0.out.step hb)
  replace HB := Lib.hid (below_trans HB.out hb)
  clear hb
  go_wp2_with (first | (with_reducible refine wpList_loadRw rfl 24 (.tmp 1) rfl W.heap.size (rmA p n m c) 24 rfl HX.out (d := .struct (Try.prog.fieldsOf 24)) rfl underTL (infoTL _ _ _ _) ?_) | (with_reducible refine wpList_loadRw rfl 46 (.tmp 3) rfl w2.heap.size (csA p' n' m' c' ⟨#[]⟩ ⟨#[]⟩ 0) 46 rfl W0.out (d := .struct (Try.prog.fieldsOf 46)) rfl underCsF (infoCsr _ _ _ _ _ _ _) ?_) | (with_reducible refine wpList_loadRw rfl 46 (.tmp 5) rfl w5.heap.size (csA p' n' m' c' ⟨#[]⟩ ⟨#[]⟩ 0) 46 rfl G0.out (d := .struct (Try.prog.fieldsOf 46)) rfl underCsF (infoCsr _ _ _ _ _ _ _) ?_) | fail)
  go_ret
  exact ⟨rfl, HB.out⟩
end Go.Proofs.Ytpjoljaamakagaa
