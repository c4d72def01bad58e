/- The law FnExactIsRoom: its walk over the two functions' contracts. -/
import Derived.Test.YtpjoljaamakagaaL12X
namespace Go.Proofs.Ytpjoljaamakagaa
open Go.RowKit Go.ChangeShapes Go.WideShapes
set_option linter.unusedVariables false
set_option linter.unusedSimpArgs false

set_option maxRecDepth 100000 in
set_option maxHeartbeats 4000000 in
theorem fnExactIsRoom_walk (p : Nat → Int) (n m c : Int) (W : World) (wp : ∀ i, i < 12 → (Lit.int .i64 (p i)).wf = true) (wn : (Lit.int .i64 n).wf = true) (wm : (Lit.int .i64 m).wf = true) (wc : (Lit.int .i64 c).wf = true) (hsh : W.ShapedOpen Try.prog) :
    Calls Try.prog 3 #[.agg (rmA p n m c)] W fun e w' => e = .returned (.bool true) ∧ Below W.heap.size W w' := by
  clear hsh wp wn wm wc
  have HT := Lib.hid (Rw.new W (rmA p n m c) 24 W.heap.size rfl)
  have HB := Lib.hid ((Below.refl W.heap.size W).alloc (Nat.le_refl _) (.cells (rmA p n m c) 24))
  have HC := Lib.hid (fun w => toRoom_any p n m c w)
  have HG := Lib.hid (fun w => specIsRoom_any p n m c w)
  have HK := Lib.hid (fun w => isRoom_impl p n m c w)
  generalize roomOK p n m c = b at HG HK
  go_enter Try.func3, Try.ntmps3
  simp only [rmA] at HT HB HC HG HK ⊢
  go_upto_region 1 with fail
  generalize W.alloc (.cells #[.int .i64 (p 0), .int .i64 (p 1), .int .i64 (p 2), .int .i64 (p 3), .int .i64 (p 4), .int .i64 (p 5), .int .i64 (p 6), .int .i64 (p 7), .int .i64 (p 8), .int .i64 (p 9), .int .i64 (p 10), .int .i64 (p 11), .int .i64 n, .int .i64 m, .int .i64 c] 24) = wa at HT HB ⊢
  have HT0 : Hid (Rw wa W.heap.size (rmA p n m c) 24) := HT
  clear HT
  have c0 := HT0.out.cell (i := 0) (v := .int .i64 (p 0)) rfl
  have c1 := HT0.out.cell (i := 1) (v := .int .i64 (p 1)) rfl
  have c2 := HT0.out.cell (i := 2) (v := .int .i64 (p 2)) rfl
  have c3 := HT0.out.cell (i := 3) (v := .int .i64 (p 3)) rfl
  have c4 := HT0.out.cell (i := 4) (v := .int .i64 (p 4)) rfl
  have c5 := HT0.out.cell (i := 5) (v := .int .i64 (p 5)) rfl
  have c6 := HT0.out.cell (i := 6) (v := .int .i64 (p 6)) rfl
  have c7 := HT0.out.cell (i := 7) (v := .int .i64 (p 7)) rfl
  have c8 := HT0.out.cell (i := 8) (v := .int .i64 (p 8)) rfl
  have c9 := HT0.out.cell (i := 9) (v := .int .i64 (p 9)) rfl
  have c10 := HT0.out.cell (i := 10) (v := .int .i64 (p 10)) rfl
  have c11 := HT0.out.cell (i := 11) (v := .int .i64 (p 11)) rfl
  have c12 := HT0.out.cell (i := 12) (v := .int .i64 n) rfl
  have c13 := HT0.out.cell (i := 13) (v := .int .i64 m) rfl
  have c14 := HT0.out.cell (i := 14) (v := .int .i64 c) rfl
  go_wp2_with fail
  refine (HC.out _).mono ?_
  rintro e w1 ⟨rfl, hb⟩
  replace HT0 := Lib.hid (HT0.out.step hb)
  replace HB := Lib.hid (below_trans HB.out hb)
  clear hb
  clear c0 c1 c2 c3 c4 c5 c6 c7 c8 c9 c10 c11 c12 c13 c14
  go_wp2_with fail
  refine (HG.out _).mono ?_
  rintro e w2 ⟨rfl, hb⟩
  replace HT0 := Lib.hid (HT0.out.step hb)
  replace HB := Lib.hid (below_trans HB.out hb)
  clear hb
  have c0 := HT0.out.cell (i := 0) (v := .int .i64 (p 0)) rfl
  have c1 := HT0.out.cell (i := 1) (v := .int .i64 (p 1)) rfl
  have c2 := HT0.out.cell (i := 2) (v := .int .i64 (p 2)) rfl
  have c3 := HT0.out.cell (i := 3) (v := .int .i64 (p 3)) rfl
  have c4 := HT0.out.cell (i := 4) (v := .int .i64 (p 4)) rfl
  have c5 := HT0.out.cell (i := 5) (v := .int .i64 (p 5)) rfl
  have c6 := HT0.out.cell (i := 6) (v := .int .i64 (p 6)) rfl
  have c7 := HT0.out.cell (i := 7) (v := .int .i64 (p 7)) rfl
  have c8 := HT0.out.cell (i := 8) (v := .int .i64 (p 8)) rfl
  have c9 := HT0.out.cell (i := 9) (v := .int .i64 (p 9)) rfl
  have c10 := HT0.out.cell (i := 10) (v := .int .i64 (p 10)) rfl
  have c11 := HT0.out.cell (i := 11) (v := .int .i64 (p 11)) rfl
  have c12 := HT0.out.cell (i := 12) (v := .int .i64 n) rfl
  have c13 := HT0.out.cell (i := 13) (v := .int .i64 m) rfl
  have c14 := HT0.out.cell (i := 14) (v := .int .i64 c) rfl
  go_wp2_with fail
  refine (HC.out _).mono ?_
  rintro e w3 ⟨rfl, hb⟩
  replace HT0 := Lib.hid (HT0.out.step hb)
  replace HB := Lib.hid (below_trans HB.out hb)
  clear hb
  clear c0 c1 c2 c3 c4 c5 c6 c7 c8 c9 c10 c11 c12 c13 c14
  go_wp2_with fail
  refine (HK.out _).mono ?_
  rintro e w4 ⟨rfl, hb⟩
  replace HT0 := Lib.hid (HT0.out.step hb)
  replace HB := Lib.hid (below_trans HB.out hb)
  clear hb
  cases b
  all_goals
    go_wp2
    go_ret
    exact ⟨rfl, HB.out⟩
end Go.Proofs.Ytpjoljaamakagaa
