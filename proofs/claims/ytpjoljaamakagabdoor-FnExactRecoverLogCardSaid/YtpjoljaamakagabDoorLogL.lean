/- Logs of the laws: sizes, copies; those that come in. -/
import Derived.Test.YtpjoljaamakagabDoorL12L
import Derived.Deep.Strs
namespace Go.Proofs.YtpjoljaamakagabDoor
open Go.RowKit Go.ChangeShapes Go.WideShapes Go.ChangeAt
set_option linter.unusedVariables false
set_option linter.unusedSimpArgs false

theorem underLLog : Tryd.prog.underlying 31 = some (.struct (Tryd.prog.fieldsOf 31)) := by kernel_rfl
theorem infoLLog (d p : ByteArray) (n : Int) : (Tryd.prog.info? 31).map (·.size) = some (lgA d p n).size := by kernel_rfl
theorem underILog : Tryd.prog.underlying 34 = some (.struct (Tryd.prog.fieldsOf 34)) := by kernel_rfl
theorem infoILog (d p : ByteArray) (n : Int) : (Tryd.prog.info? 34).map (·.size) = some (lgA d p n).size := by kernel_rfl
set_option maxRecDepth 100000 in
set_option maxHeartbeats 4000000 in
theorem toLog_any (d p : ByteArray) (n : Int) (W : World) :
    Calls Tryd.prog 18 #[.agg (lgA d p n)] W fun e w' => e = .returned (.agg (lgA d p n)) ∧ Below W.heap.size W w' := by
  unfold lgA
  go_enter Tryd.func18, Tryd.ntmps18
  go_wp2
  refine bodyPost_ret (v := .agg #[.string d, .string p, .int .i64 n]) (by simp [results, go_sem]) rfl ?_
  exact ⟨rfl, (((Below.refl _ _).alloc (Nat.le_refl _) _).alloc (by simp) _).alloc (by simp; omega) _⟩
set_option maxRecDepth 100000 in
set_option maxHeartbeats 4000000 in
theorem szLog_any (d p : ByteArray) (n : Int) (W : World) (ha : d.size ≤ maxLen) (hb : p.size ≤ maxLen) :
    Calls Tryd.prog 16 #[.agg (lgA d p n), .int .i64 1048576] W fun e w' => e = .returned (.int .i64 (szR d p 1048576)) ∧ Below W.heap.size W w' := by
  unfold lgA
  unfold maxLen at ha hb
  unfold szR
  by_cases h1 : d.size ≤ 1048576
  · by_cases h2 : d.size + p.size ≤ 1048576
    · rw [if_pos h2, show ((1048576 - (d.size + p.size) : Nat) : Int) = 1048576 - (d.size : Int) - (p.size : Int) by omega]
      go_enter Tryd.func16, Tryd.ntmps16
      go_wp2
      go_ret
      exact ⟨rfl, (Below.refl _ _).alloc (Nat.le_refl _) _⟩
    · rw [if_neg h2]
      go_enter Tryd.func16, Tryd.ntmps16
      go_wp2
      go_ret
      exact ⟨rfl, (Below.refl _ _).alloc (Nat.le_refl _) _⟩
  · rw [if_neg (by omega)]
    go_enter Tryd.func16, Tryd.ntmps16
    go_wp2
    go_ret
    exact ⟨rfl, (Below.refl _ _).alloc (Nat.le_refl _) _⟩
set_option maxRecDepth 100000 in
theorem log_of_trod {H : Type} {enc : TypeId × Value → H} {W : World} {base : Nat} {v : Value} {d : DataW H} {ps : List MemPlace}
    (hv : Value.okWide Tryd.prog W .any base 31 v) (h : DataW.Trod enc Tryd.prog W 0 (fun _ => true) true 31 v d ps) :
    ∃ (a b : ByteArray) (n : Int), v = .agg (lgA a b n) ∧ a.size ≤ maxLen ∧ b.size ≤ maxLen ∧ (Lit.int .i64 n).wf = true := by
  obtain ⟨cs, rfl, hsz⟩ := okWide_struct Tryd.underlying31 hv
  rw [show Tryd.prog.cellsOf 31 = 3 by kernel_rfl] at hsz
  obtain ⟨l⟩ := cs
  match l, hsz with
  | [c0, c1, c2], _ =>
  obtain ⟨fuel, hf⟩ := h
  obtain ⟨y0, y1, y2, n, hx, _, hy0, hy1, hy2⟩ := Go.Deep.trod_struct3 Tryd.underlying31 hf
  have e2 : Tryd.prog.cellsOf 9 = 1 := by kernel_rfl
  have e3 : Tryd.prog.cellsOf 3 = 1 := by kernel_rfl
  simp [Value.cells, e2, e3] at hy0 hy1 hy2
  obtain ⟨a, ea, rfl, wa⟩ := DataW.trod_string Tryd.underlying9 hy0
  obtain ⟨b, eb, rfl, wb⟩ := DataW.trod_string Tryd.underlying9 hy1
  obtain ⟨z, ez, rfl, wz⟩ := DataW.trod_int Tryd.underlying3 hy2
  simp at ea eb ez
  subst ea eb ez
  exact ⟨a, b, z, rfl, wa, wb, wz⟩
set_option maxRecDepth 100000 in
set_option maxHeartbeats 4000000 in
theorem isValidLog_spec (d p : ByteArray) (n : Int) (W : World) (hs : d.size + p.size ≤ 1048576) :
    Calls Tryd.prog 17 #[.agg (lgA d p n)] W fun e w' => e = .returned (.bool (logOK d p n)) ∧ Below W.heap.size W w' := by
  have HC := Lib.hid (fun w => l12Valid_any d p n w hs)
  have HX := Lib.hid (Rw.new W (lgA d p n) 34 (W.heap.size) rfl)
  have HB := Lib.hid ((Below.refl W.heap.size W).alloc (Nat.le_refl _) (.cells (lgA d p n) 34))
  generalize logOK d p n = B at HC ⊢
  unfold lgA at HC HX HB ⊢
  go_enter Tryd.func17, Tryd.ntmps17
  go_upto_region 1 with fail
  generalize W.alloc (.cells #[.string d, .string p, .int .i64 n] 34) = w0 at HB HX ⊢
  have x0 := HX.out.cell (i := 0) (v := .string d) rfl
  have x1 := HX.out.cell (i := 1) (v := .string p) rfl
  have x2 := HX.out.cell (i := 2) (v := .int .i64 n) rfl
  go_wp2_with fail
  refine (HC.out _).mono ?_
  rintro e w1 ⟨rfl, hb⟩
  replace HB := Lib.hid (below_trans HB.out hb)
  clear x0 x1 x2 HC hb
  go_wp2
  go_ret
  exact ⟨rfl, HB.out⟩
end Go.Proofs.YtpjoljaamakagabDoor
