/- Consoles: their cells, copies, comparisons; new ones. -/
import Derived.Test.YtpjoljaamakagaaL12Y
namespace Go.Proofs.Ytpjoljaamakagaa
open Go.RowKit Go.ChangeShapes Go.WideShapes
set_option linter.unusedVariables false
set_option linter.unusedSimpArgs false


/-- A console. -/
def csA (p : Nat → Int) (n m c : Int) (d q : ByteArray) (l : Int) : Array Value := #[.int .i64 (p 0), .int .i64 (p 1), .int .i64 (p 2), .int .i64 (p 3), .int .i64 (p 4), .int .i64 (p 5), .int .i64 (p 6), .int .i64 (p 7), .int .i64 (p 8), .int .i64 (p 9), .int .i64 (p 10), .int .i64 (p 11), .int .i64 n, .int .i64 m, .int .i64 c, .string d, .string q, .int .i64 l]
theorem infoCs : (Try.prog.info? 46).map (·.size) = some 18 := by kernel_rfl
theorem cs_one (p : Nat → Int) (n m c : Int) (d q : ByteArray) (l : Int) : (csA p n m c d q l).all (·.oneCell') = true := by simp [csA, Value.oneCell']
theorem underCsF : Try.prog.underlying 46 = some (.struct (Try.prog.fieldsOf 46)) := by kernel_rfl
theorem results_cell_tmp {fn : Func} {p q : Tmp} {ty : TypeId} (h : fn.results = #[.cell p ty, .tmp q]) (tmps : Array Value) (w : World) (g : Nat) (t : TypeId) (cs : Array Value) (fr : Nat × Nat) (d : TypeDesc) (v : Value)
    (hp : tmps.getD p undef = .pointer (some ⟨g, 0, none⟩)) (hq : tmps.getD q undef = v) (hg : w.heap[g]? = some (.cells cs t fr))
    (hu : Try.prog.underlying ty = some d) (hd : d.isRow = true) (hi : (Try.prog.info? ty).map (·.size) = some cs.size) :
    (results fn tmps).run Try.prog w = .ok (.tuple #[.agg cs, v]) w := by
  have hp' : tmps[p]?.getD undef = .pointer (some ⟨g, 0, none⟩) := by simpa using hp
  have hq' : tmps[q]?.getD undef = v := by simpa using hq
  have hl := run_loadVar_row (P := Try.prog) w g t ty cs fr d hg hu (by cases d <;> first | rfl | (cases hd)) hi
  simp [results, h, hp', hq', asAddr, hl]
set_option maxHeartbeats 4000000 in
/-- Eighteen cells stored. -/
theorem stored18 {w : World} {b : Nat} {p0 : Nat → Int} {n0 m0 c0 : Int} {d0 q0 : ByteArray} {l0 : Int} {t : TypeId} (h : Rw w b (csA p0 n0 m0 c0 d0 q0 l0) t) (p : Nat → Int) (n m c : Int) (d q : ByteArray) (l : Int) : Rw ((((((((((((((((((w.setCell ⟨b, 0, none⟩ (.int .i64 (p 0))).setCell ⟨b, 1, none⟩ (.int .i64 (p 1))).setCell ⟨b, 2, none⟩ (.int .i64 (p 2))).setCell ⟨b, 3, none⟩ (.int .i64 (p 3))).setCell ⟨b, 4, none⟩ (.int .i64 (p 4))).setCell ⟨b, 5, none⟩ (.int .i64 (p 5))).setCell ⟨b, 6, none⟩ (.int .i64 (p 6))).setCell ⟨b, 7, none⟩ (.int .i64 (p 7))).setCell ⟨b, 8, none⟩ (.int .i64 (p 8))).setCell ⟨b, 9, none⟩ (.int .i64 (p 9))).setCell ⟨b, 10, none⟩ (.int .i64 (p 10))).setCell ⟨b, 11, none⟩ (.int .i64 (p 11))).setCell ⟨b, 12, none⟩ (.int .i64 n)).setCell ⟨b, 13, none⟩ (.int .i64 m)).setCell ⟨b, 14, none⟩ (.int .i64 c)).setCell ⟨b, 15, none⟩ (.string d)).setCell ⟨b, 16, none⟩ (.string q)).setCell ⟨b, 17, none⟩ (.int .i64 l)) b (csA p n m c d q l) t ∧ Within b (b + 1) w ((((((((((((((((((w.setCell ⟨b, 0, none⟩ (.int .i64 (p 0))).setCell ⟨b, 1, none⟩ (.int .i64 (p 1))).setCell ⟨b, 2, none⟩ (.int .i64 (p 2))).setCell ⟨b, 3, none⟩ (.int .i64 (p 3))).setCell ⟨b, 4, none⟩ (.int .i64 (p 4))).setCell ⟨b, 5, none⟩ (.int .i64 (p 5))).setCell ⟨b, 6, none⟩ (.int .i64 (p 6))).setCell ⟨b, 7, none⟩ (.int .i64 (p 7))).setCell ⟨b, 8, none⟩ (.int .i64 (p 8))).setCell ⟨b, 9, none⟩ (.int .i64 (p 9))).setCell ⟨b, 10, none⟩ (.int .i64 (p 10))).setCell ⟨b, 11, none⟩ (.int .i64 (p 11))).setCell ⟨b, 12, none⟩ (.int .i64 n)).setCell ⟨b, 13, none⟩ (.int .i64 m)).setCell ⟨b, 14, none⟩ (.int .i64 c)).setCell ⟨b, 15, none⟩ (.string d)).setCell ⟨b, 16, none⟩ (.string q)).setCell ⟨b, 17, none⟩ (.int .i64 l)) :=
  ⟨⟨((((((((((((((((((h.set (k := 0) (.int .i64 (p 0))).set (k := 1) (.int .i64 (p 1))).set (k := 2) (.int .i64 (p 2))).set (k := 3) (.int .i64 (p 3))).set (k := 4) (.int .i64 (p 4))).set (k := 5) (.int .i64 (p 5))).set (k := 6) (.int .i64 (p 6))).set (k := 7) (.int .i64 (p 7))).set (k := 8) (.int .i64 (p 8))).set (k := 9) (.int .i64 (p 9))).set (k := 10) (.int .i64 (p 10))).set (k := 11) (.int .i64 (p 11))).set (k := 12) (.int .i64 n)).set (k := 13) (.int .i64 m)).set (k := 14) (.int .i64 c)).set (k := 15) (.string d)).set (k := 16) (.string q)).set (k := 17) (.int .i64 l)).row.trans (by simp [csA])⟩, (within_set (within_set (within_set (within_set (within_set (within_set (within_set (within_set (within_set (within_set (within_set (within_set (within_set (within_set (within_set (within_set (within_set (within_set (Within.refl _ _ w) (Nat.le_refl _) (Nat.lt_succ_self _) 0 (.int .i64 (p 0))) (Nat.le_refl _) (Nat.lt_succ_self _) 1 (.int .i64 (p 1))) (Nat.le_refl _) (Nat.lt_succ_self _) 2 (.int .i64 (p 2))) (Nat.le_refl _) (Nat.lt_succ_self _) 3 (.int .i64 (p 3))) (Nat.le_refl _) (Nat.lt_succ_self _) 4 (.int .i64 (p 4))) (Nat.le_refl _) (Nat.lt_succ_self _) 5 (.int .i64 (p 5))) (Nat.le_refl _) (Nat.lt_succ_self _) 6 (.int .i64 (p 6))) (Nat.le_refl _) (Nat.lt_succ_self _) 7 (.int .i64 (p 7))) (Nat.le_refl _) (Nat.lt_succ_self _) 8 (.int .i64 (p 8))) (Nat.le_refl _) (Nat.lt_succ_self _) 9 (.int .i64 (p 9))) (Nat.le_refl _) (Nat.lt_succ_self _) 10 (.int .i64 (p 10))) (Nat.le_refl _) (Nat.lt_succ_self _) 11 (.int .i64 (p 11))) (Nat.le_refl _) (Nat.lt_succ_self _) 12 (.int .i64 n)) (Nat.le_refl _) (Nat.lt_succ_self _) 13 (.int .i64 m)) (Nat.le_refl _) (Nat.lt_succ_self _) 14 (.int .i64 c)) (Nat.le_refl _) (Nat.lt_succ_self _) 15 (.string d)) (Nat.le_refl _) (Nat.lt_succ_self _) 16 (.string q)) (Nat.le_refl _) (Nat.lt_succ_self _) 17 (.int .i64 l))⟩

set_option maxRecDepth 100000 in
set_option maxHeartbeats 8000000 in
theorem newConsole_impl_yes (p : Nat → Int) (n m c : Int) (W : World) (hr : roomOK p n m c = true) :
    Calls Try.prog 26 #[.agg (rmA p n m c)] W fun e w' => e = .returned (.tuple #[.agg (csA p n m c ⟨#[]⟩ ⟨#[]⟩ 0), .bool true]) ∧ Below W.heap.size W w' := by
  have HG := Lib.hid (fun w => isRoom_impl p n m c w)
  rw [hr] at HG
  simp only [rmA] at HG
  clear hr
  have HX := Lib.hid (Rw.new W #[.int .i64 (p 0), .int .i64 (p 1), .int .i64 (p 2), .int .i64 (p 3), .int .i64 (p 4), .int .i64 (p 5), .int .i64 (p 6), .int .i64 (p 7), .int .i64 (p 8), .int .i64 (p 9), .int .i64 (p 10), .int .i64 (p 11), .int .i64 n, .int .i64 m, .int .i64 c] 26 (W.heap.size) rfl)
  have HB := Lib.hid ((Below.refl W.heap.size W).alloc (Nat.le_refl _) (.cells #[.int .i64 (p 0), .int .i64 (p 1), .int .i64 (p 2), .int .i64 (p 3), .int .i64 (p 4), .int .i64 (p 5), .int .i64 (p 6), .int .i64 (p 7), .int .i64 (p 8), .int .i64 (p 9), .int .i64 (p 10), .int .i64 (p 11), .int .i64 n, .int .i64 m, .int .i64 c] 26))
  have HZ := Lib.hid (Rw.new (W.alloc (.cells #[.int .i64 (p 0), .int .i64 (p 1), .int .i64 (p 2), .int .i64 (p 3), .int .i64 (p 4), .int .i64 (p 5), .int .i64 (p 6), .int .i64 (p 7), .int .i64 (p 8), .int .i64 (p 9), .int .i64 (p 10), .int .i64 (p 11), .int .i64 n, .int .i64 m, .int .i64 c] 26)) #[.int .i64 0, .int .i64 0, .int .i64 0, .int .i64 0, .int .i64 0, .int .i64 0, .int .i64 0, .int .i64 0, .int .i64 0, .int .i64 0, .int .i64 0, .int .i64 0, .int .i64 0, .int .i64 0, .int .i64 0, .string ⟨#[]⟩, .string ⟨#[]⟩, .int .i64 0] 46 (W.heap.size + 1) (by simp))
  replace HX := Lib.hid (HX.out.step ((Below.refl _ _).alloc (Nat.le_refl _) (.cells #[.int .i64 0, .int .i64 0, .int .i64 0, .int .i64 0, .int .i64 0, .int .i64 0, .int .i64 0, .int .i64 0, .int .i64 0, .int .i64 0, .int .i64 0, .int .i64 0, .int .i64 0, .int .i64 0, .int .i64 0, .string ⟨#[]⟩, .string ⟨#[]⟩, .int .i64 0] 46)))
  replace HB := Lib.hid (HB.out.alloc HB.out.size (.cells #[.int .i64 0, .int .i64 0, .int .i64 0, .int .i64 0, .int .i64 0, .int .i64 0, .int .i64 0, .int .i64 0, .int .i64 0, .int .i64 0, .int .i64 0, .int .i64 0, .int .i64 0, .int .i64 0, .int .i64 0, .string ⟨#[]⟩, .string ⟨#[]⟩, .int .i64 0] 46))
  go_enter Try.func26, Try.ntmps26
  simp only [rmA]
  go_upto_region 1 with fail
  generalize (W.alloc (.cells #[.int .i64 (p 0), .int .i64 (p 1), .int .i64 (p 2), .int .i64 (p 3), .int .i64 (p 4), .int .i64 (p 5), .int .i64 (p 6), .int .i64 (p 7), .int .i64 (p 8), .int .i64 (p 9), .int .i64 (p 10), .int .i64 (p 11), .int .i64 n, .int .i64 m, .int .i64 c] 26)).alloc (.cells #[.int .i64 0, .int .i64 0, .int .i64 0, .int .i64 0, .int .i64 0, .int .i64 0, .int .i64 0, .int .i64 0, .int .i64 0, .int .i64 0, .int .i64 0, .int .i64 0, .int .i64 0, .int .i64 0, .int .i64 0, .string ⟨#[]⟩, .string ⟨#[]⟩, .int .i64 0] 46) = w0 at HB HX HZ ⊢
  have hx_0 := HX.out.cell (i := 0) (v := .int .i64 (p 0)) rfl
  have hx_1 := HX.out.cell (i := 1) (v := .int .i64 (p 1)) rfl
  have hx_2 := HX.out.cell (i := 2) (v := .int .i64 (p 2)) rfl
  have hx_3 := HX.out.cell (i := 3) (v := .int .i64 (p 3)) rfl
  have hx_4 := HX.out.cell (i := 4) (v := .int .i64 (p 4)) rfl
  have hx_5 := HX.out.cell (i := 5) (v := .int .i64 (p 5)) rfl
  have hx_6 := HX.out.cell (i := 6) (v := .int .i64 (p 6)) rfl
  have hx_7 := HX.out.cell (i := 7) (v := .int .i64 (p 7)) rfl
  have hx_8 := HX.out.cell (i := 8) (v := .int .i64 (p 8)) rfl
  have hx_9 := HX.out.cell (i := 9) (v := .int .i64 (p 9)) rfl
  have hx_10 := HX.out.cell (i := 10) (v := .int .i64 (p 10)) rfl
  have hx_11 := HX.out.cell (i := 11) (v := .int .i64 (p 11)) rfl
  have hx_12 := HX.out.cell (i := 12) (v := .int .i64 n) rfl
  have hx_13 := HX.out.cell (i := 13) (v := .int .i64 m) rfl
  have hx_14 := HX.out.cell (i := 14) (v := .int .i64 c) rfl
  go_wp2_with fail
  refine (HG.out _).mono ?_
  rintro e w1 ⟨rfl, hb⟩
  clear hx_0 hx_1 hx_2 hx_3 hx_4 hx_5 hx_6 hx_7 hx_8 hx_9 hx_10 hx_11 hx_12 hx_13 hx_14
  replace HX := Lib.hid (HX.out.step hb)
  replace HZ := Lib.hid (HZ.out.step hb)
  replace HB := Lib.hid (below_trans HB.out hb)
  clear hb
  clear HG
  go_upto_region 3 with fail
  have HX0 : Hid (Rw w1 W.heap.size (rmA p n m c) 26) := HX
  have HZ0 : Hid (Rw w1 (W.heap.size + 1) (csA (fun _ => 0) 0 0 0 ⟨#[]⟩ ⟨#[]⟩ 0) 46) := HZ
  have HP := Lib.hid (HZ0.out.put (csA p n m c ⟨#[]⟩ ⟨#[]⟩ 0))
  have HBF := Lib.hid (below_putR HB.out (g := W.heap.size + 1) (by omega) (csA p n m c ⟨#[]⟩ ⟨#[]⟩ 0))
  clear HX HZ HB
  refine wp_region_lit ?_
  refine wpList_loadRw rfl 26 (.tmp 1) rfl W.heap.size (rmA p n m c) 26 rfl HX0.out (d := .struct (Try.prog.fieldsOf 26)) rfl underRmF infoRm ?_
  refine wpList_build rfl _ _ rfl (by kernel_rfl) ?_
  refine wpList_storeRw rfl 46 (.tmp 2) (.tmp 9) rfl (W.heap.size + 1) _ (csA p n m c ⟨#[]⟩ ⟨#[]⟩ 0) 46 rfl (by kernel_rfl) HZ0.out infoCs rfl (cs_one _ _ _ _ _ _ _) ?_
  skip
  go_wp2
  refine bodyPost_ret (v := .tuple #[.agg (csA p n m c ⟨#[]⟩ ⟨#[]⟩ 0), .bool true]) ?_ rfl ?_
  · exact results_cell_tmp rfl _ _ (W.heap.size + 1) _ _ _ _ _ rfl rfl HP.out.row underCsF rfl infoCs
  exact ⟨rfl, HBF.out⟩

set_option maxRecDepth 100000 in
set_option maxHeartbeats 8000000 in
theorem newConsole_impl_no (p : Nat → Int) (n m c : Int) (W : World) (hr : roomOK p n m c = false) :
    Calls Try.prog 26 #[.agg (rmA p n m c)] W fun e w' => e = .returned (.tuple #[.agg (csA (fun _ => 0) 0 0 0 ⟨#[]⟩ ⟨#[]⟩ 0), .bool false]) ∧ Below W.heap.size W w' := by
  have HG := Lib.hid (fun w => isRoom_impl p n m c w)
  rw [hr] at HG
  simp only [rmA] at HG
  clear hr
  have HX := Lib.hid (Rw.new W #[.int .i64 (p 0), .int .i64 (p 1), .int .i64 (p 2), .int .i64 (p 3), .int .i64 (p 4), .int .i64 (p 5), .int .i64 (p 6), .int .i64 (p 7), .int .i64 (p 8), .int .i64 (p 9), .int .i64 (p 10), .int .i64 (p 11), .int .i64 n, .int .i64 m, .int .i64 c] 26 (W.heap.size) rfl)
  have HB := Lib.hid ((Below.refl W.heap.size W).alloc (Nat.le_refl _) (.cells #[.int .i64 (p 0), .int .i64 (p 1), .int .i64 (p 2), .int .i64 (p 3), .int .i64 (p 4), .int .i64 (p 5), .int .i64 (p 6), .int .i64 (p 7), .int .i64 (p 8), .int .i64 (p 9), .int .i64 (p 10), .int .i64 (p 11), .int .i64 n, .int .i64 m, .int .i64 c] 26))
  have HZ := Lib.hid (Rw.new (W.alloc (.cells #[.int .i64 (p 0), .int .i64 (p 1), .int .i64 (p 2), .int .i64 (p 3), .int .i64 (p 4), .int .i64 (p 5), .int .i64 (p 6), .int .i64 (p 7), .int .i64 (p 8), .int .i64 (p 9), .int .i64 (p 10), .int .i64 (p 11), .int .i64 n, .int .i64 m, .int .i64 c] 26)) #[.int .i64 0, .int .i64 0, .int .i64 0, .int .i64 0, .int .i64 0, .int .i64 0, .int .i64 0, .int .i64 0, .int .i64 0, .int .i64 0, .int .i64 0, .int .i64 0, .int .i64 0, .int .i64 0, .int .i64 0, .string ⟨#[]⟩, .string ⟨#[]⟩, .int .i64 0] 46 (W.heap.size + 1) (by simp))
  replace HX := Lib.hid (HX.out.step ((Below.refl _ _).alloc (Nat.le_refl _) (.cells #[.int .i64 0, .int .i64 0, .int .i64 0, .int .i64 0, .int .i64 0, .int .i64 0, .int .i64 0, .int .i64 0, .int .i64 0, .int .i64 0, .int .i64 0, .int .i64 0, .int .i64 0, .int .i64 0, .int .i64 0, .string ⟨#[]⟩, .string ⟨#[]⟩, .int .i64 0] 46)))
  replace HB := Lib.hid (HB.out.alloc HB.out.size (.cells #[.int .i64 0, .int .i64 0, .int .i64 0, .int .i64 0, .int .i64 0, .int .i64 0, .int .i64 0, .int .i64 0, .int .i64 0, .int .i64 0, .int .i64 0, .int .i64 0, .int .i64 0, .int .i64 0, .int .i64 0, .string ⟨#[]⟩, .string ⟨#[]⟩, .int .i64 0] 46))
  go_enter Try.func26, Try.ntmps26
  simp only [rmA]
  go_upto_region 1 with fail
  generalize (W.alloc (.cells #[.int .i64 (p 0), .int .i64 (p 1), .int .i64 (p 2), .int .i64 (p 3), .int .i64 (p 4), .int .i64 (p 5), .int .i64 (p 6), .int .i64 (p 7), .int .i64 (p 8), .int .i64 (p 9), .int .i64 (p 10), .int .i64 (p 11), .int .i64 n, .int .i64 m, .int .i64 c] 26)).alloc (.cells #[.int .i64 0, .int .i64 0, .int .i64 0, .int .i64 0, .int .i64 0, .int .i64 0, .int .i64 0, .int .i64 0, .int .i64 0, .int .i64 0, .int .i64 0, .int .i64 0, .int .i64 0, .int .i64 0, .int .i64 0, .string ⟨#[]⟩, .string ⟨#[]⟩, .int .i64 0] 46) = w0 at HB HX HZ ⊢
  have hx_0 := HX.out.cell (i := 0) (v := .int .i64 (p 0)) rfl
  have hx_1 := HX.out.cell (i := 1) (v := .int .i64 (p 1)) rfl
  have hx_2 := HX.out.cell (i := 2) (v := .int .i64 (p 2)) rfl
  have hx_3 := HX.out.cell (i := 3) (v := .int .i64 (p 3)) rfl
  have hx_4 := HX.out.cell (i := 4) (v := .int .i64 (p 4)) rfl
  have hx_5 := HX.out.cell (i := 5) (v := .int .i64 (p 5)) rfl
  have hx_6 := HX.out.cell (i := 6) (v := .int .i64 (p 6)) rfl
  have hx_7 := HX.out.cell (i := 7) (v := .int .i64 (p 7)) rfl
  have hx_8 := HX.out.cell (i := 8) (v := .int .i64 (p 8)) rfl
  have hx_9 := HX.out.cell (i := 9) (v := .int .i64 (p 9)) rfl
  have hx_10 := HX.out.cell (i := 10) (v := .int .i64 (p 10)) rfl
  have hx_11 := HX.out.cell (i := 11) (v := .int .i64 (p 11)) rfl
  have hx_12 := HX.out.cell (i := 12) (v := .int .i64 n) rfl
  have hx_13 := HX.out.cell (i := 13) (v := .int .i64 m) rfl
  have hx_14 := HX.out.cell (i := 14) (v := .int .i64 c) rfl
  go_wp2_with fail
  refine (HG.out _).mono ?_
  rintro e w1 ⟨rfl, hb⟩
  clear hx_0 hx_1 hx_2 hx_3 hx_4 hx_5 hx_6 hx_7 hx_8 hx_9 hx_10 hx_11 hx_12 hx_13 hx_14
  replace HX := Lib.hid (HX.out.step hb)
  replace HZ := Lib.hid (HZ.out.step hb)
  replace HB := Lib.hid (below_trans HB.out hb)
  clear hb
  clear HG
  go_upto_region 2 with fail
  have HZ0 : Hid (Rw w1 (W.heap.size + 1) (csA (fun _ => 0) 0 0 0 ⟨#[]⟩ ⟨#[]⟩ 0) 46) := HZ
  have HP := Lib.hid (HZ0.out.put (csA (fun _ => 0) 0 0 0 ⟨#[]⟩ ⟨#[]⟩ 0))
  have HBF := Lib.hid (below_putR HB.out (g := W.heap.size + 1) (by omega) (csA (fun _ => 0) 0 0 0 ⟨#[]⟩ ⟨#[]⟩ 0))
  clear HX HZ HB
  refine wp_region_lit ?_
  refine wpList_build rfl _ _ rfl (by kernel_rfl) ?_
  refine wpList_storeRw rfl 46 (.tmp 2) (.tmp 7) rfl (W.heap.size + 1) _ (csA (fun _ => 0) 0 0 0 ⟨#[]⟩ ⟨#[]⟩ 0) 46 rfl (by kernel_rfl) HZ0.out infoCs rfl (cs_one _ _ _ _ _ _ _) ?_
  skip
  go_wp2
  refine bodyPost_ret (v := .tuple #[.agg (csA (fun _ => 0) 0 0 0 ⟨#[]⟩ ⟨#[]⟩ 0), .bool false]) ?_ rfl ?_
  · exact results_cell_tmp rfl _ _ (W.heap.size + 1) _ _ _ _ _ rfl rfl HP.out.row underCsF rfl infoCs
  exact ⟨rfl, HBF.out⟩

set_option maxRecDepth 100000 in
set_option maxHeartbeats 8000000 in
theorem newConsole_spec_yes (p : Nat → Int) (n m c : Int) (W : World) (hr : roomOK p n m c = true) :
    Calls Try.prog 25 #[.agg (rmA p n m c)] W fun e w' => e = .returned (.tuple #[.agg (csA p n m c ⟨#[]⟩ ⟨#[]⟩ 0), .bool true]) ∧ Below W.heap.size W w' := by
  have HG := Lib.hid (fun w => l12Good_any p n m c w)
  rw [hr] at HG
  simp only [rmA] at HG
  clear hr
  have HX := Lib.hid (Rw.new W #[.int .i64 (p 0), .int .i64 (p 1), .int .i64 (p 2), .int .i64 (p 3), .int .i64 (p 4), .int .i64 (p 5), .int .i64 (p 6), .int .i64 (p 7), .int .i64 (p 8), .int .i64 (p 9), .int .i64 (p 10), .int .i64 (p 11), .int .i64 n, .int .i64 m, .int .i64 c] 26 (W.heap.size) rfl)
  have HB := Lib.hid ((Below.refl W.heap.size W).alloc (Nat.le_refl _) (.cells #[.int .i64 (p 0), .int .i64 (p 1), .int .i64 (p 2), .int .i64 (p 3), .int .i64 (p 4), .int .i64 (p 5), .int .i64 (p 6), .int .i64 (p 7), .int .i64 (p 8), .int .i64 (p 9), .int .i64 (p 10), .int .i64 (p 11), .int .i64 n, .int .i64 m, .int .i64 c] 26))
  have HZ := Lib.hid (Rw.new (W.alloc (.cells #[.int .i64 (p 0), .int .i64 (p 1), .int .i64 (p 2), .int .i64 (p 3), .int .i64 (p 4), .int .i64 (p 5), .int .i64 (p 6), .int .i64 (p 7), .int .i64 (p 8), .int .i64 (p 9), .int .i64 (p 10), .int .i64 (p 11), .int .i64 n, .int .i64 m, .int .i64 c] 26)) #[.int .i64 0, .int .i64 0, .int .i64 0, .int .i64 0, .int .i64 0, .int .i64 0, .int .i64 0, .int .i64 0, .int .i64 0, .int .i64 0, .int .i64 0, .int .i64 0, .int .i64 0, .int .i64 0, .int .i64 0, .string ⟨#[]⟩, .string ⟨#[]⟩, .int .i64 0] 46 (W.heap.size + 1) (by simp))
  replace HX := Lib.hid (HX.out.step ((Below.refl _ _).alloc (Nat.le_refl _) (.cells #[.int .i64 0, .int .i64 0, .int .i64 0, .int .i64 0, .int .i64 0, .int .i64 0, .int .i64 0, .int .i64 0, .int .i64 0, .int .i64 0, .int .i64 0, .int .i64 0, .int .i64 0, .int .i64 0, .int .i64 0, .string ⟨#[]⟩, .string ⟨#[]⟩, .int .i64 0] 46)))
  replace HB := Lib.hid (HB.out.alloc HB.out.size (.cells #[.int .i64 0, .int .i64 0, .int .i64 0, .int .i64 0, .int .i64 0, .int .i64 0, .int .i64 0, .int .i64 0, .int .i64 0, .int .i64 0, .int .i64 0, .int .i64 0, .int .i64 0, .int .i64 0, .int .i64 0, .string ⟨#[]⟩, .string ⟨#[]⟩, .int .i64 0] 46))
  go_enter Try.func25, Try.ntmps25
  simp only [rmA]
  go_upto_region 1 with fail
  generalize (W.alloc (.cells #[.int .i64 (p 0), .int .i64 (p 1), .int .i64 (p 2), .int .i64 (p 3), .int .i64 (p 4), .int .i64 (p 5), .int .i64 (p 6), .int .i64 (p 7), .int .i64 (p 8), .int .i64 (p 9), .int .i64 (p 10), .int .i64 (p 11), .int .i64 n, .int .i64 m, .int .i64 c] 26)).alloc (.cells #[.int .i64 0, .int .i64 0, .int .i64 0, .int .i64 0, .int .i64 0, .int .i64 0, .int .i64 0, .int .i64 0, .int .i64 0, .int .i64 0, .int .i64 0, .int .i64 0, .int .i64 0, .int .i64 0, .int .i64 0, .string ⟨#[]⟩, .string ⟨#[]⟩, .int .i64 0] 46) = w0 at HB HX HZ ⊢
  have hx_0 := HX.out.cell (i := 0) (v := .int .i64 (p 0)) rfl
  have hx_1 := HX.out.cell (i := 1) (v := .int .i64 (p 1)) rfl
  have hx_2 := HX.out.cell (i := 2) (v := .int .i64 (p 2)) rfl
  have hx_3 := HX.out.cell (i := 3) (v := .int .i64 (p 3)) rfl
  have hx_4 := HX.out.cell (i := 4) (v := .int .i64 (p 4)) rfl
  have hx_5 := HX.out.cell (i := 5) (v := .int .i64 (p 5)) rfl
  have hx_6 := HX.out.cell (i := 6) (v := .int .i64 (p 6)) rfl
  have hx_7 := HX.out.cell (i := 7) (v := .int .i64 (p 7)) rfl
  have hx_8 := HX.out.cell (i := 8) (v := .int .i64 (p 8)) rfl
  have hx_9 := HX.out.cell (i := 9) (v := .int .i64 (p 9)) rfl
  have hx_10 := HX.out.cell (i := 10) (v := .int .i64 (p 10)) rfl
  have hx_11 := HX.out.cell (i := 11) (v := .int .i64 (p 11)) rfl
  have hx_12 := HX.out.cell (i := 12) (v := .int .i64 n) rfl
  have hx_13 := HX.out.cell (i := 13) (v := .int .i64 m) rfl
  have hx_14 := HX.out.cell (i := 14) (v := .int .i64 c) rfl
  go_wp2_with fail
  refine (HG.out _).mono ?_
  rintro e w1 ⟨rfl, hb⟩
  clear hx_0 hx_1 hx_2 hx_3 hx_4 hx_5 hx_6 hx_7 hx_8 hx_9 hx_10 hx_11 hx_12 hx_13 hx_14
  replace HX := Lib.hid (HX.out.step hb)
  replace HZ := Lib.hid (HZ.out.step hb)
  replace HB := Lib.hid (below_trans HB.out hb)
  clear hb
  clear HG
  go_upto_region 3 with fail
  have HX0 : Hid (Rw w1 W.heap.size (rmA p n m c) 26) := HX
  have HZ0 : Hid (Rw w1 (W.heap.size + 1) (csA (fun _ => 0) 0 0 0 ⟨#[]⟩ ⟨#[]⟩ 0) 46) := HZ
  have HP := Lib.hid (HZ0.out.put (csA p n m c ⟨#[]⟩ ⟨#[]⟩ 0))
  have HBF := Lib.hid (below_putR HB.out (g := W.heap.size + 1) (by omega) (csA p n m c ⟨#[]⟩ ⟨#[]⟩ 0))
  clear HX HZ HB
  refine wp_region_lit ?_
  refine wpList_loadRw rfl 26 (.tmp 1) rfl W.heap.size (rmA p n m c) 26 rfl HX0.out (d := .struct (Try.prog.fieldsOf 26)) rfl underRmF infoRm ?_
  refine wpList_build rfl _ _ rfl (by kernel_rfl) ?_
  refine wpList_storeRw rfl 46 (.tmp 2) (.tmp 9) rfl (W.heap.size + 1) _ (csA p n m c ⟨#[]⟩ ⟨#[]⟩ 0) 46 rfl (by kernel_rfl) HZ0.out infoCs rfl (cs_one _ _ _ _ _ _ _) ?_
  skip
  go_wp2
  refine bodyPost_ret (v := .tuple #[.agg (csA p n m c ⟨#[]⟩ ⟨#[]⟩ 0), .bool true]) ?_ rfl ?_
  · exact results_cell_tmp rfl _ _ (W.heap.size + 1) _ _ _ _ _ rfl rfl HP.out.row underCsF rfl infoCs
  exact ⟨rfl, HBF.out⟩

set_option maxRecDepth 100000 in
set_option maxHeartbeats 8000000 in
theorem newConsole_spec_no (p : Nat → Int) (n m c : Int) (W : World) (hr : roomOK p n m c = false) :
    Calls Try.prog 25 #[.agg (rmA p n m c)] W fun e w' => e = .returned (.tuple #[.agg (csA (fun _ => 0) 0 0 0 ⟨#[]⟩ ⟨#[]⟩ 0), .bool false]) ∧ Below W.heap.size W w' := by
  have HG := Lib.hid (fun w => l12Good_any p n m c w)
  rw [hr] at HG
  simp only [rmA] at HG
  clear hr
  have HX := Lib.hid (Rw.new W #[.int .i64 (p 0), .int .i64 (p 1), .int .i64 (p 2), .int .i64 (p 3), .int .i64 (p 4), .int .i64 (p 5), .int .i64 (p 6), .int .i64 (p 7), .int .i64 (p 8), .int .i64 (p 9), .int .i64 (p 10), .int .i64 (p 11), .int .i64 n, .int .i64 m, .int .i64 c] 26 (W.heap.size) rfl)
  have HB := Lib.hid ((Below.refl W.heap.size W).alloc (Nat.le_refl _) (.cells #[.int .i64 (p 0), .int .i64 (p 1), .int .i64 (p 2), .int .i64 (p 3), .int .i64 (p 4), .int .i64 (p 5), .int .i64 (p 6), .int .i64 (p 7), .int .i64 (p 8), .int .i64 (p 9), .int .i64 (p 10), .int .i64 (p 11), .int .i64 n, .int .i64 m, .int .i64 c] 26))
  have HZ := Lib.hid (Rw.new (W.alloc (.cells #[.int .i64 (p 0), .int .i64 (p 1), .int .i64 (p 2), .int .i64 (p 3), .int .i64 (p 4), .int .i64 (p 5), .int .i64 (p 6), .int .i64 (p 7), .int .i64 (p 8), .int .i64 (p 9), .int .i64 (p 10), .int .i64 (p 11), .int .i64 n, .int .i64 m, .int .i64 c] 26)) #[.int .i64 0, .int .i64 0, .int .i64 0, .int .i64 0, .int .i64 0, .int .i64 0, .int .i64 0, .int .i64 0, .int .i64 0, .int .i64 0, .int .i64 0, .int .i64 0, .int .i64 0, .int .i64 0, .int .i64 0, .string ⟨#[]⟩, .string ⟨#[]⟩, .int .i64 0] 46 (W.heap.size + 1) (by simp))
  replace HX := Lib.hid (HX.out.step ((Below.refl _ _).alloc (Nat.le_refl _) (.cells #[.int .i64 0, .int .i64 0, .int .i64 0, .int .i64 0, .int .i64 0, .int .i64 0, .int .i64 0, .int .i64 0, .int .i64 0, .int .i64 0, .int .i64 0, .int .i64 0, .int .i64 0, .int .i64 0, .int .i64 0, .string ⟨#[]⟩, .string ⟨#[]⟩, .int .i64 0] 46)))
  replace HB := Lib.hid (HB.out.alloc HB.out.size (.cells #[.int .i64 0, .int .i64 0, .int .i64 0, .int .i64 0, .int .i64 0, .int .i64 0, .int .i64 0, .int .i64 0, .int .i64 0, .int .i64 0, .int .i64 0, .int .i64 0, .int .i64 0, .int .i64 0, .int .i64 0, .string ⟨#[]⟩, .string ⟨#[]⟩, .int .i64 0] 46))
  go_enter Try.func25, Try.ntmps25
  simp only [rmA]
  go_upto_region 1 with fail
  generalize (W.alloc (.cells #[.int .i64 (p 0), .int .i64 (p 1), .int .i64 (p 2), .int .i64 (p 3), .int .i64 (p 4), .int .i64 (p 5), .int .i64 (p 6), .int .i64 (p 7), .int .i64 (p 8), .int .i64 (p 9), .int .i64 (p 10), .int .i64 (p 11), .int .i64 n, .int .i64 m, .int .i64 c] 26)).alloc (.cells #[.int .i64 0, .int .i64 0, .int .i64 0, .int .i64 0, .int .i64 0, .int .i64 0, .int .i64 0, .int .i64 0, .int .i64 0, .int .i64 0, .int .i64 0, .int .i64 0, .int .i64 0, .int .i64 0, .int .i64 0, .string ⟨#[]⟩, .string ⟨#[]⟩, .int .i64 0] 46) = w0 at HB HX HZ ⊢
  have hx_0 := HX.out.cell (i := 0) (v := .int .i64 (p 0)) rfl
  have hx_1 := HX.out.cell (i := 1) (v := .int .i64 (p 1)) rfl
  have hx_2 := HX.out.cell (i := 2) (v := .int .i64 (p 2)) rfl
  have hx_3 := HX.out.cell (i := 3) (v := .int .i64 (p 3)) rfl
  have hx_4 := HX.out.cell (i := 4) (v := .int .i64 (p 4)) rfl
  have hx_5 := HX.out.cell (i := 5) (v := .int .i64 (p 5)) rfl
  have hx_6 := HX.out.cell (i := 6) (v := .int .i64 (p 6)) rfl
  have hx_7 := HX.out.cell (i := 7) (v := .int .i64 (p 7)) rfl
  have hx_8 := HX.out.cell (i := 8) (v := .int .i64 (p 8)) rfl
  have hx_9 := HX.out.cell (i := 9) (v := .int .i64 (p 9)) rfl
  have hx_10 := HX.out.cell (i := 10) (v := .int .i64 (p 10)) rfl
  have hx_11 := HX.out.cell (i := 11) (v := .int .i64 (p 11)) rfl
  have hx_12 := HX.out.cell (i := 12) (v := .int .i64 n) rfl
  have hx_13 := HX.out.cell (i := 13) (v := .int .i64 m) rfl
  have hx_14 := HX.out.cell (i := 14) (v := .int .i64 c) rfl
  go_wp2_with fail
  refine (HG.out _).mono ?_
  rintro e w1 ⟨rfl, hb⟩
  clear hx_0 hx_1 hx_2 hx_3 hx_4 hx_5 hx_6 hx_7 hx_8 hx_9 hx_10 hx_11 hx_12 hx_13 hx_14
  replace HX := Lib.hid (HX.out.step hb)
  replace HZ := Lib.hid (HZ.out.step hb)
  replace HB := Lib.hid (below_trans HB.out hb)
  clear hb
  clear HG
  go_upto_region 2 with fail
  have HZ0 : Hid (Rw w1 (W.heap.size + 1) (csA (fun _ => 0) 0 0 0 ⟨#[]⟩ ⟨#[]⟩ 0) 46) := HZ
  have HP := Lib.hid (HZ0.out.put (csA (fun _ => 0) 0 0 0 ⟨#[]⟩ ⟨#[]⟩ 0))
  have HBF := Lib.hid (below_putR HB.out (g := W.heap.size + 1) (by omega) (csA (fun _ => 0) 0 0 0 ⟨#[]⟩ ⟨#[]⟩ 0))
  clear HX HZ HB
  refine wp_region_lit ?_
  refine wpList_build rfl _ _ rfl (by kernel_rfl) ?_
  refine wpList_storeRw rfl 46 (.tmp 2) (.tmp 7) rfl (W.heap.size + 1) _ (csA (fun _ => 0) 0 0 0 ⟨#[]⟩ ⟨#[]⟩ 0) 46 rfl (by kernel_rfl) HZ0.out infoCs rfl (cs_one _ _ _ _ _ _ _) ?_
  skip
  go_wp2
  refine bodyPost_ret (v := .tuple #[.agg (csA (fun _ => 0) 0 0 0 ⟨#[]⟩ ⟨#[]⟩ 0), .bool false]) ?_ rfl ?_
  · exact results_cell_tmp rfl _ _ (W.heap.size + 1) _ _ _ _ _ rfl rfl HP.out.row underCsF rfl infoCs
  exact ⟨rfl, HBF.out⟩

set_option maxRecDepth 100000 in
set_option maxHeartbeats 4000000 in
theorem eqLog_same (d q : ByteArray) (l : Int) (W : World) :
    Calls Try.prog 75 #[.agg #[.string d, .string q, .int .i64 l], .agg #[.string d, .string q, .int .i64 l]] W fun e w' => e = .returned (.bool true) ∧ Below W.heap.size W w' := by
  have HX := Lib.hid (Rw.new W #[.string d, .string q, .int .i64 l] 44 (W.heap.size) rfl)
  have HB := Lib.hid ((Below.refl W.heap.size W).alloc (Nat.le_refl _) (.cells #[.string d, .string q, .int .i64 l] 44))
  have HY := Lib.hid (Rw.new (W.alloc (.cells #[.string d, .string q, .int .i64 l] 44)) #[.string d, .string q, .int .i64 l] 44 (W.heap.size + 1) (by simp))
  replace HX := Lib.hid (HX.out.step ((Below.refl _ _).alloc (Nat.le_refl _) (.cells #[.string d, .string q, .int .i64 l] 44)))
  replace HB := Lib.hid (HB.out.alloc HB.out.size (.cells #[.string d, .string q, .int .i64 l] 44))
  go_enter Try.func75, Try.ntmps75
  go_upto_region 1 with fail
  generalize (W.alloc (.cells #[.string d, .string q, .int .i64 l] 44)).alloc (.cells #[.string d, .string q, .int .i64 l] 44) = w0 at HB HX HY ⊢
  have hx_0 := HX.out.cell (i := 0) (v := .string d) rfl
  have hx_1 := HX.out.cell (i := 1) (v := .string q) rfl
  have hx_2 := HX.out.cell (i := 2) (v := .int .i64 l) rfl
  have hy_0 := HY.out.cell (i := 0) (v := .string d) rfl
  have hy_1 := HY.out.cell (i := 1) (v := .string q) rfl
  have hy_2 := HY.out.cell (i := 2) (v := .int .i64 l) rfl
  go_wp2
  go_ret
  exact ⟨rfl, HB.out⟩

set_option maxRecDepth 100000 in
set_option maxHeartbeats 8000000 in
theorem eqConsole_same (p : Nat → Int) (n m c : Int) (d q : ByteArray) (l : Int) (W : World) :
    Calls Try.prog 27 #[.agg (csA p n m c d q l), .agg (csA p n m c d q l)] W fun e w' => e = .returned (.bool true) ∧ Below W.heap.size W w' := by
  have HE := Lib.hid (fun w => eqRoom_same p n m c w)
  have HL := Lib.hid (fun w => eqLog_same d q l w)
  simp only [rmA] at HE
  have HX := Lib.hid (Rw.new W #[.int .i64 (p 0), .int .i64 (p 1), .int .i64 (p 2), .int .i64 (p 3), .int .i64 (p 4), .int .i64 (p 5), .int .i64 (p 6), .int .i64 (p 7), .int .i64 (p 8), .int .i64 (p 9), .int .i64 (p 10), .int .i64 (p 11), .int .i64 n, .int .i64 m, .int .i64 c, .string d, .string q, .int .i64 l] 46 (W.heap.size) rfl)
  have HB := Lib.hid ((Below.refl W.heap.size W).alloc (Nat.le_refl _) (.cells #[.int .i64 (p 0), .int .i64 (p 1), .int .i64 (p 2), .int .i64 (p 3), .int .i64 (p 4), .int .i64 (p 5), .int .i64 (p 6), .int .i64 (p 7), .int .i64 (p 8), .int .i64 (p 9), .int .i64 (p 10), .int .i64 (p 11), .int .i64 n, .int .i64 m, .int .i64 c, .string d, .string q, .int .i64 l] 46))
  have HY := Lib.hid (Rw.new (W.alloc (.cells #[.int .i64 (p 0), .int .i64 (p 1), .int .i64 (p 2), .int .i64 (p 3), .int .i64 (p 4), .int .i64 (p 5), .int .i64 (p 6), .int .i64 (p 7), .int .i64 (p 8), .int .i64 (p 9), .int .i64 (p 10), .int .i64 (p 11), .int .i64 n, .int .i64 m, .int .i64 c, .string d, .string q, .int .i64 l] 46)) #[.int .i64 (p 0), .int .i64 (p 1), .int .i64 (p 2), .int .i64 (p 3), .int .i64 (p 4), .int .i64 (p 5), .int .i64 (p 6), .int .i64 (p 7), .int .i64 (p 8), .int .i64 (p 9), .int .i64 (p 10), .int .i64 (p 11), .int .i64 n, .int .i64 m, .int .i64 c, .string d, .string q, .int .i64 l] 46 (W.heap.size + 1) (by simp))
  replace HX := Lib.hid (HX.out.step ((Below.refl _ _).alloc (Nat.le_refl _) (.cells #[.int .i64 (p 0), .int .i64 (p 1), .int .i64 (p 2), .int .i64 (p 3), .int .i64 (p 4), .int .i64 (p 5), .int .i64 (p 6), .int .i64 (p 7), .int .i64 (p 8), .int .i64 (p 9), .int .i64 (p 10), .int .i64 (p 11), .int .i64 n, .int .i64 m, .int .i64 c, .string d, .string q, .int .i64 l] 46)))
  replace HB := Lib.hid (HB.out.alloc HB.out.size (.cells #[.int .i64 (p 0), .int .i64 (p 1), .int .i64 (p 2), .int .i64 (p 3), .int .i64 (p 4), .int .i64 (p 5), .int .i64 (p 6), .int .i64 (p 7), .int .i64 (p 8), .int .i64 (p 9), .int .i64 (p 10), .int .i64 (p 11), .int .i64 n, .int .i64 m, .int .i64 c, .string d, .string q, .int .i64 l] 46))
  go_enter Try.func27, Try.ntmps27
  simp only [csA]
  go_upto_region 1 with fail
  generalize (W.alloc (.cells #[.int .i64 (p 0), .int .i64 (p 1), .int .i64 (p 2), .int .i64 (p 3), .int .i64 (p 4), .int .i64 (p 5), .int .i64 (p 6), .int .i64 (p 7), .int .i64 (p 8), .int .i64 (p 9), .int .i64 (p 10), .int .i64 (p 11), .int .i64 n, .int .i64 m, .int .i64 c, .string d, .string q, .int .i64 l] 46)).alloc (.cells #[.int .i64 (p 0), .int .i64 (p 1), .int .i64 (p 2), .int .i64 (p 3), .int .i64 (p 4), .int .i64 (p 5), .int .i64 (p 6), .int .i64 (p 7), .int .i64 (p 8), .int .i64 (p 9), .int .i64 (p 10), .int .i64 (p 11), .int .i64 n, .int .i64 m, .int .i64 c, .string d, .string q, .int .i64 l] 46) = w0 at HB HX HY ⊢
  have hx_0 := HX.out.cell (i := 0) (v := .int .i64 (p 0)) rfl
  have hx_1 := HX.out.cell (i := 1) (v := .int .i64 (p 1)) rfl
  have hx_2 := HX.out.cell (i := 2) (v := .int .i64 (p 2)) rfl
  have hx_3 := HX.out.cell (i := 3) (v := .int .i64 (p 3)) rfl
  have hx_4 := HX.out.cell (i := 4) (v := .int .i64 (p 4)) rfl
  have hx_5 := HX.out.cell (i := 5) (v := .int .i64 (p 5)) rfl
  have hx_6 := HX.out.cell (i := 6) (v := .int .i64 (p 6)) rfl
  have hx_7 := HX.out.cell (i := 7) (v := .int .i64 (p 7)) rfl
  have hx_8 := HX.out.cell (i := 8) (v := .int .i64 (p 8)) rfl
  have hx_9 := HX.out.cell (i := 9) (v := .int .i64 (p 9)) rfl
  have hx_10 := HX.out.cell (i := 10) (v := .int .i64 (p 10)) rfl
  have hx_11 := HX.out.cell (i := 11) (v := .int .i64 (p 11)) rfl
  have hx_12 := HX.out.cell (i := 12) (v := .int .i64 n) rfl
  have hx_13 := HX.out.cell (i := 13) (v := .int .i64 m) rfl
  have hx_14 := HX.out.cell (i := 14) (v := .int .i64 c) rfl
  have hx_15 := HX.out.cell (i := 15) (v := .string d) rfl
  have hx_16 := HX.out.cell (i := 16) (v := .string q) rfl
  have hx_17 := HX.out.cell (i := 17) (v := .int .i64 l) rfl
  have hy_0 := HY.out.cell (i := 0) (v := .int .i64 (p 0)) rfl
  have hy_1 := HY.out.cell (i := 1) (v := .int .i64 (p 1)) rfl
  have hy_2 := HY.out.cell (i := 2) (v := .int .i64 (p 2)) rfl
  have hy_3 := HY.out.cell (i := 3) (v := .int .i64 (p 3)) rfl
  have hy_4 := HY.out.cell (i := 4) (v := .int .i64 (p 4)) rfl
  have hy_5 := HY.out.cell (i := 5) (v := .int .i64 (p 5)) rfl
  have hy_6 := HY.out.cell (i := 6) (v := .int .i64 (p 6)) rfl
  have hy_7 := HY.out.cell (i := 7) (v := .int .i64 (p 7)) rfl
  have hy_8 := HY.out.cell (i := 8) (v := .int .i64 (p 8)) rfl
  have hy_9 := HY.out.cell (i := 9) (v := .int .i64 (p 9)) rfl
  have hy_10 := HY.out.cell (i := 10) (v := .int .i64 (p 10)) rfl
  have hy_11 := HY.out.cell (i := 11) (v := .int .i64 (p 11)) rfl
  have hy_12 := HY.out.cell (i := 12) (v := .int .i64 n) rfl
  have hy_13 := HY.out.cell (i := 13) (v := .int .i64 m) rfl
  have hy_14 := HY.out.cell (i := 14) (v := .int .i64 c) rfl
  have hy_15 := HY.out.cell (i := 15) (v := .string d) rfl
  have hy_16 := HY.out.cell (i := 16) (v := .string q) rfl
  have hy_17 := HY.out.cell (i := 17) (v := .int .i64 l) rfl
  go_wp2_with fail
  refine (HE.out _).mono ?_
  rintro e w1 ⟨rfl, hb⟩
  clear hx_0 hx_1 hx_2 hx_3 hx_4 hx_5 hx_6 hx_7 hx_8 hx_9 hx_10 hx_11 hx_12 hx_13 hx_14 hx_15 hx_16 hx_17
  clear hy_0 hy_1 hy_2 hy_3 hy_4 hy_5 hy_6 hy_7 hy_8 hy_9 hy_10 hy_11 hy_12 hy_13 hy_14 hy_15 hy_16 hy_17
  replace HX := Lib.hid (HX.out.step hb)
  replace HY := Lib.hid (HY.out.step hb)
  replace HB := Lib.hid (below_trans HB.out hb)
  clear hb
  have hx_0 := HX.out.cell (i := 0) (v := .int .i64 (p 0)) rfl
  have hx_1 := HX.out.cell (i := 1) (v := .int .i64 (p 1)) rfl
  have hx_2 := HX.out.cell (i := 2) (v := .int .i64 (p 2)) rfl
  have hx_3 := HX.out.cell (i := 3) (v := .int .i64 (p 3)) rfl
  have hx_4 := HX.out.cell (i := 4) (v := .int .i64 (p 4)) rfl
  have hx_5 := HX.out.cell (i := 5) (v := .int .i64 (p 5)) rfl
  have hx_6 := HX.out.cell (i := 6) (v := .int .i64 (p 6)) rfl
  have hx_7 := HX.out.cell (i := 7) (v := .int .i64 (p 7)) rfl
  have hx_8 := HX.out.cell (i := 8) (v := .int .i64 (p 8)) rfl
  have hx_9 := HX.out.cell (i := 9) (v := .int .i64 (p 9)) rfl
  have hx_10 := HX.out.cell (i := 10) (v := .int .i64 (p 10)) rfl
  have hx_11 := HX.out.cell (i := 11) (v := .int .i64 (p 11)) rfl
  have hx_12 := HX.out.cell (i := 12) (v := .int .i64 n) rfl
  have hx_13 := HX.out.cell (i := 13) (v := .int .i64 m) rfl
  have hx_14 := HX.out.cell (i := 14) (v := .int .i64 c) rfl
  have hx_15 := HX.out.cell (i := 15) (v := .string d) rfl
  have hx_16 := HX.out.cell (i := 16) (v := .string q) rfl
  have hx_17 := HX.out.cell (i := 17) (v := .int .i64 l) rfl
  have hy_0 := HY.out.cell (i := 0) (v := .int .i64 (p 0)) rfl
  have hy_1 := HY.out.cell (i := 1) (v := .int .i64 (p 1)) rfl
  have hy_2 := HY.out.cell (i := 2) (v := .int .i64 (p 2)) rfl
  have hy_3 := HY.out.cell (i := 3) (v := .int .i64 (p 3)) rfl
  have hy_4 := HY.out.cell (i := 4) (v := .int .i64 (p 4)) rfl
  have hy_5 := HY.out.cell (i := 5) (v := .int .i64 (p 5)) rfl
  have hy_6 := HY.out.cell (i := 6) (v := .int .i64 (p 6)) rfl
  have hy_7 := HY.out.cell (i := 7) (v := .int .i64 (p 7)) rfl
  have hy_8 := HY.out.cell (i := 8) (v := .int .i64 (p 8)) rfl
  have hy_9 := HY.out.cell (i := 9) (v := .int .i64 (p 9)) rfl
  have hy_10 := HY.out.cell (i := 10) (v := .int .i64 (p 10)) rfl
  have hy_11 := HY.out.cell (i := 11) (v := .int .i64 (p 11)) rfl
  have hy_12 := HY.out.cell (i := 12) (v := .int .i64 n) rfl
  have hy_13 := HY.out.cell (i := 13) (v := .int .i64 m) rfl
  have hy_14 := HY.out.cell (i := 14) (v := .int .i64 c) rfl
  have hy_15 := HY.out.cell (i := 15) (v := .string d) rfl
  have hy_16 := HY.out.cell (i := 16) (v := .string q) rfl
  have hy_17 := HY.out.cell (i := 17) (v := .int .i64 l) rfl
  go_wp2_with fail
  refine (HL.out _).mono ?_
  rintro e w2 ⟨rfl, hb⟩
  clear hx_0 hx_1 hx_2 hx_3 hx_4 hx_5 hx_6 hx_7 hx_8 hx_9 hx_10 hx_11 hx_12 hx_13 hx_14 hx_15 hx_16 hx_17
  clear hy_0 hy_1 hy_2 hy_3 hy_4 hy_5 hy_6 hy_7 hy_8 hy_9 hy_10 hy_11 hy_12 hy_13 hy_14 hy_15 hy_16 hy_17
  replace HX := Lib.hid (HX.out.step hb)
  replace HY := Lib.hid (HY.out.step hb)
  replace HB := Lib.hid (below_trans HB.out hb)
  clear hb
  go_wp2
  go_ret
  exact ⟨rfl, HB.out⟩
theorem newConsole_both (p : Nat → Int) (n m c : Int) : ∃ (p' : Nat → Int) (n' m' c' : Int) (b : Bool),
    (∀ (w : World), Calls Try.prog 26 #[.agg (rmA p n m c)] w fun e w' => e = .returned (.tuple #[.agg (csA p' n' m' c' ⟨#[]⟩ ⟨#[]⟩ 0), .bool b]) ∧ Below w.heap.size w w') ∧
    (∀ (w : World), Calls Try.prog 25 #[.agg (rmA p n m c)] w fun e w' => e = .returned (.tuple #[.agg (csA p' n' m' c' ⟨#[]⟩ ⟨#[]⟩ 0), .bool b]) ∧ Below w.heap.size w w') := by
  cases h : roomOK p n m c with
  | true => exact ⟨p, n, m, c, true, fun w => newConsole_impl_yes p n m c w h, fun w => newConsole_spec_yes p n m c w h⟩
  | false => exact ⟨fun _ => 0, 0, 0, 0, false, fun w => newConsole_impl_no p n m c w h, fun w => newConsole_spec_no p n m c w h⟩
end Go.Proofs.Ytpjoljaamakagaa
