/- The draws of stage 3's laws. -/
import Derived.Test.YtdolonmjhlhkeabDrawS
import Derived.Deep.RegionHeld3
namespace Go.Proofs.Ytdolonmjhlhkeab
open Go.RowKit Go.ChangeShapes Go.WideShapes
set_option linter.unusedVariables false

theorem code_below {w w' : World} {A : Option Addr} {n : Nat} (h : Code w w.heap.size A n) (hb : Below w.heap.size w w') : Code w' w'.heap.size A n := fun h0 => by
  obtain ⟨b, o, e, h1, h2⟩ := h h0
  exact ⟨b, o, e, Nat.lt_of_lt_of_le h1 hb.size, fun j hj => by
    obtain ⟨z, hz⟩ := h2 j hj
    exact ⟨z, (hb.cell (p := ⟨b, o + j, none⟩) h1).trans hz⟩⟩
theorem grown_belowB {w w' : World} {b : Nat} (h : w.grownBy w' (some b)) {B : Nat} (hB : B ≤ b) (hs : B ≤ w.heap.size) : Below B w w' :=
  ⟨h.os, h.tape, h.output, h.size, fun j hj => h.block j (by omega) (fun e => by injection e; omega)⟩
/-- A State and two numbers that are drawn. -/
def DrewSKQ (w : World) (e : Ending) (w' : World) : Prop :=
  ∃ (zs : List Int) (B : Option Addr) (c' : Nat) (m k q : Int), e = .returned (.tuple #[.agg #[.slice B zs.length c', .int .i64 m], .int .i64 k, .int .i64 q]) ∧ zs.length ≤ 13 ∧ Res w' w.heap.size w'.heap.size B zs ∧ Below w.heap.size w w'
set_option maxRecDepth 100000 in
set_option maxHeartbeats 8000000 in
theorem drawAW_any (A : Option Addr) (n c : Nat) (w : World) (h : Code w w.heap.size A n) (hn : n ≤ 65536) :
    Calls Try.prog 30 #[.slice A n c] w (DrewSKQ w) := by
  have B1 := (Below.refl w.heap.size w).alloc (Nat.le_refl _) (.cells #[.slice none 0 0, .int .i64 0] 26)
  have HR := Lib.hid (TwoS.new w (.slice none 0 0) (.int .i64 0) w.heap.size rfl)
  have HC0 := Lib.hid (Cur.new (c := c) (code_below h B1))
  have HR1 := Lib.hid (HR.out.step ((Below.refl _ _).alloc (Nat.le_refl _) (.cells #[.slice A n c, .int .i64 0, .int .u64 0] 63)))
  have HB1 := Lib.hid (below_trans B1 ((Below.refl _ _).alloc (Nat.le_refl _) (.cells #[.slice A n c, .int .i64 0, .int .u64 0] 63)))
  have hsz : (w.alloc (.cells #[.slice none 0 0, .int .i64 0] 26)).heap.size = w.heap.size + 1 := by simp
  rw [hsz] at HC0
  clear h B1 HR hsz
  go_enter Try.func30, Try.ntmps30
  go_wp2_with fail
  generalize (w.alloc (.cells #[.slice none 0 0, .int .i64 0] 26)).alloc (.cells #[.slice A n c, .int .i64 0, .int .u64 0] 63) = wa at HC0 HR1 HB1 ⊢
  refine (state_any (w.heap.size + 1) A n c 0 wa HC0.out (by omega) hn).mono ?_
  rintro e wb ⟨zs, B, c', m, rfl, hzl, hzc, hres, k1, hk1, hc1, hg1⟩
  have hwa := HB1.out.size
  have hbl := HC0.out.lt
  have hlr := HR1.out.lt
  have A2 := (Below.refl wb.heap.size wb).alloc (Nat.le_refl _) (.cells #[.slice B zs.length c', .int .i64 m] 26)
  have HX := Lib.hid (TwoS.new wb (.slice B zs.length c') (.int .i64 m) wb.heap.size rfl)
  have HC1 := Lib.hid (hc1.alloc (.cells #[.slice B zs.length c', .int .i64 m] 26))
  have HR2 := Lib.hid ((HR1.out.far hg1 (by omega)).step A2)
  have HS2 := Lib.hid (hres.step A2)
  have HB2 := Lib.hid (below_trans (HB1.out.trans (grown_belowB hg1 (Nat.le_succ _) HB1.out.size)) A2)
  have hbb : w.heap.size + 1 < wb.heap.size := Nat.lt_of_lt_of_le hbl hg1.size
  clear hc1 hg1 hres A2 HC0 HR1 HB1
  go_wp2_with fail
  generalize wb.alloc (.cells #[.slice B zs.length c', .int .i64 m] 26) = wc at HX HC1 HR2 HS2 HB2 ⊢
  generalize wb.heap.size = bx at HX hbb ⊢
  have hne1 : bx ≠ w.heap.size + 1 := by omega
  have hne2 : w.heap.size ≠ w.heap.size + 1 := by omega
  have hlo : w.heap.size + 1 < wa.heap.size := hbl
  have hzs : zs.length ≤ 1048576 := by omega
  go_region_held3 (fun w' => w'.cell? ⟨bx, 0, none⟩ = some (.slice B zs.length c') ∧ w'.cell? ⟨bx, 1, none⟩ = some (.int .i64 m))
    (first
     | exact ⟨(HX.out.step (Below.refl _ wc).drew).c0, (HX.out.step (Below.refl _ wc).drew).c1⟩
     | exact ⟨HX3.out.c0, HX3.out.c1⟩
     | exact ⟨HX4.out.c0, HX4.out.c1⟩
     | exact ⟨((HX4.out.grown (grown_set _) (by intro e; injection e with e; omega)).grown (grown_set _) (by intro e; injection e with e; omega)).c0, ((HX4.out.grown (grown_set _) (by intro e; injection e with e; omega)).grown (grown_set _) (by intro e; injection e with e; omega)).c1⟩)
    (first
     | (go_at_call 67; refine (ahead3_any (w.heap.size + 1) A n c k3 _ HC3.out (by omega) hn).mono ?_; rintro e w4 ⟨q, rfl, hq, k4, hk4, hc4, hg4⟩; have HX4 := Lib.hid (HX3.out.far hg4 hne1); have HR4 := Lib.hid (HR3.out.far hg4 hne2); have HG4 := Lib.hid (HG3.out.trans hg4); have q0 := HR4.out.c0; have q1 := HR4.out.c1; have q2 := HR4.out.f0; have q3 := HR4.out.f1; clear hc4 hg4 hq)
     | (go_at_call 87; refine (question_any (w.heap.size + 1) A n c k1 zs.length wc.drew HC1.out (by omega) hn hzs).mono ?_; rintro e w3 ⟨kq, rfl, hkq, k3, hk3, hc3, hg3⟩; have hg3' : wc.grownBy w3 (some (w.heap.size + 1)) := ⟨hg3.os, hg3.tape, hg3.output, hg3.size, hg3.block⟩; have HC3 := Lib.hid hc3; have HX3 := Lib.hid (HX.out.far hg3' hne1); have HR3 := Lib.hid (HR2.out.far hg3' hne2); have HG3 := Lib.hid hg3'; clear hc3 hg3 hg3' hkq))
  all_goals
    go_wp2
    obtain ⟨hs2, hw⟩ := stored2 HR4.out.row (.slice B zs.length c') (.int .i64 m)
    generalize ((w4.setCell ⟨w.heap.size, 0, none⟩ (.slice B zs.length c')).setCell ⟨w.heap.size, 1, none⟩ (.int .i64 m)) = wf at hs2 hw ⊢
    have e0 := two0 hs2
    have e1 := two1 hs2
    refine bodyPost_ret (v := .tuple #[.agg #[.slice B zs.length c', .int .i64 m], .int .i64 kq, .int .i64 q]) (by simp [results, go_sem, e0, e1]) rfl ?_
    have hO := HS2.out.own.far HG4.out hlo
    have hHi : wb.heap.size ≤ w4.heap.size := Nat.le_trans HS2.out.top HG4.out.size
    have HBf := HB2.out.trans (grown_belowB HG4.out (Nat.le_succ _) HB2.out.size)
    exact ⟨zs, B, c', m, kq, q, rfl, hzl, res_wide ⟨hO.within hw (.inr (Nat.le_of_lt hlo)), Nat.le_trans hHi hw.size⟩ (by omega) (Nat.le_trans hHi hw.size), HBf.trans (hw.below (Nat.le_refl _) HBf.size)⟩
/-- A State and a number that are drawn. -/
def DrewSQ (w : World) (e : Ending) (w' : World) : Prop :=
  ∃ (zs : List Int) (B : Option Addr) (c' : Nat) (m q : Int), e = .returned (.tuple #[.agg #[.slice B zs.length c', .int .i64 m], .int .i64 q]) ∧ zs.length ≤ 13 ∧ Res w' w.heap.size w'.heap.size B zs ∧ Below w.heap.size w w'
set_option maxRecDepth 100000 in
set_option maxHeartbeats 8000000 in
theorem drawSW_any (A : Option Addr) (n c : Nat) (w : World) (h : Code w w.heap.size A n) (hn : n ≤ 65536) :
    Calls Try.prog 96 #[.slice A n c] w (DrewSQ w) := by
  have B1 := (Below.refl w.heap.size w).alloc (Nat.le_refl _) (.cells #[.slice none 0 0, .int .i64 0] 26)
  have HR := Lib.hid (TwoS.new w (.slice none 0 0) (.int .i64 0) w.heap.size rfl)
  have HC0 := Lib.hid (Cur.new (c := c) (code_below h B1))
  have HR1 := Lib.hid (HR.out.step ((Below.refl _ _).alloc (Nat.le_refl _) (.cells #[.slice A n c, .int .i64 0, .int .u64 0] 63)))
  have HB1 := Lib.hid (below_trans B1 ((Below.refl _ _).alloc (Nat.le_refl _) (.cells #[.slice A n c, .int .i64 0, .int .u64 0] 63)))
  have hsz : (w.alloc (.cells #[.slice none 0 0, .int .i64 0] 26)).heap.size = w.heap.size + 1 := by simp
  rw [hsz] at HC0
  clear h B1 HR hsz
  go_enter Try.func96, Try.ntmps96
  go_wp2_with fail
  generalize (w.alloc (.cells #[.slice none 0 0, .int .i64 0] 26)).alloc (.cells #[.slice A n c, .int .i64 0, .int .u64 0] 63) = wa at HC0 HR1 HB1 ⊢
  refine (state_any (w.heap.size + 1) A n c 0 wa HC0.out (by omega) hn).mono ?_
  rintro e wb ⟨zs, B, c', m, rfl, hzl, hzc, hres, k1, hk1, hc1, hg1⟩
  have hlo : w.heap.size + 1 < wa.heap.size := HC0.out.lt
  have HC1 := Lib.hid hc1
  have HR2 := Lib.hid (HR1.out.far hg1 (by omega))
  have HS2 := Lib.hid hres
  have HB2 := Lib.hid (HB1.out.trans (grown_belowB hg1 (Nat.le_succ _) HB1.out.size))
  have hne2 : w.heap.size ≠ w.heap.size + 1 := by omega
  clear hc1 hg1 hres HC0 HR1 HB1
  go_wp2_with fail
  refine (ahead3_any (w.heap.size + 1) A n c k1 wb HC1.out (by omega) hn).mono ?_
  rintro e w4 ⟨q, rfl, hq, k4, hk4, hc4, hg4⟩
  have HR4 := Lib.hid (HR2.out.far hg4 hne2)
  have HG4 := Lib.hid hg4
  have q0 := HR4.out.c0
  have q1 := HR4.out.c1
  have q2 := HR4.out.f0
  have q3 := HR4.out.f1
  clear hc4 hg4 hq HC1 HR2
  go_wp2
  obtain ⟨hs2, hw⟩ := stored2 HR4.out.row (.slice B zs.length c') (.int .i64 m)
  generalize ((w4.setCell ⟨w.heap.size, 0, none⟩ (.slice B zs.length c')).setCell ⟨w.heap.size, 1, none⟩ (.int .i64 m)) = wf at hs2 hw ⊢
  have e0 := two0 hs2
  have e1 := two1 hs2
  refine bodyPost_ret (v := .tuple #[.agg #[.slice B zs.length c', .int .i64 m], .int .i64 q]) (by simp [results, go_sem, e0, e1]) rfl ?_
  have hO := HS2.out.own.far HG4.out hlo
  have hHi : wb.heap.size ≤ w4.heap.size := Nat.le_trans HS2.out.top HG4.out.size
  have HBf := HB2.out.trans (grown_belowB HG4.out (Nat.le_succ _) HB2.out.size)
  exact ⟨zs, B, c', m, q, rfl, hzl, res_wide ⟨hO.within hw (.inr (Nat.le_of_lt hlo)), Nat.le_trans hHi hw.size⟩ (by omega) (Nat.le_trans hHi hw.size), HBf.trans (hw.below (Nat.le_refl _) HBf.size)⟩
set_option maxHeartbeats 4000000 in
theorem drawEQ_any (A : Option Addr) (n c : Nat) (w : World) (h : Code w w.heap.size A n) (hn : n ≤ 65536) :
    Calls Try.prog 35 #[.slice A n c] w (DrewSQ w) := by
  have B1 := (Below.refl w.heap.size w).alloc (Nat.le_refl _) (.cells #[.slice none 0 0, .int .i64 0] 26)
  have HB1 := Lib.hid B1
  have HR := Lib.hid (TwoS.new w (.slice none 0 0) (.int .i64 0) w.heap.size rfl)
  have HC := Lib.hid (code_below h B1)
  have HSZ : Hid ((w.alloc (.cells #[.slice none 0 0, .int .i64 0] 26)).heap.size = w.heap.size + 1) := by show _ = _; simp
  clear h B1
  go_enter Try.func35, Try.ntmps35
  go_wp2_with fail
  generalize w.alloc (.cells #[.slice none 0 0, .int .i64 0] 26) = wa at HC HR HB1 HSZ ⊢
  refine (drawSW_any A n c wa HC.out hn).mono ?_
  rintro e wb ⟨zs, B, c', m, q, rfl, hzl, hres, hb⟩
  have HS := Lib.hid hres
  have HR2 := Lib.hid (HR.out.step hb)
  have HB2 := Lib.hid (below_trans HB1.out hb)
  have q0 := HR2.out.c0
  have q1 := HR2.out.c1
  have q2 := HR2.out.f0
  have q3 := HR2.out.f1
  clear hb hres HR HB1 HC
  go_wp2
  obtain ⟨hs2, hw⟩ := stored2 HR2.out.row (.slice B zs.length c') (.int .i64 m)
  generalize ((wb.setCell ⟨w.heap.size, 0, none⟩ (.slice B zs.length c')).setCell ⟨w.heap.size, 1, none⟩ (.int .i64 m)) = wf at hs2 hw ⊢
  have e0 := two0 hs2
  have e1 := two1 hs2
  refine bodyPost_ret (v := .tuple #[.agg #[.slice B zs.length c', .int .i64 m], .int .i64 q]) (by simp [results, go_sem, e0, e1]) rfl ?_
  have hlo : w.heap.size + 1 ≤ wa.heap.size := Nat.le_of_eq HSZ.out.symm
  exact ⟨zs, B, c', m, q, rfl, hzl, res_wide (HS.out.within hw (.inr hlo)) (by omega) (Nat.le_trans HS.out.top hw.size), HB2.out.trans (hw.below (Nat.le_refl _) HB2.out.size)⟩
end Go.Proofs.Ytdolonmjhlhkeab
