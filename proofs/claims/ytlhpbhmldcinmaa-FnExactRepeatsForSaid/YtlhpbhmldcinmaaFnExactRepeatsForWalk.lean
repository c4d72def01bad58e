/- The law FnExactRepeatsFor: its walk over the two functions' contracts. -/
import Derived.Test.YtlhpbhmldcinmaaL7r
namespace Go.Proofs.Ytlhpbhmldcinmaa
open Go.RowKit
set_option linter.unusedVariables false

set_option maxRecDepth 100000 in
set_option maxHeartbeats 8000000 in
theorem fnExactRepeatsFor_walk (a b c d : Int) (W : World) (wfa : (Lit.int .i64 a).wf = true) (wfb : (Lit.int .i64 b).wf = true) (wfc : (Lit.int .i64 c).wf = true) (wfd : (Lit.int .i64 d).wf = true) (hsh : W.ShapedOpen Try.prog) :
    Calls Try.prog 12 #[.agg #[.int .i64 a, .int .i64 b], .agg #[.int .i64 c, .int .i64 d]] W fun e w' => e = .returned (.bool true) ∧ Below W.heap.size W w' := by
  clear hsh
  obtain ⟨r0, r1, hI, hC⟩ := repeatsFor_both a b c d
  have CI := Lib.hid hI
  have CS := Lib.hid hC
  have HD1 := Lib.hid (fun W => toDoubt_any a b W)
  have HD2 := Lib.hid (fun W => toDoubt_any c d W)
  clear hI hC
  have HT := Lib.hid (Two.new W (.int .i64 a) (.int .i64 b) 23 (W.heap.size) rfl)
  have HB := Lib.hid ((Below.refl W.heap.size W).alloc (Nat.le_refl _) (.cells #[.int .i64 a, .int .i64 b] 23))
  have HU := Lib.hid (Two.new (W.alloc (.cells #[.int .i64 a, .int .i64 b] 23)) (.int .i64 c) (.int .i64 d) 23 (W.heap.size + 1) (by simp))
  replace HT := Lib.hid (HT.out.step ((Below.refl _ _).alloc (Nat.le_refl _) (.cells #[.int .i64 c, .int .i64 d] 23)))
  replace HB := Lib.hid (HB.out.alloc HB.out.size (.cells #[.int .i64 c, .int .i64 d] 23))
  go_enter Try.func12, Try.ntmps12
  go_wp2_with fail
  generalize (W.alloc (.cells #[.int .i64 a, .int .i64 b] 23)).alloc (.cells #[.int .i64 c, .int .i64 d] 23) = w0 at HT HU HB ⊢
  go_wp2_with fail
  go_region_held3 (fun w' => w'.cell? ⟨W.heap.size, 0, none⟩ = some (.int .i64 a) ∧ w'.cell? ⟨W.heap.size, 1, none⟩ = some (.int .i64 b) ∧ w'.cell? ⟨W.heap.size + 1, 0, none⟩ = some (.int .i64 c) ∧ w'.cell? ⟨W.heap.size + 1, 1, none⟩ = some (.int .i64 d))
    (first
     | exact ⟨(HT.out.step (Below.refl _ w0).drew).c0, (HT.out.step (Below.refl _ w0).drew).c1, (HU.out.step (Below.refl _ w0).drew).c0, (HU.out.step (Below.refl _ w0).drew).c1⟩
     | exact ⟨(HT_1.out).c0, (HT_1.out).c1, (HU_1.out).c0, (HU_1.out).c1⟩
     | exact ⟨(HT_2.out).c0, (HT_2.out).c1, (HU_2.out).c0, (HU_2.out).c1⟩
     | exact ⟨(HT_3.out).c0, (HT_3.out).c1, (HU_3.out).c0, (HU_3.out).c1⟩)
    (first
     | (go_at_call 42; (with_reducible refine (CS.out v2).mono ?_); rintro e v3 ⟨rfl, hb⟩; have HZ3 := Lib.hid (below_trans HZ2.out hb); have HT_3 := Lib.hid (HT.out.step HZ3.out); have HU_3 := Lib.hid (HU.out.step HZ3.out); have HB_3 := Lib.hid (below_trans HB.out HZ3.out); clear hb)
     | (go_at_call 16; (with_reducible refine (HD2.out v1).mono ?_); rintro e v2 ⟨rfl, hb⟩; have HZ2 := Lib.hid (below_trans HZ1.out hb); have HT_2 := Lib.hid (HT.out.step HZ2.out); have HU_2 := Lib.hid (HU.out.step HZ2.out); have HB_2 := Lib.hid (below_trans HB.out HZ2.out); clear hb)
     | (go_at_call 16; (with_reducible refine (HD1.out w0.drew).mono ?_); rintro e v1 ⟨rfl, hb⟩; have HZ1 := Lib.hid (below_trans (Below.refl _ w0).drew hb); have HT_1 := Lib.hid (HT.out.step HZ1.out); have HU_1 := Lib.hid (HU.out.step HZ1.out); have HB_1 := Lib.hid (below_trans HB.out HZ1.out); clear hb))
  all_goals
    clear HT HU HB HT_1 HU_1 HB_1 HZ1 HT_2 HU_2 HB_2 HZ2 HZ3 CS
    have HT := HT_3
    have HU := HU_3
    have HB := HB_3
    clear HT_3 HU_3 HB_3
    generalize v3 = w1 at HT HU HB ⊢
    go_wp2_with fail
    go_region_held3 (fun w' => w'.cell? ⟨W.heap.size, 0, none⟩ = some (.int .i64 a) ∧ w'.cell? ⟨W.heap.size, 1, none⟩ = some (.int .i64 b) ∧ w'.cell? ⟨W.heap.size + 1, 0, none⟩ = some (.int .i64 c) ∧ w'.cell? ⟨W.heap.size + 1, 1, none⟩ = some (.int .i64 d))
      (first
       | exact ⟨(HT.out.step (Below.refl _ w1).drew).c0, (HT.out.step (Below.refl _ w1).drew).c1, (HU.out.step (Below.refl _ w1).drew).c0, (HU.out.step (Below.refl _ w1).drew).c1⟩
       | exact ⟨(HT_1.out).c0, (HT_1.out).c1, (HU_1.out).c0, (HU_1.out).c1⟩
       | exact ⟨(HT_2.out).c0, (HT_2.out).c1, (HU_2.out).c0, (HU_2.out).c1⟩
       | exact ⟨(HT_3.out).c0, (HT_3.out).c1, (HU_3.out).c0, (HU_3.out).c1⟩)
      (first
       | (go_at_call 43; (with_reducible refine (CI.out v2).mono ?_); rintro e v3 ⟨rfl, hb⟩; have HZ3 := Lib.hid (below_trans HZ2.out hb); have HT_3 := Lib.hid (HT.out.step HZ3.out); have HU_3 := Lib.hid (HU.out.step HZ3.out); have HB_3 := Lib.hid (below_trans HB.out HZ3.out); clear hb)
       | (go_at_call 16; (with_reducible refine (HD2.out v1).mono ?_); rintro e v2 ⟨rfl, hb⟩; have HZ2 := Lib.hid (below_trans HZ1.out hb); have HT_2 := Lib.hid (HT.out.step HZ2.out); have HU_2 := Lib.hid (HU.out.step HZ2.out); have HB_2 := Lib.hid (below_trans HB.out HZ2.out); clear hb)
       | (go_at_call 16; (with_reducible refine (HD1.out w1.drew).mono ?_); rintro e v1 ⟨rfl, hb⟩; have HZ1 := Lib.hid (below_trans (Below.refl _ w1).drew hb); have HT_1 := Lib.hid (HT.out.step HZ1.out); have HU_1 := Lib.hid (HU.out.step HZ1.out); have HB_1 := Lib.hid (below_trans HB.out HZ1.out); clear hb))
    all_goals
      go_wp2
      go_ret
      exact ⟨rfl, HB_3.out⟩

end Go.Proofs.Ytlhpbhmldcinmaa
