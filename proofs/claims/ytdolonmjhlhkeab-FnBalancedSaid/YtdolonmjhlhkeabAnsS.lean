/- Both weights behind the answers to a question: the specification's. -/
import Derived.Test.YtdolonmjhlhkeabWeigher
namespace Go.Proofs.Ytdolonmjhlhkeab
open Go.RowKit Go.ChangeShapes Go.WideShapes
set_option linter.unusedVariables false

set_option maxRecDepth 100000 in
set_option maxHeartbeats 8000000 in
theorem l3Answers_any (A : Option Addr) (c lo hi : Nat) (zs : List Int) (M q : Nat) (k Q : Int) (w : World) (hS : Ins w lo hi A zs) (hst : isSt zs (M : Int) = true) (hq : q ≤ 29) (hQ : Q = (q : Int) + 1) :
    Calls Try.prog 93 #[.agg #[.slice A zs.length c, .int .i64 (M : Int)], .int .i64 k, .int .i64 Q] w fun e w' => e = .returned (.agg #[.int .i64 (behW q M zs k true : Int), .int .i64 (behW q M zs k false : Int)]) ∧ Below w.heap.size w w' := by
  have hl := isSt_len hst
  have HT := Lib.hid (Two.new w (.slice A zs.length c) (.int .i64 (M : Int)) 26 w.heap.size rfl)
  have HB := Lib.hid ((Below.refl w.heap.size w).alloc (Nat.le_refl _) (.cells #[.slice A zs.length c, .int .i64 (M : Int)] 26))
  have HR := Lib.hid (Two.new (w.alloc (.cells #[.slice A zs.length c, .int .i64 (M : Int)] 26)) (.int .i64 0) (.int .i64 0) 42 (w.heap.size + 1) (by simp))
  replace HT := Lib.hid (HT.out.step ((Below.refl _ _).alloc (Nat.le_refl _) (.cells #[.int .i64 0, .int .i64 0] 42)))
  replace HB := Lib.hid (HB.out.alloc HB.out.size (.cells #[.int .i64 0, .int .i64 0] 42))
  have HI := Lib.hid (hS.step HB.out)
  have HL := Lib.hid (fun W y h => l2After_any A c lo hi zs (M : Int) k y W h hst)
  have HW := Lib.hid (fun g c' y W x (h : Ins W g (g + 1) (some ⟨g, 0, none⟩) (afters zs (M : Int) k y)) (hx : x = (q : Int)) => by
    have := l3Weight_any (some ⟨g, 0, none⟩) c' g (g + 1) (afters zs (M : Int) k y) M q W h (afters_isSt k y hst) (by omega)
    rw [afters_len] at this
    rw [hx]
    exact this : ∀ (g c' : Nat) (y : Bool) (W : World) (x : Int), Ins W g (g + 1) (some ⟨g, 0, none⟩) (afters zs (M : Int) k y) → x = (q : Int) → Calls Try.prog 77 #[.agg #[.slice (some ⟨g, 0, none⟩) zs.length c', .int .i64 (M : Int)], .int .i64 x] W fun e w' => e = .returned (.int .i64 (behW q M zs k y : Int)) ∧ Below W.heap.size W w')
  clear hS hst
  go_enter Try.func93, Try.ntmps93
  go_wp2_with fail
  generalize (w.alloc (.cells #[.slice A zs.length c, .int .i64 (M : Int)] 26)).alloc (.cells #[.int .i64 0, .int .i64 0] 42) = wa at HT HB HR HI ⊢
  have hltw : w.heap.size < w.heap.size + 1 := Nat.lt_succ_self _
  go_region_held3 (fun w' => w'.cell? ⟨w.heap.size, 0, none⟩ = some (.slice A zs.length c) ∧ w'.cell? ⟨w.heap.size, 1, none⟩ = some (.int .i64 (M : Int)))
    (first
     | exact ⟨(HT.out.step (Below.refl _ wa).drew).c0, (HT.out.step (Below.refl _ wa).drew).c1⟩
     | exact ⟨(HT.out.step HK1.out).c0, (HT.out.step HK1.out).c1⟩
     | exact ⟨(HT.out.step HK2.out).c0, (HT.out.step HK2.out).c1⟩
     | exact ⟨(HT.out.step HK3.out).c0, (HT.out.step HK3.out).c1⟩
     | exact ⟨(HT.out.step HK4.out).c0, (HT.out.step HK4.out).c1⟩
     | exact ⟨(HT4.out.within (within_set (within_set (Within.refl (w.heap.size + 1) (w.heap.size + 1 + 1) w4) (Nat.le_refl _) (Nat.lt_succ_self _) 0 _) (Nat.le_refl _) (Nat.lt_succ_self _) 1 _) (.inl hltw)).c0, (HT4.out.within (within_set (within_set (Within.refl (w.heap.size + 1) (w.heap.size + 1 + 1) w4) (Nat.le_refl _) (Nat.lt_succ_self _) 0 _) (Nat.le_refl _) (Nat.lt_succ_self _) 1 _) (.inl hltw)).c1⟩)
    (first
     | (go_at_call 77; refine (HW.out _ _ false _ _ HI3.out (by first | omega | exact IntWalk.i64_in _ (by omega) | (rw [IntWalk.i64_in _ (by omega)]; omega))).mono ?_; rintro e w4 ⟨rfl, hb⟩; have HK4 := Lib.hid (below_trans HK3.out hb); have HT4 := Lib.hid (HT.out.step HK4.out); have HR4 := Lib.hid (HR.out.step HK4.out); have q0 := HR4.out.c0; have q1 := HR4.out.c1; have q2 := HR4.out.f0; have q3 := HR4.out.f1; clear hb)
     | (go_at_call 116; refine (HL.out _ false (HI.out.step HK2.out)).mono ?_; rintro e w3 ⟨g3, c3, rfl, hg3, ho3, hb⟩; have HK3 := Lib.hid (below_trans HK2.out hb); have HI3 := Lib.hid (own_insG ho3); clear hb ho3)
     | (go_at_call 77; refine (HW.out _ _ true _ _ HI1.out (by first | omega | exact IntWalk.i64_in _ (by omega) | (rw [IntWalk.i64_in _ (by omega)]; omega))).mono ?_; rintro e w2 ⟨rfl, hb⟩; have HK2 := Lib.hid (below_trans HK1.out hb); clear hb)
     | (go_at_call 116; refine (HL.out wa.drew true (HI.out.step (Below.refl _ wa).drew)).mono ?_; rintro e w1 ⟨g1, c1, rfl, hg1, ho1, hb⟩; have HK1 := Lib.hid (below_trans (Below.refl _ wa).drew hb); have HI1 := Lib.hid (own_insG ho1); clear hb ho1))
  all_goals
    go_wp2
    obtain ⟨hs, hw⟩ := stored2 HR4.out.row (.int .i64 (behW q M zs k true : Int)) (.int .i64 (behW q M zs k false : Int))
    generalize ((w4.setCell ⟨w.heap.size + 1, 0, none⟩ (.int .i64 (behW q M zs k true : Int))).setCell ⟨w.heap.size + 1, 1, none⟩ (.int .i64 (behW q M zs k false : Int))) = wf at hs hw ⊢
    have e0 := two0 hs
    have e1 := two1 hs
    refine bodyPost_ret (v := .agg #[.int .i64 (behW q M zs k true : Int), .int .i64 (behW q M zs k false : Int)]) (by simp [results, go_sem, e0, e1]) rfl ?_
    have HBf := below_trans HB.out HK4.out
    exact ⟨rfl, HBf.trans (hw.below (Nat.le_succ _) HBf.size)⟩
end Go.Proofs.Ytdolonmjhlhkeab
