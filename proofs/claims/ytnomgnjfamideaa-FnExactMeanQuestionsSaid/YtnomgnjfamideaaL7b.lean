/- Chances: fractions in lowest terms, of both sides. -/
import Derived.Test.YtnomgnjfamideaaL7a
import Derived.Test.YtnomgnjfamideaaPair
import Derived.StillTailTactics
namespace Go.Proofs.Ytnomgnjfamideaa
open Go.RowKit Go.ChangeShapes Go.WideShapes
set_option linter.unusedVariables false

theorem gcd_done (p q d : Nat) (h : Nat.gcd d 0 = Nat.gcd p q) : d = Nat.gcd p q := by rw [← h, Nat.gcd_zero_right]
theorem gcd_next (p q d r : Nat) (h : Nat.gcd d r = Nat.gcd p q) : Nat.gcd r (d % r) = Nat.gcd p q := by
  rw [← h, Nat.gcd_comm d r, Nat.gcd_rec r d, Nat.gcd_comm]
set_option maxRecDepth 100000 in
set_option maxHeartbeats 4000000 in
theorem fractionOf_any (p q : Nat) (hq : 1 ≤ q) (hp : p ≤ 1000000000000000000) (hq2 : q ≤ 1000000000000000000) (w : World) :
    Calls Try.prog 110 #[.int .i64 (p : Int), .int .i64 (q : Int)] w fun e w' => e = .returned (.agg #[.int .i64 ((fr1 p q : Nat) : Int), .int .i64 ((fr2 p q : Nat) : Int)]) ∧ Below w.heap.size w w' := by
  have HR0 := Lib.hid (Two.new w (.int .i64 0) (.int .i64 0) 62 w.heap.size rfl)
  have HB0 := Lib.hid ((Below.refl w.heap.size w).alloc (Nat.le_refl _) (.cells #[.int .i64 0, .int .i64 0] 62))
  have HG := Lib.hid (fr_gcd_pos p hq)
  go_enter Try.func110, Try.ntmps110
  go_wp2_with fail
  go_loopw [5, 6] (fun x y wr => ∃ (d r : Nat), x = .int .i64 (d : Int) ∧ y = .int .i64 (r : Int) ∧ d ≤ 1000000000000000000 ∧ r ≤ 1000000000000000000 ∧ Hid (Nat.gcd d r = Nat.gcd p q) ∧ Hid (Two wr w.heap.size (.int .i64 0) (.int .i64 0) 62) ∧ Hid (Below w.heap.size w wr)) (fun _ y _ => (intOf y).toNat)
  case atStart => exact ⟨q, p, rfl, rfl, hq2, hp, Lib.hid (Nat.gcd_comm _ _), HR0, HB0⟩
  case round =>
    clear HR0 HB0
    obtain ⟨d, r, rfl, rfl, hd, hr, HD, HR, HB⟩ := hrel
    by_cases hlt : r = 0
    · subst hlt
      have hg := gcd_done p q d HD.out
      have hd1 : 1 ≤ d := by have := HG.out; omega
      have HD2 := Lib.hid (HR.out.step (Below.refl _ _).drew)
      have q0 := HD2.out.c0
      have q1 := HD2.out.c1
      have q2 := HD2.out.f0
      have q3 := HD2.out.f1
      have HF1 : Hid (IntKind.i64.wrap ((p : Int) / (d : Int)) = ((fr1 p q : Nat) : Int)) := Lib.hid (by rw [hg, show (p : Int) / ((Nat.gcd p q : Nat) : Int) = ((fr1 p q : Nat) : Int) from (Int.natCast_ediv _ _).symm]; have := fr1_le p q; exact IntWalk.i64_in _ (by omega))
      have HF2 : Hid (IntKind.i64.wrap ((q : Int) / (d : Int)) = ((fr2 p q : Nat) : Int)) := Lib.hid (by rw [hg, show (q : Int) / ((Nat.gcd p q : Nat) : Int) = ((fr2 p q : Nat) : Int) from (Int.natCast_ediv _ _).symm]; have := fr2_le p q; exact IntWalk.i64_in _ (by omega))
      have hd0 : ¬ d = 0 := by omega
      clear hg
      go_wp2_with fail
      replace HB := Lib.hid HB.out.drew
      refine wp_region_still_tail 7 (by kernel_rfl) (by kernel_rfl) ?_
      change wpStill _ _ wr.drew (fun a' => wpList _ _ _ _ a' wr.drew) _ _
      generalize wr.drew = wd at HD2 HB q0 q1 q2 q3 ⊢
      simp only [List.take_succ_cons, List.take_zero, List.drop_succ_cons, List.drop_zero]
      repeat still_step
      refine wpStill_nil ?_
      simp only [HF1.out, HF2.out]
      all_goals
        go_wp2
        obtain ⟨hs, hw⟩ := stored2 HD2.out.row (.int .i64 ((fr1 p q : Nat) : Int)) (.int .i64 ((fr2 p q : Nat) : Int))
        generalize ((wd.setCell ⟨w.heap.size, 0, none⟩ (.int .i64 ((fr1 p q : Nat) : Int))).setCell ⟨w.heap.size, 1, none⟩ (.int .i64 ((fr2 p q : Nat) : Int))) = wf at hs hw ⊢
        have e0 := two0 hs
        have e1 := two1 hs
        refine bodyPost_ret (v := .agg #[.int .i64 ((fr1 p q : Nat) : Int), .int .i64 ((fr2 p q : Nat) : Int)]) (by simp [results, go_sem, e0, e1]) rfl ?_
        exact ⟨rfl, HB.out.trans (hw.below (Nat.le_refl _) HB.out.size)⟩
    · have hr1 : 1 ≤ r := by omega
      have HN := Lib.hid (gcd_next p q d r HD.out)
      have hlt2 := Nat.mod_lt d hr1
      have HM : Hid ((d : Int) % (r : Int) = ((d % r : Nat) : Int)) := Lib.hid (Int.natCast_emod _ _).symm
      go_wp2_with fail
      go_quiet (fail)
      go_wp2
      go_roundw
      case rel => exact ⟨r, d % r, rfl, by rw [HM.out], hr, by omega, HN, Lib.hid (HR.out.step (below_drewN (Below.refl _ _) _)), Lib.hid (below_drewN HB.out _)⟩
      case measure => rw [HM.out]; simp [intOf]; omega
end Go.Proofs.Ytnomgnjfamideaa
