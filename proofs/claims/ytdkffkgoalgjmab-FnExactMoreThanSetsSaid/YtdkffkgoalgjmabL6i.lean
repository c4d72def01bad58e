/- The plan of comparisons: by the mass of the state. -/
import Derived.Test.YtdkffkgoalgjmabL6g
import Derived.Test.YtdkffkgoalgjmabL6h
import Derived.Test.YtdkffkgoalgjmabL6u
namespace Go.Proofs.Ytdkffkgoalgjmab
open Go.RowKit Go.ChangeShapes Go.WideShapes Go.Maps
set_option linter.unusedVariables false

theorem field_lp (x0 x1 : Int) (w : World) : (Instr.field 111 (.agg #[.int .i64 x0, .int .i64 x1]) 0).run Try.prog w = .ok (.int .i64 x0) w := by kernel_rfl
theorem within_new6 {lo hi g : Nat} {w0 W W' : World} (h : Within lo hi w0 W) (hw : Within g (g + 1) W W') (hg : w0.heap.size ≤ g) : Within lo hi w0 W' :=
  ⟨hw.os.trans h.os, hw.tape.trans h.tape, hw.output.trans h.output, Nat.le_trans h.size hw.size, fun i hi hd => (hw.block i (Nat.lt_of_lt_of_le hi h.size) (.inl (by omega))).trans (h.block i hi hd)⟩
theorem within_below6 {lo hi : Nat} {w0 W W' : World} (h : Within lo hi w0 W) (hb : Below W.heap.size W W') : Within lo hi w0 W' := h.trans (Within.of_below hb)

/-- What planOf answers for states of less mass. -/
def LLess (m : Nat) : Prop := ∀ (M : Nat) (zs : List Int), Short M zs → massL M zs < m → ∀ (A : Option Addr) (c lo hi : Nat) (w : World) (B : Nat), LPlanM w B → Ins w lo hi A zs → (hi ≤ B ∨ B < lo) →
    Calls Try.prog 124 #[.map (some B), .agg #[.slice A zs.length c, .int .i64 (M : Int)]] w fun e w' => e = .returned (lpV (planS M zs)) ∧ LPlanM w' B ∧ Within B (B + 1) w w'

set_option maxRecDepth 100000 in
set_option maxHeartbeats 8000000 in
theorem needBehind_any (m : Nat) (HP : LLess m) (A : Option Addr) (c lo hi : Nat) (zs : List Int) (M k : Nat) (w : World) (B : Nat) (hpm : LPlanM w B) (hS : Ins w lo hi A zs) (hs : Short M zs) (hm : massL M zs < m + 1) (hk1 : lowN zs < k) (hk2 : k ≤ highN zs) :
    Calls Try.prog 138 #[.map (some B), .agg #[.slice A zs.length c, .int .i64 (M : Int)], .int .i64 (k : Int)] w fun e w' => e = .returned (.int .i64 (nofL M zs k : Int)) ∧ LPlanM w' B ∧ Within B (B + 1) w w' := by
  have hB := hpm.lt
  have hsp := span_bd hs
  have HX := Lib.hid (Arg.next (Below.refl w.heap.size w) (.slice A zs.length c) (.int .i64 (M : Int)) 36 w.heap.size rfl)
  have HI := Lib.hid (hS.step HX.out.below)
  have HPM := Lib.hid (hpm.step HX.out.below)
  have HBL := Lib.hid (fun W h => behindLess_any A c lo hi zs M k W h hs (by omega))
  have HP1 := Lib.hid (fun g c W h1 h2 (h3 : B < g) => HP M (cmpAft zs M k false) (hs.aft k false) (by have := mass_lt hs hk1 hk2 false; omega) (some ⟨g, 0, none⟩) c g (g + 1) W B h1 h2 (.inr h3))
  have HP2 := Lib.hid (fun g c W h1 h2 (h3 : B < g) => HP M (cmpAft zs M k true) (hs.aft k true) (by have := mass_lt hs hk1 hk2 true; omega) (some ⟨g, 0, none⟩) c g (g + 1) W B h1 h2 (.inr h3))
  rw [cmpAft_len] at HP1 HP2
  have e1 := need_plan (hs.aft k false)
  have e2 := need_plan (hs.aft k true)
  have hny := needS_le (hs.aft k true)
  have hnn := needS_le (hs.aft k false)
  have HV : Hid (nofL M zs k = 1 + max (planS M (cmpAft zs M k false)).1 (planS M (cmpAft zs M k true)).1) := Lib.hid (by rw [e1, e2]; rfl)
  rw [← e2] at hny
  rw [← e1] at hnn
  clear hS hs hpm hsp hm hk1 hk2 e1 e2 HP
  have hfd := field_lp
  unfold lpV at HP1 HP2
  generalize planS M (cmpAft zs M k false) = p1 at HP1 HV hnn
  generalize planS M (cmpAft zs M k true) = p2 at HP2 HV hny
  obtain ⟨a1, b1⟩ := p1
  obtain ⟨a2, b2⟩ := p2
  simp only at HP1 HP2 HV hnn hny
  go_enter Try.func138, Try.ntmps138
  go_wp2_with fail
  generalize w.alloc (.cells #[.slice A zs.length c, .int .i64 (M : Int)] 36) = w0 at HX HI HPM ⊢
  refine (HBL.out w0 HI.out).mono ?_
  rintro e w1 ⟨g1, g2, rfl, hg1, hg2, ho1, ho2, hb⟩
  have hgg1 : B < g1 := by have := HX.out.hi; omega
  have hgg2 : B < g2 := by have := HX.out.hi; omega
  have HO1 := Lib.hid (own_insB ho1)
  have HO2 := Lib.hid (own_insB ho2)
  replace HPM := Lib.hid (HPM.out.step hb)
  have HW := Lib.hid (Within.of_below (below_trans HX.out.below hb) : Within B (B + 1) w w1)
  have hBw := HPM.out.lt
  clear ho1 ho2 hb HBL HX HI
  have T7 := Two.new w1 (.slice (some ⟨g1, 0, none⟩) zs.length zs.length) (.int .i64 (M : Int)) 36 w1.heap.size rfl
  have hb1 := (Below.refl w1.heap.size w1).alloc (Nat.le_refl _) (.cells #[.slice (some ⟨g1, 0, none⟩) zs.length zs.length, .int .i64 (M : Int)] 36)
  have H8 := Lib.hid (Two.new (w1.alloc (.cells #[.slice (some ⟨g1, 0, none⟩) zs.length zs.length, .int .i64 (M : Int)] 36)) (.slice (some ⟨g2, 0, none⟩) zs.length zs.length) (.int .i64 (M : Int)) 36 (w1.heap.size + 1) (by simp))
  have hb2 := (Below.refl _ (w1.alloc (.cells #[.slice (some ⟨g1, 0, none⟩) zs.length zs.length, .int .i64 (M : Int)] 36))).alloc (Nat.le_refl _) (.cells #[.slice (some ⟨g2, 0, none⟩) zs.length zs.length, .int .i64 (M : Int)] 36)
  have H7 := Lib.hid (T7.step hb2)
  have hb3 := below_trans hb1 hb2
  replace HO1 := Lib.hid (HO1.out.step hb3)
  replace HO2 := Lib.hid (HO2.out.step hb3)
  replace HPM := Lib.hid (HPM.out.step hb3)
  replace HW := Lib.hid (within_below6 HW.out hb3)
  clear T7 hb1 hb2 hb3
  by_cases hle : a2 ≤ a1
  · skip
    have E : Hid (nofL M zs k = 1 + a1) := Lib.hid (by rw [HV.out]; omega)
    have hleI : (a2 : Int) ≤ (a1 : Int) := by omega
    clear HV
    go_wp2_with fail
    generalize (w1.alloc (.cells #[.slice (some ⟨g1, 0, none⟩) zs.length zs.length, .int .i64 (M : Int)] 36)).alloc (.cells #[.slice (some ⟨g2, 0, none⟩) zs.length zs.length, .int .i64 (M : Int)] 36) = w2 at H7 H8 HO1 HO2 HPM HW ⊢
    go_region_held3 (fun w' => w'.cell? ⟨w1.heap.size, 0, none⟩ = some (.slice (some ⟨g1, 0, none⟩) zs.length zs.length) ∧ w'.cell? ⟨w1.heap.size, 1, none⟩ = some (.int .i64 (M : Int)) ∧ w'.cell? ⟨w1.heap.size + 1, 0, none⟩ = some (.slice (some ⟨g2, 0, none⟩) zs.length zs.length) ∧ w'.cell? ⟨w1.heap.size + 1, 1, none⟩ = some (.int .i64 (M : Int)))
      (first
       | exact ⟨(H7.out.step (Below.refl _ w2).drew).c0, (H7.out.step (Below.refl _ w2).drew).c1, (H8.out.step (Below.refl _ w2).drew).c0, (H8.out.step (Below.refl _ w2).drew).c1⟩
       | exact ⟨(H7.out.within HZ1.out (.inr (by omega))).c0, (H7.out.within HZ1.out (.inr (by omega))).c1, (H8.out.within HZ1.out (.inr (by omega))).c0, (H8.out.within HZ1.out (.inr (by omega))).c1⟩
       | exact ⟨(H7.out.within HZ2.out (.inr (by omega))).c0, (H7.out.within HZ2.out (.inr (by omega))).c1, (H8.out.within HZ2.out (.inr (by omega))).c0, (H8.out.within HZ2.out (.inr (by omega))).c1⟩)
      (first
       | (go_at_call 124; refine (HP2.out g2 zs.length _ HPM1.out (HO2.out.within HZ1.out (.inr hgg2)) hgg2).mono ?_; rintro e w6 ⟨rfl, hpm6, hw6⟩; have HPM2 := Lib.hid hpm6; have HZ2 := Lib.hid (HZ1.out.trans hw6); clear hpm6 hw6)
       | (go_at_call 124; refine (HP1.out g1 zs.length _ (HPM.out.step (Below.refl _ w2).drew) (HO1.out.step (Below.refl _ w2).drew) hgg1).mono ?_; rintro e w5 ⟨rfl, hpm5, hw5⟩; have HPM1 := Lib.hid hpm5; have HZ1 : Hid (Within B (B + 1) w2 w5) := Lib.hid ((Within.of_below (Below.refl _ w2).drew).trans hw5); clear hpm5 hw5))
    all_goals
      go_wp2
      all_goals
        go_ret
        exact ⟨by rw [E.out]; first | rfl | (simp; rw [IntWalk.i64_in _ (by omega)]; omega), HPM2.out, HW.out.trans HZ2.out⟩
  · skip
    have E : Hid (nofL M zs k = 1 + a2) := Lib.hid (by rw [HV.out]; omega)
    have hleI : (a1 : Int) < (a2 : Int) := by omega
    clear HV
    go_wp2_with fail
    generalize (w1.alloc (.cells #[.slice (some ⟨g1, 0, none⟩) zs.length zs.length, .int .i64 (M : Int)] 36)).alloc (.cells #[.slice (some ⟨g2, 0, none⟩) zs.length zs.length, .int .i64 (M : Int)] 36) = w2 at H7 H8 HO1 HO2 HPM HW ⊢
    go_region_held3 (fun w' => w'.cell? ⟨w1.heap.size, 0, none⟩ = some (.slice (some ⟨g1, 0, none⟩) zs.length zs.length) ∧ w'.cell? ⟨w1.heap.size, 1, none⟩ = some (.int .i64 (M : Int)) ∧ w'.cell? ⟨w1.heap.size + 1, 0, none⟩ = some (.slice (some ⟨g2, 0, none⟩) zs.length zs.length) ∧ w'.cell? ⟨w1.heap.size + 1, 1, none⟩ = some (.int .i64 (M : Int)))
      (first
       | exact ⟨(H7.out.step (Below.refl _ w2).drew).c0, (H7.out.step (Below.refl _ w2).drew).c1, (H8.out.step (Below.refl _ w2).drew).c0, (H8.out.step (Below.refl _ w2).drew).c1⟩
       | exact ⟨(H7.out.within HZ1.out (.inr (by omega))).c0, (H7.out.within HZ1.out (.inr (by omega))).c1, (H8.out.within HZ1.out (.inr (by omega))).c0, (H8.out.within HZ1.out (.inr (by omega))).c1⟩
       | exact ⟨(H7.out.within HZ2.out (.inr (by omega))).c0, (H7.out.within HZ2.out (.inr (by omega))).c1, (H8.out.within HZ2.out (.inr (by omega))).c0, (H8.out.within HZ2.out (.inr (by omega))).c1⟩)
      (first
       | (go_at_call 124; refine (HP2.out g2 zs.length _ HPM1.out (HO2.out.within HZ1.out (.inr hgg2)) hgg2).mono ?_; rintro e w6 ⟨rfl, hpm6, hw6⟩; have HPM2 := Lib.hid hpm6; have HZ2 := Lib.hid (HZ1.out.trans hw6); clear hpm6 hw6)
       | (go_at_call 124; refine (HP1.out g1 zs.length _ (HPM.out.step (Below.refl _ w2).drew) (HO1.out.step (Below.refl _ w2).drew) hgg1).mono ?_; rintro e w5 ⟨rfl, hpm5, hw5⟩; have HPM1 := Lib.hid hpm5; have HZ1 : Hid (Within B (B + 1) w2 w5) := Lib.hid ((Within.of_below (Below.refl _ w2).drew).trans hw5); clear hpm5 hw5))
    all_goals
      go_wp2
      all_goals
        go_ret
        exact ⟨by rw [E.out]; first | rfl | (simp; rw [IntWalk.i64_in _ (by omega)]; omega), HPM2.out, HW.out.trans HZ2.out⟩
end Go.Proofs.Ytdkffkgoalgjmab
