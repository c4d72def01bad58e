/- planOf of one-way plans: a loop by goto; by the mass of the counts. -/
import Derived.Test.YtdkffkgoalgjmacL10P
import Derived.Test.YtdkffkgoalgjmacPlanOf
import Derived.ScopeJumps
import Derived.WalkMore
namespace Go.Proofs.Ytdkffkgoalgjmac
open Go.RowKit Go.ChangeShapes Go.WideShapes Go.Maps
set_option linter.unusedVariables false

theorem least_nat {p : Nat → Prop} : ∀ (n : Nat), p n → ∃ m, p m ∧ ∀ k, p k → m ≤ k := by
  intro n
  induction n using Nat.strongRecOn with
  | _ n ih =>
    intro h
    by_cases hk : ∃ k, k < n ∧ p k
    · obtain ⟨k, hk, hp⟩ := hk
      exact ih k hk hp
    · exact ⟨n, h, fun k hp => by
        rcases Nat.lt_or_ge k n with h2 | h2
        · exact absurd ⟨k, h2, hp⟩ hk
        · exact h2⟩
/-- A scope with jumps back to one label, a number of no part of the frame is less at each. -/
theorem scope_jumps_by {P : Program} {a : Act} {w : World} {Q : Exit → Act → World → Prop} {c rest : Code} (l : Nat) (J : Nat → Act → World → Prop) (hf : findLabel c l = some (Code.skip.seq rest))
    (pass : ∀ g a w, J g a w → rest.wp P (Exit.jump l (fun a' w' => ∃ g', g' < g ∧ J g' a' w') Q) a w)
    (first : (∀ g a w, J g a w → rest.wp P (Exit.jump l (fun a w => ∃ g, J g a w) Q) a w) → c.wp P (Exit.jump l (fun a w => ∃ g, J g a w) Q) a w) : (Code.scope c).wp P Q a w := by
  have hch : ∀ a w, ∃ m, (∃ g, J g a w) → J m a w ∧ ∀ k, J k a w → m ≤ k := fun a w => by
    by_cases h : ∃ g, J g a w
    · obtain ⟨g, hg⟩ := h
      obtain ⟨m, h1, h2⟩ := least_nat (p := fun g => J g a w) g hg
      exact ⟨m, fun _ => ⟨h1, h2⟩⟩
    · exact ⟨0, fun h2 => absurd h2 h⟩
  refine wp_scope_jumps l (fun a w => ∃ g, J g a w) (fun a w => Classical.choose (hch a w)) hf (first fun g a w hJ => ?_) ?_
  · refine Code.wp_mono ?_ (pass g a w hJ)
    intro e a' w' h
    cases e with
    | goto l' => exact ⟨h.1, h.2.choose, h.2.choose_spec.2⟩
    | normal => exact h
    | exit id => exact h
    | ret => exact h
    | panic ch => exact h
    | outgrown => exact h
  intro a w hJ
  have hm := Classical.choose_spec (hch a w) hJ
  refine wp_seq (wp_skip ?_)
  refine Code.wp_mono ?_ (pass _ a w hm.1)
  intro e a' w' h
  cases e with
  | goto l' =>
    obtain ⟨h1, g', h2, h3⟩ := h
    refine ⟨h1, ⟨g', h3⟩, ?_⟩
    have := (Classical.choose_spec (hch a' w') ⟨g', h3⟩).2 g' h3
    omega
  | normal => exact h
  | exit id => exact h
  | ret => exact h
  | panic ch => exact h
  | outgrown => exact h
theorem cnt_three {r : Row} (h8 : rsum r ≤ 8) (h : 1 < rsum r) : 3 ≤ cntR r := by
  have : allR (fun r => decide (rsum r ≤ 1) || decide (3 ≤ cntR r)) = true := by decide +kernel
  have := allR_at this h8
  simp only [Bool.or_eq_true, decide_eq_true_eq] at this
  omega
theorem three_cnt {r : Row} (h8 : rsum r ≤ 8) (h : 3 ≤ cntR r) : 1 < rsum r := by
  have : allR (fun r => decide (cntR r ≤ 2) || decide (1 < rsum r)) = true := by decide +kernel
  have := allR_at this h8
  simp only [Bool.or_eq_true, decide_eq_true_eq] at this
  omega
theorem planFO_more {r : Row} {i : Nat} (h : 1 ≤ i) : planFO r i = (planFO r (i - 1)).or (byO r (splitR r i)) := by
  obtain ⟨j, rfl⟩ : ∃ j, i = j + 1 := ⟨i - 1, by omega⟩
  rfl
structure LWO (w0 : World) (M b7 b8 : Nat) (r s : Row) (p : PlanO) (W : World) : Prop where
  pm : PlanMO W M
  t3 : Three W w0.heap.size (.int .i64 (r.1 : Int)) (.int .i64 (r.2.1 : Int)) (.int .i64 (r.2.2 : Int))
  t4 : FiveO W (w0.heap.size + 1) (.int .i64 0) (.int .i64 0) (.int .i64 0) (.int .i64 0) (.int .i64 0)
  t7 : FiveO W b7 (.int .i64 (p.need : Int)) (.int .i64 (p.few : Int)) (.int .i64 (p.first.1 : Int)) (.int .i64 (p.first.2.1 : Int)) (.int .i64 (p.first.2.2 : Int))
  t8 : Three W b8 (.int .i64 (s.1 : Int)) (.int .i64 (s.2.1 : Int)) (.int .i64 (s.2.2 : Int))
  wi : Within M (M + 1) w0 W
theorem LWO.step {w0 W W' : World} {M b7 b8 : Nat} {r s : Row} {p : PlanO} (h : LWO w0 M b7 b8 r s p W) (hM : M < w0.heap.size) (h7 : w0.heap.size + 1 < b7) (h8 : w0.heap.size + 1 < b8) (hw : Within M (M + 1) W W') (pm : PlanMO W' M) : LWO w0 M b7 b8 r s p W' :=
  ⟨pm, h.t3.within hw (.inr (by omega)), h.t4.within hw (.inr (by omega)), h.t7.within hw (.inr (by omega)), h.t8.within hw (.inr (by omega)), h.wi.trans hw⟩
theorem LWO.below {w0 W W' : World} {M b7 b8 : Nat} {r s : Row} {p : PlanO} (h : LWO w0 M b7 b8 r s p W) (hM : M < w0.heap.size) (h7 : w0.heap.size + 1 < b7) (h8 : w0.heap.size + 1 < b8) (hb : Below W.heap.size W W') : LWO w0 M b7 b8 r s p W' :=
  h.step hM h7 h8 (Within.of_below hb) (h.pm.step hb)
theorem LWO.set7 {w0 W : World} {M b7 b8 : Nat} {r s : Row} {p : PlanO} (h : LWO w0 M b7 b8 r s p W) (hM : M < w0.heap.size) (h7 : w0.heap.size + 1 < b7) (h78 : b8 ≠ b7) (q : PlanO) : LWO w0 M b7 b8 r s q (((((W.setCell ⟨b7, 0, none⟩ (.int .i64 (q.need : Int))).setCell ⟨b7, 1, none⟩ (.int .i64 (q.few : Int))).setCell ⟨b7, 2, none⟩ (.int .i64 (q.first.1 : Int))).setCell ⟨b7, 3, none⟩ (.int .i64 (q.first.2.1 : Int))).setCell ⟨b7, 4, none⟩ (.int .i64 (q.first.2.2 : Int))) := by
  have e : (((((W.setCell ⟨b7, 0, none⟩ (.int .i64 (q.need : Int))).setCell ⟨b7, 1, none⟩ (.int .i64 (q.few : Int))).setCell ⟨b7, 2, none⟩ (.int .i64 (q.first.1 : Int))).setCell ⟨b7, 3, none⟩ (.int .i64 (q.first.2.1 : Int))).setCell ⟨b7, 4, none⟩ (.int .i64 (q.first.2.2 : Int))) = set5 W b7 (.int .i64 (q.need : Int)) (.int .i64 (q.few : Int)) (.int .i64 (q.first.1 : Int)) (.int .i64 (q.first.2.1 : Int)) (.int .i64 (q.first.2.2 : Int)) := rfl
  rw [e]
  exact ⟨h.pm.heap (block_set5 (by omega) _ _ _ _ _), h.t3.farO5 (by omega) _ _ _ _ _, h.t4.far5 (by omega) _ _ _ _ _, h.t7.set _ _ _ _ _, h.t8.farO5 h78 _ _ _ _ _, within_farO5 h.wi (by omega) _ _ _ _ _⟩
theorem LWO.set8 {w0 W : World} {M b7 b8 : Nat} {r s : Row} {p : PlanO} (h : LWO w0 M b7 b8 r s p W) (hM : M < w0.heap.size) (h8 : w0.heap.size + 1 < b8) (h78 : b8 ≠ b7) (t : Row) : LWO w0 M b7 b8 r t p (((W.setCell ⟨b8, 0, none⟩ (.int .i64 (t.1 : Int))).setCell ⟨b8, 1, none⟩ (.int .i64 (t.2.1 : Int))).setCell ⟨b8, 2, none⟩ (.int .i64 (t.2.2 : Int))) := by
  have hk : ∀ b, b ≠ b8 → (((W.setCell ⟨b8, 0, none⟩ (.int .i64 (t.1 : Int))).setCell ⟨b8, 1, none⟩ (.int .i64 (t.2.1 : Int))).setCell ⟨b8, 2, none⟩ (.int .i64 (t.2.2 : Int))).heap[b]? = W.heap[b]? := fun b hb => by
    rw [Below.heap_setCell _ ⟨b8, 2, none⟩ _ b hb, Below.heap_setCell _ ⟨b8, 1, none⟩ _ b hb, Below.heap_setCell _ ⟨b8, 0, none⟩ _ b hb]
  exact ⟨h.pm.heap (hk _ (by omega)), ⟨(hk _ (by omega)).trans h.t3.row⟩, h.t4.keep (hk _ (by omega)), h.t7.keep (hk _ (fun e => h78 e.symm)), h.t8.set _ _ _, within_farO (within_farO (within_farO h.wi (by omega) _ _) (by omega) _ _) (by omega) _ _⟩
/-- What planOf hands back: a plan stored in the result's block. -/
theorem LWO.fin {w0 W : World} {M b7 b8 : Nat} {r s : Row} {p : PlanO} (h : LWO w0 M b7 b8 r s p W) (hM : M < w0.heap.size) (q : PlanO) :
    FiveO (((((W.setCell ⟨w0.heap.size + 1, 0, none⟩ (.int .i64 (q.need : Int))).setCell ⟨w0.heap.size + 1, 1, none⟩ (.int .i64 (q.few : Int))).setCell ⟨w0.heap.size + 1, 2, none⟩ (.int .i64 (q.first.1 : Int))).setCell ⟨w0.heap.size + 1, 3, none⟩ (.int .i64 (q.first.2.1 : Int))).setCell ⟨w0.heap.size + 1, 4, none⟩ (.int .i64 (q.first.2.2 : Int))) (w0.heap.size + 1) (.int .i64 (q.need : Int)) (.int .i64 (q.few : Int)) (.int .i64 (q.first.1 : Int)) (.int .i64 (q.first.2.1 : Int)) (.int .i64 (q.first.2.2 : Int)) ∧ PlanMO (((((W.setCell ⟨w0.heap.size + 1, 0, none⟩ (.int .i64 (q.need : Int))).setCell ⟨w0.heap.size + 1, 1, none⟩ (.int .i64 (q.few : Int))).setCell ⟨w0.heap.size + 1, 2, none⟩ (.int .i64 (q.first.1 : Int))).setCell ⟨w0.heap.size + 1, 3, none⟩ (.int .i64 (q.first.2.1 : Int))).setCell ⟨w0.heap.size + 1, 4, none⟩ (.int .i64 (q.first.2.2 : Int))) M ∧ Within M (M + 1) w0 (((((W.setCell ⟨w0.heap.size + 1, 0, none⟩ (.int .i64 (q.need : Int))).setCell ⟨w0.heap.size + 1, 1, none⟩ (.int .i64 (q.few : Int))).setCell ⟨w0.heap.size + 1, 2, none⟩ (.int .i64 (q.first.1 : Int))).setCell ⟨w0.heap.size + 1, 3, none⟩ (.int .i64 (q.first.2.1 : Int))).setCell ⟨w0.heap.size + 1, 4, none⟩ (.int .i64 (q.first.2.2 : Int))) := by
  have e : (((((W.setCell ⟨w0.heap.size + 1, 0, none⟩ (.int .i64 (q.need : Int))).setCell ⟨w0.heap.size + 1, 1, none⟩ (.int .i64 (q.few : Int))).setCell ⟨w0.heap.size + 1, 2, none⟩ (.int .i64 (q.first.1 : Int))).setCell ⟨w0.heap.size + 1, 3, none⟩ (.int .i64 (q.first.2.1 : Int))).setCell ⟨w0.heap.size + 1, 4, none⟩ (.int .i64 (q.first.2.2 : Int))) = set5 W (w0.heap.size + 1) (.int .i64 (q.need : Int)) (.int .i64 (q.few : Int)) (.int .i64 (q.first.1 : Int)) (.int .i64 (q.first.2.1 : Int)) (.int .i64 (q.first.2.2 : Int)) := rfl
  rw [e]
  exact ⟨h.t4.set _ _ _ _ _, h.pm.heap (block_set5 (by omega) _ _ _ _ _), within_farO5 h.wi (Nat.le_succ _) _ _ _ _ _⟩
set_option maxRecDepth 100000 in
set_option maxHeartbeats 16000000 in
theorem planOfO_step (m : Nat) (HP : PlanLessO m) (r : Row) (hr : massR r < m + 1) (h8 : rsum r ≤ 8) (w : World) (M : Nat) (hpm : PlanMO w M) :
    Calls Try.prog 141 #[.map (some M), .agg #[.int .i64 (r.1 : Int), .int .i64 (r.2.1 : Int), .int .i64 (r.2.2 : Int)]] w fun e w' => e = .returned (planVO (planO r)) ∧ PlanMO w' M ∧ Within M (M + 1) w w' := by
  have hM := hpm.lt
  have B1 := (Below.refl w.heap.size w).alloc (Nat.le_refl _) (.cells #[.int .i64 (r.1 : Int), .int .i64 (r.2.1 : Int), .int .i64 (r.2.2 : Int)] 102)
  have T1 := Three.new w (.int .i64 (r.1 : Int)) (.int .i64 (r.2.1 : Int)) (.int .i64 (r.2.2 : Int)) w.heap.size rfl
  have B2 := B1.alloc B1.size (.cells #[.int .i64 0, .int .i64 0, .int .i64 0, .int .i64 0, .int .i64 0] 104)
  have S1 := (Below.refl _ (w.alloc (.cells #[.int .i64 (r.1 : Int), .int .i64 (r.2.1 : Int), .int .i64 (r.2.2 : Int)] 102))).alloc (Nat.le_refl _) (.cells #[.int .i64 0, .int .i64 0, .int .i64 0, .int .i64 0, .int .i64 0] 104)
  have HT3 := Lib.hid (T1.step S1)
  have HT4 := Lib.hid (FiveO.new (w.alloc (.cells #[.int .i64 (r.1 : Int), .int .i64 (r.2.1 : Int), .int .i64 (r.2.2 : Int)] 102)) (.int .i64 0) (.int .i64 0) (.int .i64 0) (.int .i64 0) (.int .i64 0) (w.heap.size + 1) (by simp))
  have HPM := Lib.hid (hpm.below B2 hM)
  have HWI := Lib.hid (Within.of_below B2 : Within M (M + 1) w _)
  have HC := Lib.hid (fun W => isTold_any r W h8)
  have HBq := Lib.hid (fun i (h : i < cntR r) => show (byO r (splitR r i)).need ≤ 20 by
    have h1 := needO_le (fit_sum h8 (split_fits h8 h))
    have h2 := needO_le (yes_sum h8 (split_fits h8 h)).2
    simp only [byO, valO]
    omega)
  have HBp := Lib.hid (fun i (h : i ≤ cntR r) => (planFO_bd h8 h).1)
  have HBy : Hid (1 < rsum r → ∀ i, 1 ≤ i → i + 2 ≤ cntR r → ∀ W, PlanMO W M → _) := Lib.hid (fun h1 i hi1 hi2 W hp => planBy_of m HP r (splitR r i) W M h8 (split_fits h8 (by omega)) (by
    have := massO_yes (split_fits h8 (show i < cntR r by omega)) (fun e => by have := ((split_ends h8 h1).2.2 i (by omega)).1 e; omega)
    omega) (by
    have := massO_no (split_fits h8 (show i < cntR r by omega)) (fun e => by have := ((split_ends h8 h1).2.1 i (by omega)).1 e; omega)
    omega) hp)
  have HSA : Hid (∀ i, i + 1 < cntR r → ∀ W, Calls Try.prog 160 #[.agg #[.int .i64 (r.1 : Int), .int .i64 (r.2.1 : Int), .int .i64 (r.2.2 : Int)], .agg #[.int .i64 ((splitR r i).1 : Int), .int .i64 ((splitR r i).2.1 : Int), .int .i64 ((splitR r i).2.2 : Int)]] W fun e w' => e = .returned (.tuple #[.agg #[.int .i64 ((splitR r (i + 1)).1 : Int), .int .i64 ((splitR r (i + 1)).2.1 : Int), .int .i64 ((splitR r (i + 1)).2.2 : Int)], .bool true]) ∧ Below W.heap.size W w') := Lib.hid (fun i hi W => by
    have h := splitAfter_at r i W h8 (by omega)
    rw [show atR r (i + 1) = splitR r (i + 1) from if_pos hi, decide_eq_true hi] at h
    exact h)
  have HEnd1 : Hid (1 < rsum r → ∀ i, i + 2 ≤ cntR r → i + 2 = cntR r → ∀ W : World, (Op.equalIn 10000 102 (.agg #[.int .i64 ((splitR r (i + 1)).1 : Int), .int .i64 ((splitR r (i + 1)).2.1 : Int), .int .i64 ((splitR r (i + 1)).2.2 : Int)]) (.agg #[.int .i64 (r.1 : Int), .int .i64 (r.2.1 : Int), .int .i64 (r.2.2 : Int)])).run Try.prog W = .ok true W) := Lib.hid (fun h1 i hi he W => by
    rw [eq_row, row_dec, decide_eq_true (((split_ends h8 h1).2.2 (i + 1) (by omega)).2 (by omega))])
  have HEnd2 : Hid (1 < rsum r → ∀ i, i + 2 ≤ cntR r → ¬ i + 2 = cntR r → ∀ W : World, (Op.equalIn 10000 102 (.agg #[.int .i64 ((splitR r (i + 1)).1 : Int), .int .i64 ((splitR r (i + 1)).2.1 : Int), .int .i64 ((splitR r (i + 1)).2.2 : Int)]) (.agg #[.int .i64 (r.1 : Int), .int .i64 (r.2.1 : Int), .int .i64 (r.2.2 : Int)])).run Try.prog W = .ok false W) := Lib.hid (fun h1 i hi he W => by
    rw [eq_row, row_dec, decide_eq_false (fun e => he (by have := ((split_ends h8 h1).2.2 (i + 1) (by omega)).1 e; omega))])
  have HE := Lib.hid (@planO_asks r)
  have HE1 := Lib.hid (@planO_told r)
  have HSE := Lib.hid (fun h1 => split_ends h8 h1)
  have HC3 := Lib.hid (fun h1 => cnt_three h8 h1)
  have HC1 := Lib.hid (fun h3 => three_cnt h8 h3)
  clear B1 T1 B2 S1 hpm HP hr
  go_enter Try.func141, Try.ntmps141
  go_wp2_with fail
  generalize (w.alloc (.cells #[.int .i64 (r.1 : Int), .int .i64 (r.2.1 : Int), .int .i64 (r.2.2 : Int)] 102)).alloc (.cells #[.int .i64 0, .int .i64 0, .int .i64 0, .int .i64 0, .int .i64 0] 104) = wa at HT3 HT4 HPM HWI ⊢
  refine scope_jumps_by 0 (fun g a' w' => ∃ (i b5 b7 b8 : Nat) (u9 u10 u11 u12 u13 u14 u15 u16 u17 u18 u19 u20 u21 u22 u23 u24 u25 u26 u27 u28 u29 u30 u31 u32 u33 u34 u35 u36 u37 u38 u39 u40 u41 u42 u43 u44 u45 u46 u47 u48 u49 u50 u51 : Value), g = cntR r - i ∧ 1 ≤ i ∧ i + 2 ≤ cntR r ∧ w.heap.size + 1 < b7 ∧ w.heap.size + 1 < b8 ∧ b8 ≠ b7 ∧ a' = { tmps := #[.map (some M), .agg #[.int .i64 (r.1 : Int), .int .i64 (r.2.1 : Int), .int .i64 (r.2.2 : Int)], undef, .pointer (some ⟨w.heap.size, 0, none⟩), .pointer (some ⟨w.heap.size + 1, 0, none⟩), .pointer (some ⟨b5, 0, none⟩), .bool false, .pointer (some ⟨b7, 0, none⟩), .pointer (some ⟨b8, 0, none⟩), u9, u10, u11, u12, u13, u14, u15, u16, u17, u18, u19, u20, u21, u22, u23, u24, u25, u26, u27, u28, u29, u30, u31, u32, u33, u34, u35, u36, u37, u38, u39, u40, u41, u42, u43, u44, u45, u46, u47, u48, u49, u50, u51, undef, undef, undef, undef], defers := [] } ∧ Hid (LWO w M b7 b8 r (splitR r i) (planFO r (i - 1)) w')) rfl ?pass ?first
  case pass =>
    clear HT3 HT4 HPM HWI HC HE1 HSE HC3
    intro g a2 w2 hJ
    obtain ⟨i, b5, b7, b8, u9, u10, u11, u12, u13, u14, u15, u16, u17, u18, u19, u20, u21, u22, u23, u24, u25, u26, u27, u28, u29, u30, u31, u32, u33, u34, u35, u36, u37, u38, u39, u40, u41, u42, u43, u44, u45, u46, u47, u48, u49, u50, u51, hg, hi1, hi2, hb7, hb8, h78, rfl, HLW⟩ := hJ
    subst hg
    generalize hQ : Exit.jump 0 _ _ = QQ
    have HQ := Lib.hid hQ
    clear hQ
    have hs0 := HLW.out.t3.c0
    have hs1 := HLW.out.t3.c1
    have hs2 := HLW.out.t3.c2
    have ht0 := HLW.out.t8.c0
    have ht1 := HLW.out.t8.c1
    have ht2 := HLW.out.t8.c2
    have h1 : 1 < rsum r := HC1.out (by omega)
    have HByi := Lib.hid (HBy.out h1 i hi1 hi2)
    have HSAi := Lib.hid (HSA.out i (by omega))
    have HOi := Lib.hid (planFO_more (r := r) hi1)
    have hbq := HBq.out i (by omega)
    have hbp := HBp.out (i - 1) (by omega)
    have HNx : Hid (splitR r (i + 1) = splitR r (i + 1)) := Lib.hid rfl
    have HEq1 := Lib.hid (HEnd1.out h1 i hi2)
    have HEq2 := Lib.hid (HEnd2.out h1 i hi2)
    have HNp : Hid (planFO r (i + 1 - 1) = planFO r i) := Lib.hid (by rw [Nat.add_sub_cancel])
    generalize hnx : splitR r (i + 1) = nx at HSAi HEq1 HEq2
    replace HNx : Hid (LWO w M b7 b8 r nx (planFO r i) = LWO w M b7 b8 r (splitR r (i + 1)) (planFO r (i + 1 - 1))) := Lib.hid (by rw [HNp.out, hnx])
    clear hnx HNp
    generalize hpi : planFO r i = pi at HOi HNx
    have HPi := Lib.hid hpi
    clear hpi
    generalize planFO r (i - 1) = p at HLW HOi hbp
    generalize byO r (splitR r i) = q at HByi HOi hbq
    generalize splitR r i = s at HLW HByi HSAi ht0 ht1 ht2
    go_wp2_with fail
    refine (HByi.out _ HLW.out.pm).mono ?_
    rintro e v1 ⟨rfl, hpm1, hw1⟩
    have HL1 := Lib.hid (HLW.out.step hM hb7 hb8 hw1 hpm1)
    clear hpm1 hw1 HByi hs0 hs1 hs2 ht0 ht1 ht2
    have hA := (Below.refl v1.heap.size v1).alloc (Nat.le_refl _) (.cells #[.int .i64 (q.need : Int), .int .i64 (q.few : Int), .int .i64 (q.first.1 : Int), .int .i64 (q.first.2.1 : Int), .int .i64 (q.first.2.2 : Int)] 104)
    have HF10 := Lib.hid (FiveO.new v1 (.int .i64 (q.need : Int)) (.int .i64 (q.few : Int)) (.int .i64 (q.first.1 : Int)) (.int .i64 (q.first.2.1 : Int)) (.int .i64 (q.first.2.2 : Int)) v1.heap.size rfl)
    have HL2 := Lib.hid (HL1.out.below hM hb7 hb8 hA)
    have hv10 : b7 < v1.heap.size := HL1.out.t7.lt
    clear hA
    simp only [planVO]
    have c0 := HF10.out.c0
    have c1 := HF10.out.c1
    have c2 := HF10.out.c2
    have c3 := HF10.out.c3
    have c4 := HF10.out.c4
    have d0 := HL2.out.t7.c0
    have k0 := HL2.out.t7.f 0
    have d1 := HL2.out.t7.c1
    have k1 := HL2.out.t7.f 1
    have d2 := HL2.out.t7.c2
    have k2 := HL2.out.t7.f 2
    have d3 := HL2.out.t7.c3
    have k3 := HL2.out.t7.f 3
    have d4 := HL2.out.t7.c4
    have k4 := HL2.out.t7.f 4
    go_upto_region 9 with fail
    generalize v1.alloc (.cells #[.int .i64 (q.need : Int), .int .i64 (q.few : Int), .int .i64 (q.first.1 : Int), .int .i64 (q.first.2.1 : Int), .int .i64 (q.first.2.2 : Int)] 104) = v2 at HF10 HL2 c0 c1 c2 c3 c4 d0 d1 d2 d3 d4 k0 k1 k2 k3 k4 ⊢
    have hpart : (p.need = 0 ∨ (p.need ≠ 0 ∧ q.need < p.need)) ∨ (p.need ≠ 0 ∧ ¬ q.need < p.need) := by omega
    rcases hpart with hpart | ⟨hz, hl⟩
    · have HL3 := Lib.hid (HL2.out.set7 hM hb7 h78 q)
      have hor : pi = q := by rw [HOi.out]; unfold PlanO.or; rw [if_pos (by omega)]
      rw [← hor] at HL3
      rcases hpart with hz | ⟨hz, hl⟩
      all_goals
        go_upto_region 11 with fail
        rw [hor] at HL3
        generalize (((((v2.setCell ⟨b7, 0, none⟩ (.int .i64 (q.need : Int))).setCell ⟨b7, 1, none⟩ (.int .i64 (q.few : Int))).setCell ⟨b7, 2, none⟩ (.int .i64 (q.first.1 : Int))).setCell ⟨b7, 3, none⟩ (.int .i64 (q.first.2.1 : Int))).setCell ⟨b7, 4, none⟩ (.int .i64 (q.first.2.2 : Int))) = v22 at HL3 ⊢
        rw [← hor] at HL3
        clear hor HOi c0 c1 c2 c3 c4 d0 d1 d2 d3 d4 k0 k1 k2 k3 k4 HF10 HL2
        have t0 := HL3.out.t3.c0
        have t1 := HL3.out.t3.c1
        have t2 := HL3.out.t3.c2
        have x0 := HL3.out.t8.c0
        have x1 := HL3.out.t8.c1
        have x2 := HL3.out.t8.c2
        go_wp2_with fail
        refine (HSAi.out _).mono ?_
        rintro e v3 ⟨rfl, hb3⟩
        have HL4 := Lib.hid (HL3.out.below hM hb7 hb8 hb3)
        clear hb3 t0 t1 t2 x0 x1 x2
        have x0 := HL4.out.t8.c0
        have x1 := HL4.out.t8.c1
        have x2 := HL4.out.t8.c2
        have y0 := HL4.out.t8.f 0
        have y1 := HL4.out.t8.f 1
        have y2 := HL4.out.t8.f 2
        have HL5 := Lib.hid (HL4.out.set8 hM hb8 h78 nx)
        go_upto_region 12 with fail
        generalize (((v3.setCell ⟨b8, 0, none⟩ (.int .i64 (nx.1 : Int))).setCell ⟨b8, 1, none⟩ (.int .i64 (nx.2.1 : Int))).setCell ⟨b8, 2, none⟩ (.int .i64 (nx.2.2 : Int))) = v4 at HL5 ⊢
        clear x0 x1 x2 y0 y1 y2
        have t0 := HL5.out.t3.c0
        have t1 := HL5.out.t3.c1
        have t2 := HL5.out.t3.c2
        have x0 := HL5.out.t8.c0
        have x1 := HL5.out.t8.c1
        have x2 := HL5.out.t8.c2
        by_cases hend : i + 2 = cntR r
        · have heq := HEq1.out hend
          have HL6 : Hid (LWO w M b7 b8 r nx (planO r) v4) := Lib.hid (by rw [HE.out h1, show cntR r - 2 = i from by omega, HPi.out]; exact HL5.out)
          have d0 := HL6.out.t7.c0
          have d1 := HL6.out.t7.c1
          have d2 := HL6.out.t7.c2
          have d3 := HL6.out.t7.c3
          have d4 := HL6.out.t7.c4
          obtain ⟨D2, hD2⟩ := HL6.out.pm
          have HD2 := Lib.hid hD2
          have hsz : Maps.size D2 < maxLen := by
            have h1 := hD2.size
            have h2 := cntM_le D2
            unfold maxLen
            omega
          have hown := hD2.owns
          have hkey := keyRow h8
          clear hD2
          go_wp2_with (first
            | (at_mapUpdate; refine wpList_mapUpdate_own _ rfl _ _ _ 117 rfl 102 104 keyedRow Try.underlying117 heldR M (Maps.size D2) D2 rfl hown hsz _ _ (klR r) rfl rfl hkey (.held (planVO (planO r))) [] rfl ?_; intro w9 hown9 hg9; have HP9 := Lib.hid (HD2.out.put h8 hown9); have HL9 := Lib.hid (HL6.out.step hM hb7 hb8 (within_put hg9) HP9.out); have HUV := Lib.hid HL9.out.t4; have HUW := Lib.hid HL9.out.t7; clear hown9 hg9 hown; have m0 := HUW.out.c0; have m1 := HUW.out.c1; have m2 := HUW.out.c2; have m3 := HUW.out.c3; have m4 := HUW.out.c4; have z0 := HUV.out.c0; have f0 := HUV.out.f 0; have z1 := HUV.out.c1; have f1 := HUV.out.f 1; have z2 := HUV.out.c2; have f2 := HUV.out.f 2; have z3 := HUV.out.c3; have f3 := HUV.out.f 3; have z4 := HUV.out.c4; have f4 := HUV.out.f 4))
          have hfin := HL9.out.fin hM (planO r)
          generalize (((((w9.setCell ⟨w.heap.size + 1, 0, none⟩ (.int .i64 ((planO r).need : Int))).setCell ⟨w.heap.size + 1, 1, none⟩ (.int .i64 ((planO r).few : Int))).setCell ⟨w.heap.size + 1, 2, none⟩ (.int .i64 ((planO r).first.1 : Int))).setCell ⟨w.heap.size + 1, 3, none⟩ (.int .i64 ((planO r).first.2.1 : Int))).setCell ⟨w.heap.size + 1, 4, none⟩ (.int .i64 ((planO r).first.2.2 : Int))) = wf at hfin ⊢
          obtain ⟨HFn, HPf, HWf⟩ := hfin
          have e0 := HFn.c0
          have e1 := HFn.c1
          have e2 := HFn.c2
          have e3 := HFn.c3
          have e4 := HFn.c4
          rw [← HQ.out]
          simp only [Exit.jump]
          refine bodyPost_ret (v := .agg #[.int .i64 ((planO r).need : Int), .int .i64 ((planO r).few : Int), .int .i64 ((planO r).first.1 : Int), .int .i64 ((planO r).first.2.1 : Int), .int .i64 ((planO r).first.2.2 : Int)]) (by simp [results, go_sem, e0, e1, e2, e3, e4]) rfl ?_
          exact ⟨rfl, HPf, HWf⟩
        · have heq := HEq2.out hend
          go_wp2_with fail
          go_step3
          rw [← HQ.out]
          refine ⟨rfl, cntR r - (i + 1), by omega, i + 1, b5, b7, b8, _, _, _, _, _, _, _, _, _, _, _, _, _, _, _, _, _, _, _, _, _, _, _, _, _, _, _, _, _, _, _, _, _, _, _, _, _, _, _, _, _, _, _, rfl, by omega, by omega, hb7, hb8, h78, rfl, ?_⟩
          have h := HL5.out
          rw [HNx.out] at h
          exact Lib.hid h
    · have hor : pi = p := by rw [HOi.out]; unfold PlanO.or; rw [if_neg (by omega)]
      rw [← hor] at HL2
      go_upto_region 11 with fail
      clear hor HOi c0 c1 c2 c3 c4 d0 d1 d2 d3 d4 k0 k1 k2 k3 k4 HF10
      have t0 := HL2.out.t3.c0
      have t1 := HL2.out.t3.c1
      have t2 := HL2.out.t3.c2
      have x0 := HL2.out.t8.c0
      have x1 := HL2.out.t8.c1
      have x2 := HL2.out.t8.c2
      go_wp2_with fail
      refine (HSAi.out _).mono ?_
      rintro e v3 ⟨rfl, hb3⟩
      have HL4 := Lib.hid (HL2.out.below hM hb7 hb8 hb3)
      clear hb3 t0 t1 t2 x0 x1 x2
      have x0 := HL4.out.t8.c0
      have x1 := HL4.out.t8.c1
      have x2 := HL4.out.t8.c2
      have y0 := HL4.out.t8.f 0
      have y1 := HL4.out.t8.f 1
      have y2 := HL4.out.t8.f 2
      have HL5 := Lib.hid (HL4.out.set8 hM hb8 h78 nx)
      go_upto_region 12 with fail
      generalize (((v3.setCell ⟨b8, 0, none⟩ (.int .i64 (nx.1 : Int))).setCell ⟨b8, 1, none⟩ (.int .i64 (nx.2.1 : Int))).setCell ⟨b8, 2, none⟩ (.int .i64 (nx.2.2 : Int))) = v4 at HL5 ⊢
      clear x0 x1 x2 y0 y1 y2
      have t0 := HL5.out.t3.c0
      have t1 := HL5.out.t3.c1
      have t2 := HL5.out.t3.c2
      have x0 := HL5.out.t8.c0
      have x1 := HL5.out.t8.c1
      have x2 := HL5.out.t8.c2
      by_cases hend : i + 2 = cntR r
      · have heq := HEq1.out hend
        have HL6 : Hid (LWO w M b7 b8 r nx (planO r) v4) := Lib.hid (by rw [HE.out h1, show cntR r - 2 = i from by omega, HPi.out]; exact HL5.out)
        have d0 := HL6.out.t7.c0
        have d1 := HL6.out.t7.c1
        have d2 := HL6.out.t7.c2
        have d3 := HL6.out.t7.c3
        have d4 := HL6.out.t7.c4
        obtain ⟨D2, hD2⟩ := HL6.out.pm
        have HD2 := Lib.hid hD2
        have hsz : Maps.size D2 < maxLen := by
          have h1 := hD2.size
          have h2 := cntM_le D2
          unfold maxLen
          omega
        have hown := hD2.owns
        have hkey := keyRow h8
        clear hD2
        go_wp2_with (first
          | (at_mapUpdate; refine wpList_mapUpdate_own _ rfl _ _ _ 117 rfl 102 104 keyedRow Try.underlying117 heldR M (Maps.size D2) D2 rfl hown hsz _ _ (klR r) rfl rfl hkey (.held (planVO (planO r))) [] rfl ?_; intro w9 hown9 hg9; have HP9 := Lib.hid (HD2.out.put h8 hown9); have HL9 := Lib.hid (HL6.out.step hM hb7 hb8 (within_put hg9) HP9.out); have HUV := Lib.hid HL9.out.t4; have HUW := Lib.hid HL9.out.t7; clear hown9 hg9 hown; have m0 := HUW.out.c0; have m1 := HUW.out.c1; have m2 := HUW.out.c2; have m3 := HUW.out.c3; have m4 := HUW.out.c4; have z0 := HUV.out.c0; have f0 := HUV.out.f 0; have z1 := HUV.out.c1; have f1 := HUV.out.f 1; have z2 := HUV.out.c2; have f2 := HUV.out.f 2; have z3 := HUV.out.c3; have f3 := HUV.out.f 3; have z4 := HUV.out.c4; have f4 := HUV.out.f 4))
        have hfin := HL9.out.fin hM (planO r)
        generalize (((((w9.setCell ⟨w.heap.size + 1, 0, none⟩ (.int .i64 ((planO r).need : Int))).setCell ⟨w.heap.size + 1, 1, none⟩ (.int .i64 ((planO r).few : Int))).setCell ⟨w.heap.size + 1, 2, none⟩ (.int .i64 ((planO r).first.1 : Int))).setCell ⟨w.heap.size + 1, 3, none⟩ (.int .i64 ((planO r).first.2.1 : Int))).setCell ⟨w.heap.size + 1, 4, none⟩ (.int .i64 ((planO r).first.2.2 : Int))) = wf at hfin ⊢
        obtain ⟨HFn, HPf, HWf⟩ := hfin
        have e0 := HFn.c0
        have e1 := HFn.c1
        have e2 := HFn.c2
        have e3 := HFn.c3
        have e4 := HFn.c4
        rw [← HQ.out]
        simp only [Exit.jump]
        refine bodyPost_ret (v := .agg #[.int .i64 ((planO r).need : Int), .int .i64 ((planO r).few : Int), .int .i64 ((planO r).first.1 : Int), .int .i64 ((planO r).first.2.1 : Int), .int .i64 ((planO r).first.2.2 : Int)]) (by simp [results, go_sem, e0, e1, e2, e3, e4]) rfl ?_
        exact ⟨rfl, HPf, HWf⟩
      · have heq := HEq2.out hend
        go_wp2_with fail
        go_step3
        rw [← HQ.out]
        refine ⟨rfl, cntR r - (i + 1), by omega, i + 1, b5, b7, b8, _, _, _, _, _, _, _, _, _, _, _, _, _, _, _, _, _, _, _, _, _, _, _, _, _, _, _, _, _, _, _, _, _, _, _, _, _, _, _, _, _, _, _, rfl, by omega, by omega, hb7, hb8, h78, rfl, ?_⟩
        have h := HL5.out
        rw [HNx.out] at h
        exact Lib.hid h
  case first =>
    intro hgo
    generalize hQ : Exit.jump 0 _ _ = QQ at hgo ⊢
    have HQ := Lib.hid hQ
    clear hQ
    have HGo := Lib.hid hgo
    clear hgo
    have q0 := HT3.out.c0
    have q1 := HT3.out.c1
    have q2 := HT3.out.c2
    go_wp2_with fail
    refine (HC.out wa).mono ?_
    rintro e w1 ⟨rfl, hb1⟩
    replace HT3 := Lib.hid (HT3.out.step hb1)
    replace HT4 := Lib.hid (HT4.out.step hb1)
    replace HPM := Lib.hid (HPM.out.step hb1)
    replace HWI := Lib.hid (HWI.out.trans (Within.of_below hb1))
    clear hb1 HC q0 q1 q2
    by_cases hT : rsum r ≤ 1
    · have E := Lib.hid (HE1.out hT)
      rw [decide_eq_true hT]
      have c0 := HT4.out.c0
      have f0 := HT4.out.f 0
      have c1 := HT4.out.c1
      have f1 := HT4.out.f 1
      have c2 := HT4.out.c2
      have f2 := HT4.out.f 2
      have c3 := HT4.out.c3
      have f3 := HT4.out.f 3
      have c4 := HT4.out.c4
      have f4 := HT4.out.f 4
      go_wp2
      have HF := HT4.out.set (.int .i64 0) (.int .i64 0) (.int .i64 0) (.int .i64 0) (.int .i64 0)
      have HPf : PlanMO (set5 w1 (w.heap.size + 1) (.int .i64 0) (.int .i64 0) (.int .i64 0) (.int .i64 0) (.int .i64 0)) M := HPM.out.heap (block_set5 (by omega) _ _ _ _ _)
      have HWf := within_farO5 HWI.out (Nat.le_succ w.heap.size) (.int .i64 0) (.int .i64 0) (.int .i64 0) (.int .i64 0) (.int .i64 0)
      unfold set5 at HF HPf HWf
      generalize (((((w1.setCell ⟨w.heap.size + 1, 0, none⟩ (.int .i64 0)).setCell ⟨w.heap.size + 1, 1, none⟩ (.int .i64 0)).setCell ⟨w.heap.size + 1, 2, none⟩ (.int .i64 0)).setCell ⟨w.heap.size + 1, 3, none⟩ (.int .i64 0)).setCell ⟨w.heap.size + 1, 4, none⟩ (.int .i64 0)) = wf at HF HPf HWf ⊢
      have e0 := HF.c0
      have e1 := HF.c1
      have e2 := HF.c2
      have e3 := HF.c3
      have e4 := HF.c4
      rw [← HQ.out]
      simp only [Exit.jump]
      refine bodyPost_ret (v := .agg #[.int .i64 0, .int .i64 0, .int .i64 0, .int .i64 0, .int .i64 0]) (by simp [results, go_sem, e0, e1, e2, e3, e4]) rfl ?_
      exact ⟨by rw [E.out]; rfl, HPf, HWf⟩
    · rw [decide_eq_false hT]
      have h1 : 1 < rsum r := by omega
      obtain ⟨D, hD⟩ := HPM.out
      have q0 := HT3.out.c0
      have q1 := HT3.out.c1
      have q2 := HT3.out.c2
      rcases hD.look h8 with ⟨hh, hrun⟩ | ⟨hh, hrun⟩
      · simp only [planVO] at hrun
        have S1 := (Below.refl _ w1).alloc (Nat.le_refl _) (.cells #[.int .i64 ((planO r).need : Int), .int .i64 ((planO r).few : Int), .int .i64 ((planO r).first.1 : Int), .int .i64 ((planO r).first.2.1 : Int), .int .i64 ((planO r).first.2.2 : Int)] 104)
        have HU4 := Lib.hid (HT4.out.step S1)
        have HPf0 := Lib.hid (HPM.out.step S1)
        have HWf0 := Lib.hid (HWI.out.trans (Within.of_below S1))
        have c0 := HU4.out.c0
        have f0 := HU4.out.f 0
        have c1 := HU4.out.c1
        have f1 := HU4.out.f 1
        have c2 := HU4.out.c2
        have f2 := HU4.out.f 2
        have c3 := HU4.out.c3
        have f3 := HU4.out.f 3
        have c4 := HU4.out.c4
        have f4 := HU4.out.f 4
        clear hD S1
        go_wp2
        have HF := HU4.out.set (.int .i64 ((planO r).need : Int)) (.int .i64 ((planO r).few : Int)) (.int .i64 ((planO r).first.1 : Int)) (.int .i64 ((planO r).first.2.1 : Int)) (.int .i64 ((planO r).first.2.2 : Int))
        have HPf : PlanMO (set5 (w1.alloc (.cells #[.int .i64 ((planO r).need : Int), .int .i64 ((planO r).few : Int), .int .i64 ((planO r).first.1 : Int), .int .i64 ((planO r).first.2.1 : Int), .int .i64 ((planO r).first.2.2 : Int)] 104)) (w.heap.size + 1) (.int .i64 ((planO r).need : Int)) (.int .i64 ((planO r).few : Int)) (.int .i64 ((planO r).first.1 : Int)) (.int .i64 ((planO r).first.2.1 : Int)) (.int .i64 ((planO r).first.2.2 : Int))) M := HPf0.out.heap (block_set5 (by omega) _ _ _ _ _)
        have HWf := within_farO5 HWf0.out (Nat.le_succ w.heap.size) (.int .i64 ((planO r).need : Int)) (.int .i64 ((planO r).few : Int)) (.int .i64 ((planO r).first.1 : Int)) (.int .i64 ((planO r).first.2.1 : Int)) (.int .i64 ((planO r).first.2.2 : Int))
        unfold set5 at HF HPf HWf
        generalize ((((((w1.alloc (.cells #[.int .i64 ((planO r).need : Int), .int .i64 ((planO r).few : Int), .int .i64 ((planO r).first.1 : Int), .int .i64 ((planO r).first.2.1 : Int), .int .i64 ((planO r).first.2.2 : Int)] 104)).setCell ⟨w.heap.size + 1, 0, none⟩ (.int .i64 ((planO r).need : Int))).setCell ⟨w.heap.size + 1, 1, none⟩ (.int .i64 ((planO r).few : Int))).setCell ⟨w.heap.size + 1, 2, none⟩ (.int .i64 ((planO r).first.1 : Int))).setCell ⟨w.heap.size + 1, 3, none⟩ (.int .i64 ((planO r).first.2.1 : Int))).setCell ⟨w.heap.size + 1, 4, none⟩ (.int .i64 ((planO r).first.2.2 : Int))) = wf at HF HPf HWf ⊢
        have e0 := HF.c0
        have e1 := HF.c1
        have e2 := HF.c2
        have e3 := HF.c3
        have e4 := HF.c4
        rw [← HQ.out]
        simp only [Exit.jump]
        refine bodyPost_ret (v := .agg #[.int .i64 ((planO r).need : Int), .int .i64 ((planO r).few : Int), .int .i64 ((planO r).first.1 : Int), .int .i64 ((planO r).first.2.1 : Int), .int .i64 ((planO r).first.2.2 : Int)]) (by simp [results, go_sem, e0, e1, e2, e3, e4]) rfl ?_
        exact ⟨rfl, HPf, HWf⟩
      · simp only [zeroPlan] at hrun
        have hse := HSE.out h1
        have S1 := (Below.refl _ w1).alloc (Nat.le_refl _) (.cells #[.int .i64 0, .int .i64 0, .int .i64 0, .int .i64 0, .int .i64 0] 104)
        have S2 := (Below.refl _ (w1.alloc (.cells #[.int .i64 0, .int .i64 0, .int .i64 0, .int .i64 0, .int .i64 0] 104))).alloc (Nat.le_refl _) (.cells #[.int .i64 0, .int .i64 0, .int .i64 0, .int .i64 0, .int .i64 0] 104)
        have HV3 := Lib.hid ((HT3.out.step S1).step S2)
        have HV4 := Lib.hid ((HT4.out.step S1).step S2)
        have HV7 := Lib.hid (FiveO.new (w1.alloc (.cells #[.int .i64 0, .int .i64 0, .int .i64 0, .int .i64 0, .int .i64 0] 104)) (.int .i64 0) (.int .i64 0) (.int .i64 0) (.int .i64 0) (.int .i64 0) (w1.heap.size + 1) (by simp))
        have HVM := Lib.hid ((HPM.out.step S1).step S2)
        have HVI := Lib.hid ((HWI.out.trans (Within.of_below S1)).trans (Within.of_below S2))
        have htop : w.heap.size + 1 < w1.heap.size := HT4.out.lt
        have hc2 : 2 ≤ cntR r := hse.1
        have HS0 := HSA.out 0 (by omega)
        rw [(hse.2.1 0 (by omega)).2 rfl] at HS0
        have HS0 := Lib.hid HS0
        clear hD S1 S2 hse
        go_upto_region 7 with fail
        clear hrun q0 q1 q2
        generalize (w1.alloc (.cells #[.int .i64 0, .int .i64 0, .int .i64 0, .int .i64 0, .int .i64 0] 104)).alloc (.cells #[.int .i64 0, .int .i64 0, .int .i64 0, .int .i64 0, .int .i64 0] 104) = wb at HV3 HV4 HV7 HVM HVI ⊢
        have q0 := HV3.out.c0
        have q1 := HV3.out.c1
        have q2 := HV3.out.c2
        go_wp2_with fail
        refine (HS0.out wb).mono ?_
        rintro e v0 ⟨rfl, hb0⟩
        have hA := (Below.refl _ v0).alloc (Nat.le_refl _) (.cells #[.int .i64 ((splitR r (0 + 1)).1 : Int), .int .i64 ((splitR r (0 + 1)).2.1 : Int), .int .i64 ((splitR r (0 + 1)).2.2 : Int)] 102)
        have h3 : 3 ≤ cntR r := HC3.out h1
        have h7l : w1.heap.size + 1 < v0.heap.size := Nat.lt_of_lt_of_le HV7.out.lt hb0.size
        have HL := Lib.hid (show LWO w M (w1.heap.size + 1) v0.heap.size r (splitR r 1) (planFO r (1 - 1)) _ from ⟨(HVM.out.step hb0).step hA, (HV3.out.step hb0).step hA, (HV4.out.step hb0).step hA, (HV7.out.step hb0).step hA, Three.new v0 _ _ _ _ rfl, (HVI.out.trans (Within.of_below hb0)).trans (Within.of_below hA)⟩)
        clear hb0 hA q0 q1 q2
        go_wp2_with fail
        go_step3
        rename_i K hK
        show K _ _
        refine hK _ _ ?_
        exact HGo.out (cntR r - 1) _ _ ⟨1, w1.heap.size, w1.heap.size + 1, v0.heap.size, _, _, _, _, _, _, _, _, _, _, _, _, _, _, _, _, _, _, _, _, _, _, _, _, _, _, _, _, _, _, _, _, _, _, _, _, _, _, _, _, _, _, _, rfl, Nat.le_refl _, h3, by omega, by omega, by omega, rfl, HL⟩
theorem planLessO : ∀ m, PlanLessO m
  | 0 => fun r h => absurd h (by omega)
  | m + 1 => fun r h h8 w M hp => planOfO_step m (planLessO m) r h h8 w M hp
theorem planOfO_any (r : Row) (h8 : rsum r ≤ 8) (w : World) (M : Nat) (hp : PlanMO w M) :
    Calls Try.prog 141 #[.map (some M), .agg #[.int .i64 (r.1 : Int), .int .i64 (r.2.1 : Int), .int .i64 (r.2.2 : Int)]] w fun e w' => e = .returned (planVO (planO r)) ∧ PlanMO w' M ∧ Within M (M + 1) w w' :=
  planLessO (massR r + 1) r (Nat.lt_succ_self _) h8 w M hp
end Go.Proofs.Ytdkffkgoalgjmac
