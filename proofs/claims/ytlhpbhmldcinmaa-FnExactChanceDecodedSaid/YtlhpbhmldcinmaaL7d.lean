/- Chances: the specification's fractions; draws by false answers; sums of them. -/
import Derived.Test.YtlhpbhmldcinmaaL7c
import Derived.Test.YtlhpbhmldcinmaaUpd
import Derived.Deep.RegionHeld3
import Derived.Deep.DeepCutAuto
import Derived.Deep.CutRange
namespace Go.Proofs.Ytlhpbhmldcinmaa
open Go.RowKit Go.ChangeShapes Go.WideShapes
set_option linter.unusedVariables false

set_option maxRecDepth 100000 in
set_option maxHeartbeats 4000000 in
theorem l7Cut_any (p q : Nat) (hq : 1 ≤ q) (hp : p ≤ 1000000000000000000) (hq2 : q ≤ 1000000000000000000) (w : World) :
    Calls Try.prog 52 #[.int .i64 (p : Int), .int .i64 (q : Int)] w fun e w' => e = .returned (.agg #[.int .i64 ((fr1 p q : Nat) : Int), .int .i64 ((fr2 p q : Nat) : Int)]) ∧ Below w.heap.size w w' := by
  have HR0 := Lib.hid (Two.new w (.int .i64 0) (.int .i64 0) 28 w.heap.size rfl)
  have HB0 := Lib.hid ((Below.refl w.heap.size w).alloc (Nat.le_refl _) (.cells #[.int .i64 0, .int .i64 0] 28))
  have HG := Lib.hid (fr_gcd_pos p hq)
  go_enter Try.func52, Try.ntmps52
  go_wp2_with fail
  go_loopw [5, 6] (fun x y wr => ∃ (d r : Nat), x = .int .i64 (d : Int) ∧ y = .int .i64 (r : Int) ∧ d ≤ 1000000000000000000 ∧ r ≤ 1000000000000000000 ∧ Hid (Nat.gcd d r = Nat.gcd p q) ∧ Hid (Two wr w.heap.size (.int .i64 0) (.int .i64 0) 28) ∧ Hid (Below w.heap.size w wr)) (fun _ y _ => (intOf y).toNat)
  case atStart => exact ⟨p, q, rfl, rfl, hp, hq2, Lib.hid rfl, HR0, HB0⟩
  case round =>
    clear HR0 HB0
    obtain ⟨d, r, rfl, rfl, hd, hr, HD, HR, HB⟩ := hrel
    by_cases hlt : r = 0
    · subst hlt
      have hg := gcd_done p q d HD.out
      have hd1 : 1 ≤ d := by have := HG.out; omega
      have HD2 := Lib.hid (HR.out.step (Below.refl _ _).drew)
      have HF1 : Hid (IntKind.i64.wrap ((p : Int) / (d : Int)) = ((fr1 p q : Nat) : Int)) := Lib.hid (by rw [hg, show (p : Int) / ((Nat.gcd p q : Nat) : Int) = ((fr1 p q : Nat) : Int) from (Int.natCast_ediv _ _).symm]; have := fr1_le p q; exact IntWalk.i64_in _ (by omega))
      have HF2 : Hid (IntKind.i64.wrap ((q : Int) / (d : Int)) = ((fr2 p q : Nat) : Int)) := Lib.hid (by rw [hg, show (q : Int) / ((Nat.gcd p q : Nat) : Int) = ((fr2 p q : Nat) : Int) from (Int.natCast_ediv _ _).symm]; have := fr2_le p q; exact IntWalk.i64_in _ (by omega))
      have hd0 : ¬ d = 0 := by omega
      have HL := Lib.hid (fun W => l1Most_any (d : Int) 1 W)
      rw [if_pos (by omega)] at HL
      clear hg
      go_wp2_with fail
      replace HB := Lib.hid HB.out.drew
      refine wp_region_still_tail 9 (by kernel_rfl) (by kernel_rfl) ?_
      change wpStill _ _ wr.drew (fun a' => wpList _ _ _ _ a' wr.drew) _ _
      generalize wr.drew = wd at HD2 HB ⊢
      have q0 := HD2.out.c0
      have q1 := HD2.out.c1
      have q2 := HD2.out.f0
      have q3 := HD2.out.f1
      simp only [List.take_succ_cons, List.take_zero, List.drop_succ_cons, List.drop_zero]
      repeat still_step
      still_call (HL.out wd)
      repeat still_step
      still_call (HL.out wd)
      repeat still_step
      refine wpStill_nil ?_
      simp only [HF1.out, HF2.out]
      all_goals
        go_wp2
        obtain ⟨hs, hw⟩ := stored2 HD2.out.row (.int .i64 ((fr1 p q : Nat) : Int)) (.int .i64 ((fr2 p q : Nat) : Int))
        generalize ((wd.setCell ⟨w.heap.size, 0, none⟩ (.int .i64 ((fr1 p q : Nat) : Int))).setCell ⟨w.heap.size, 1, none⟩ (.int .i64 ((fr2 p q : Nat) : Int))) = wf at hs hw ⊢
        have e0 := two0 hs
        have e1 := two1 hs
        refine bodyPost_ret (v := .agg #[.int .i64 ((fr1 p q : Nat) : Int), .int .i64 ((fr2 p q : Nat) : Int)]) (by simp [results, go_sem, e0, e1]) rfl ?_
        exact ⟨rfl, HB.out.trans (hw.below (Nat.le_refl _) HB.out.size)⟩
    · have hr1 : 1 ≤ r := by omega
      have HN := Lib.hid (gcd_next p q d r HD.out)
      have hlt2 := Nat.mod_lt d hr1
      have HM : Hid ((d : Int) % (r : Int) = ((d % r : Nat) : Int)) := Lib.hid (Int.natCast_emod _ _).symm
      go_wp2_with fail
      go_quiet (fail)
      go_wp2
      go_roundw
      case rel => exact ⟨r, d % r, rfl, by rw [HM.out], hr, by omega, HN, Lib.hid (HR.out.step (below_drewN (Below.refl _ _) _)), Lib.hid (below_drewN HB.out _)⟩
      case measure => rw [HM.out]; simp [intOf]; omega
/-- Draws by false answers, as the list's entries. -/
def wdI (a b m : Nat) (i : Nat) : Int := ((wd a b m i : Nat) : Int)
theorem wdI_all (a b m : Nat) : upd (wdI a b m) (m + 1) (m + 1) = zsN (wd a b m) (m + 1) := by rw [upd_all]; rfl
theorem wd_cast (a b m k : Nat) : ((ways m k : Nat) : Int) * ((dr a b m k : Nat) : Int) = wdI a b m k := (Int.natCast_mul _ _).symm
set_option maxRecDepth 100000 in
set_option maxHeartbeats 8000000 in
theorem drawsByFalse_any (a b m : Nat) (hb : b ≤ 10) (ha : a ≤ b) (hm : m ≤ 12) (w : World) :
    Calls Try.prog 58 #[.agg #[.int .i64 (a : Int), .int .i64 (b : Int)], .int .i64 (m : Int)] w fun e w' => ∃ g, e = .returned (.slice (some ⟨g, 0, none⟩) (m + 1) (m + 1)) ∧ w.heap.size ≤ g ∧ w'.heap[g]? = some (.cells ((zsN (wd a b m) (m + 1)).map (Value.int .i64)).toArray 3 (0, 0)) ∧ Below w.heap.size w w' := by
  have HT := Lib.hid (Two.new w (.int .i64 (a : Int)) (.int .i64 (b : Int)) 25 w.heap.size rfl)
  have HB := Lib.hid ((Below.refl w.heap.size w).alloc (Nat.le_refl _) (.cells #[.int .i64 (a : Int), .int .i64 (b : Int)] 25))
  have hsa : (w.alloc (.cells #[.int .i64 (a : Int), .int .i64 (b : Int)] 25)).heap.size = w.heap.size + 1 := by simp
  have hmk := makeInts1 m (by omega)
  have H0 : Hid (((w.alloc (.cells #[.int .i64 (a : Int), .int .i64 (b : Int)] 25)).alloc (.cells (Array.replicate (m + 1) (Value.int .i64 0)) 3)).heap[w.heap.size + 1]? = some (.cells ((upd (wdI a b m) (m + 1) 0).map (Value.int .i64)).toArray 3 (0, 0))) := by
    show _ = _
    rw [upd_zero]
    simpa using alloc_row (w.alloc (.cells #[.int .i64 (a : Int), .int .i64 (b : Int)] 25)) (Array.replicate (m + 1) (Value.int .i64 0)) 3
  have HB1 := (Below.refl _ (w.alloc (.cells #[.int .i64 (a : Int), .int .i64 (b : Int)] 25))).alloc (Nat.le_refl _) (.cells (Array.replicate (m + 1) (Value.int .i64 0)) 3)
  have HT0 := Lib.hid (HT.out.step HB1)
  have HB0 := Lib.hid (below_trans HB.out HB1)
  clear HT HB HB1
  go_enter Try.func58, Try.ntmps58
  go_wp2_with fail
  clear hmk
  go_loopw [14] (fun i wr => ∃ (k : Nat), k ≤ m + 1 ∧ i = .int .i64 k ∧ Hid (wr.heap[w.heap.size + 1]? = some (.cells ((upd (wdI a b m) (m + 1) k).map (Value.int .i64)).toArray 3 (0, 0))) ∧ Hid (Two wr w.heap.size (.int .i64 (a : Int)) (.int .i64 (b : Int)) 25) ∧ Hid (Below w.heap.size w wr)) (fun i _ => m + 1 - (intOf i).toNat)
  case atStart => exact ⟨0, Nat.zero_le _, rfl, H0, HT0, HB0⟩
  case round =>
    clear H0 HT0 HB0 hsa
    obtain ⟨k, hk, rfl, HO, HT, HB⟩ := hrel
    by_cases hlt : k < m + 1
    · have HC := Lib.hid (fun W => waysOf_impl m k (by omega) (by omega) W)
      have HD := Lib.hid (fun W => draws_any a b m k hb ha hm (by omega) W)
      have HS := Lib.hid (wd_cast a b m k)
      have hbd := wd_le a b m k hb ha hm (by omega)
      have hx : 0 ≤ ((ways m k : Nat) : Int) * ((dr a b m k : Nat) : Int) ∧ ((ways m k : Nat) : Int) * ((dr a b m k : Nat) : Int) ≤ 1000000000000 := by rw [HS.out]; unfold wdI; omega
      clear hbd
      generalize ((ways m k : Nat) : Int) = x at HC HS hx
      generalize ((dr a b m k : Nat) : Int) = y at HD HS hx
      have h0 := HT.out.c0
      have h1 := HT.out.c1
      go_wp2_with fail
      refine (HC.out _).mono ?_
      rintro e w1 ⟨rfl, hw⟩
      have hw := hw.symm
      subst hw
      go_wp2_with fail
      refine (HD.out _).mono ?_
      rintro e w2 ⟨rfl, hbb⟩
      have hlo := row_ltI HO.out
      have hrow : w2.heap[w.heap.size + 1]? = some (.cells ((upd (wdI a b m) (m + 1) k).map (Value.int .i64)).toArray 3 (0, 0)) := (hbb.block _ hlo).trans HO.out
      have HT2 := Lib.hid (HT.out.step hbb)
      have HB2 := Lib.hid (below_trans HB.out hbb)
      clear hbb HT HB h0 h1 HO hlo HC HD
      have HF := Lib.hid (upd_set (wdI a b m) (m + 1) k)
      have hcell := getD_cell hrow (i := k) (by rw [upd_len]; exact hlt)
      have hfr := row_freeI hrow k
      have HO2 := Lib.hid (row_setI hrow k (.int .i64 (wdI a b m k)))
      rw [map_set, HF.out] at HO2
      have HW := Lib.hid (within_set (Within.refl (w.heap.size + 1) (w.heap.size + 2) w2) (Nat.le_refl _) (by omega) k (.int .i64 (wdI a b m k)))
      clear hrow HF
      rw [← HS.out] at HO2 HW
      generalize (upd (wdI a b m) (m + 1) k).getD k 0 = z at hcell
      go_wp2
      go_roundw
      case rel => exact ⟨k + 1, by omega, by go_num, HO2.out, Lib.hid (HT2.out.within HW.out (.inl (by omega))), Lib.hid (HB2.out.trans (HW.out.below (by omega) HB2.out.size))⟩
      case measure => simp [intOf]; omega
    · obtain rfl : k = m + 1 := by omega
      rw [wdI_all] at HO
      go_wp2
      go_ret
      exact ⟨_, rfl, Nat.le_succ _, HO.out, HB.out⟩
end Go.Proofs.Ytlhpbhmldcinmaa
